/-
  NARROWER THAN 'FOR EVERY INPUT', by the rows' own cells (each row's printed sentence says how): TaskBegins: laid · TaskSteps: laid · TaskRuns: laid · TaskAlone: laid · PartSteps: laid · PartOrder: laid · PartGrows: laid.
  DERIVED. THE GIVEN ROWS OF THIS SEAT. 7 by the template 'for every input the law returns true; each argument reads behind the call as it read before'; 0 by the template 'total and deterministic' (their statements: YtjfolhkblbakiaaGreatDoorTotals.lean).
  GIVEN WITH THE SEED: the statements are not yours to turn. If you find one false, say at which input.
  Laid BY PROGRAM, IN A SANDBOX (cutbox-rows.mjs): the forced cells as the released guide's own fill.sh prints them over the translation c53fe0c9cca7ab79… (all of the seat's roots in one cut). By AI agents, Wed Nov 11 2026. No macro, syntax, notation, axiom, sorry.
-/
import Derived.Test.YtjfolhkblbakiaaGreatDoorChecked
import GoSem.Claim
import GoSem.ClaimJoined
import GoSem.ClaimMapViews
import Derived.JoinedTies
import Derived.KernelRfl
namespace Go.Proofs.YtjfolhkblbakiaaGreatDoor
/- THE CELL 'sum', in the pinned program and in every row, IS THE sha256 OF THE DUMP (.gsa) THAT YtjfolhkblbakiaaGreatDoorProg.lean LOADS. Nothing in Lean hashes anything: it is a label: what it is worth is what the hold of that sum in a sandbox is worth. -/
noncomputable def Tryz.pinned : Pinned := { name := "ytjfolhkblbakiaagreatdoor", sum := "c53fe0c9cca7ab79c14ca45cbc82152673723de8c1eb63957bde63f2edf7284a", checked := Tryz.checked }
namespace Rows
def none {H : Type} : Left H := { results := [], args := [] }

/- WHAT THE LISTED PACKAGE-LEVEL VARIABLES READ AS WHEN THE CALL BEGINS. Each datum BY PROGRAM (the guide's laid-datum.mjs) off the statement by which the dump's own 'gosem.cut.vars' lays the variable. In a bare row this is a premise. The card (YtjfolhkblbakiaaGreatDoorCards.lean) ties it to the program's text. -/
def laid_porthole_sign_words {H : Type} : DataW H := .agg [.lit (.string [99, 114, 101, 97, 116, 101]), .lit (.string [110, 111, 114, 109, 97, 108]), .lit (.string [119, 114, 105, 116, 101]), .lit (.string [114, 101, 97, 100]), .lit (.string [115, 101, 110, 100]), .lit (.string [114, 101, 99, 101, 105, 118, 101]), .lit (.string [115, 116, 97, 116, 117, 115]), .lit (.string [112, 101, 101, 107]), .lit (.string [112, 111, 107, 101])]

/-- 'portholelaw13.TaskBegins': WHATEVER THE INPUT: true; the input reads as it did. -/
def taskBeginsSpec : ChangeSpec := { name := "taskBegins", fn := fun _ => fun
  | [d1, d2, d3] => { results := [.lit (.bool true)], args := [d1, d2, d3] }
  | _ => none }
def taskBeginsRow : OpenClaim := { program := "ytjfolhkblbakiaagreatdoor", sum := "c53fe0c9cca7ab79c14ca45cbc82152673723de8c1eb63957bde63f2edf7284a", func := "porthole/portholelaw13.TaskBegins", spec := "taskBegins", unfollowed := true, recurses := true, named := ["porthole/sign.words"], apart := false, laid := [("porthole/sign.words", laid_porthole_sign_words)] }
def TaskBeginsSaid : Prop := taskBeginsRow.holds Tryz.pinned (OpenSpec.ofChange taskBeginsSpec)

/-- ITS FALSE NEIGHBOUR: 'it returns false'. Refute it at one input. -/
def taskBeginsWrong : ChangeSpec := { name := "taskBegins", fn := fun _ => fun
  | [d1, d2, d3] => { results := [.lit (.bool false)], args := [d1, d2, d3] }
  | _ => none }
def TaskBeginsWrongFalsely : Prop := taskBeginsRow.holds Tryz.pinned (OpenSpec.ofChange taskBeginsWrong)

/-- 'portholelaw13.TaskSteps': WHATEVER THE INPUT: true; the input reads as it did. -/
def taskStepsSpec : ChangeSpec := { name := "taskSteps", fn := fun _ => fun
  | [d1, d2, d3] => { results := [.lit (.bool true)], args := [d1, d2, d3] }
  | _ => none }
def taskStepsRow : OpenClaim := { program := "ytjfolhkblbakiaagreatdoor", sum := "c53fe0c9cca7ab79c14ca45cbc82152673723de8c1eb63957bde63f2edf7284a", func := "porthole/portholelaw13.TaskSteps", spec := "taskSteps", unfollowed := true, recurses := true, named := ["porthole/sign.words"], apart := false, laid := [("porthole/sign.words", laid_porthole_sign_words)] }
def TaskStepsSaid : Prop := taskStepsRow.holds Tryz.pinned (OpenSpec.ofChange taskStepsSpec)

/-- ITS FALSE NEIGHBOUR: 'it returns false'. Refute it at one input. -/
def taskStepsWrong : ChangeSpec := { name := "taskSteps", fn := fun _ => fun
  | [d1, d2, d3] => { results := [.lit (.bool false)], args := [d1, d2, d3] }
  | _ => none }
def TaskStepsWrongFalsely : Prop := taskStepsRow.holds Tryz.pinned (OpenSpec.ofChange taskStepsWrong)

/-- 'portholelaw13.TaskRuns': WHATEVER THE INPUT: true; the input reads as it did. -/
def taskRunsSpec : ChangeSpec := { name := "taskRuns", fn := fun _ => fun
  | [d1, d2, d3] => { results := [.lit (.bool true)], args := [d1, d2, d3] }
  | _ => none }
def taskRunsRow : OpenClaim := { program := "ytjfolhkblbakiaagreatdoor", sum := "c53fe0c9cca7ab79c14ca45cbc82152673723de8c1eb63957bde63f2edf7284a", func := "porthole/portholelaw13.TaskRuns", spec := "taskRuns", unfollowed := true, recurses := true, named := ["porthole/sign.words"], apart := false, laid := [("porthole/sign.words", laid_porthole_sign_words)] }
def TaskRunsSaid : Prop := taskRunsRow.holds Tryz.pinned (OpenSpec.ofChange taskRunsSpec)

/-- ITS FALSE NEIGHBOUR: 'it returns false'. Refute it at one input. -/
def taskRunsWrong : ChangeSpec := { name := "taskRuns", fn := fun _ => fun
  | [d1, d2, d3] => { results := [.lit (.bool false)], args := [d1, d2, d3] }
  | _ => none }
def TaskRunsWrongFalsely : Prop := taskRunsRow.holds Tryz.pinned (OpenSpec.ofChange taskRunsWrong)

/-- 'portholelaw13.TaskAlone': WHATEVER THE INPUT: true; the input reads as it did. -/
def taskAloneSpec : ChangeSpec := { name := "taskAlone", fn := fun _ => fun
  | [d1, d2] => { results := [.lit (.bool true)], args := [d1, d2] }
  | _ => none }
def taskAloneRow : OpenClaim := { program := "ytjfolhkblbakiaagreatdoor", sum := "c53fe0c9cca7ab79c14ca45cbc82152673723de8c1eb63957bde63f2edf7284a", func := "porthole/portholelaw13.TaskAlone", spec := "taskAlone", unfollowed := true, recurses := true, named := ["porthole/sign.words"], apart := false, laid := [("porthole/sign.words", laid_porthole_sign_words)] }
def TaskAloneSaid : Prop := taskAloneRow.holds Tryz.pinned (OpenSpec.ofChange taskAloneSpec)

/-- ITS FALSE NEIGHBOUR: 'it returns false'. Refute it at one input. -/
def taskAloneWrong : ChangeSpec := { name := "taskAlone", fn := fun _ => fun
  | [d1, d2] => { results := [.lit (.bool false)], args := [d1, d2] }
  | _ => none }
def TaskAloneWrongFalsely : Prop := taskAloneRow.holds Tryz.pinned (OpenSpec.ofChange taskAloneWrong)

/-- 'portholelaw14.PartSteps': WHATEVER THE INPUT: true; the input reads as it did. -/
def partStepsSpec : ChangeSpec := { name := "partSteps", fn := fun _ => fun
  | [d1, d2, d3] => { results := [.lit (.bool true)], args := [d1, d2, d3] }
  | _ => none }
def partStepsRow : OpenClaim := { program := "ytjfolhkblbakiaagreatdoor", sum := "c53fe0c9cca7ab79c14ca45cbc82152673723de8c1eb63957bde63f2edf7284a", func := "porthole/portholelaw14.PartSteps", spec := "partSteps", unfollowed := true, recurses := true, named := ["porthole/sign.words"], apart := false, laid := [("porthole/sign.words", laid_porthole_sign_words)] }
def PartStepsSaid : Prop := partStepsRow.holds Tryz.pinned (OpenSpec.ofChange partStepsSpec)

/-- ITS FALSE NEIGHBOUR: 'it returns false'. Refute it at one input. -/
def partStepsWrong : ChangeSpec := { name := "partSteps", fn := fun _ => fun
  | [d1, d2, d3] => { results := [.lit (.bool false)], args := [d1, d2, d3] }
  | _ => none }
def PartStepsWrongFalsely : Prop := partStepsRow.holds Tryz.pinned (OpenSpec.ofChange partStepsWrong)

/-- 'portholelaw14.PartOrder': WHATEVER THE INPUT: true; the input reads as it did. -/
def partOrderSpec : ChangeSpec := { name := "partOrder", fn := fun _ => fun
  | [d1, d2, d3] => { results := [.lit (.bool true)], args := [d1, d2, d3] }
  | _ => none }
def partOrderRow : OpenClaim := { program := "ytjfolhkblbakiaagreatdoor", sum := "c53fe0c9cca7ab79c14ca45cbc82152673723de8c1eb63957bde63f2edf7284a", func := "porthole/portholelaw14.PartOrder", spec := "partOrder", unfollowed := true, recurses := true, named := ["porthole/sign.words"], apart := false, laid := [("porthole/sign.words", laid_porthole_sign_words)] }
def PartOrderSaid : Prop := partOrderRow.holds Tryz.pinned (OpenSpec.ofChange partOrderSpec)

/-- ITS FALSE NEIGHBOUR: 'it returns false'. Refute it at one input. -/
def partOrderWrong : ChangeSpec := { name := "partOrder", fn := fun _ => fun
  | [d1, d2, d3] => { results := [.lit (.bool false)], args := [d1, d2, d3] }
  | _ => none }
def PartOrderWrongFalsely : Prop := partOrderRow.holds Tryz.pinned (OpenSpec.ofChange partOrderWrong)

/-- 'portholelaw14.PartGrows': WHATEVER THE INPUT: true; the input reads as it did. -/
def partGrowsSpec : ChangeSpec := { name := "partGrows", fn := fun _ => fun
  | [d1, d2, d3] => { results := [.lit (.bool true)], args := [d1, d2, d3] }
  | _ => none }
def partGrowsRow : OpenClaim := { program := "ytjfolhkblbakiaagreatdoor", sum := "c53fe0c9cca7ab79c14ca45cbc82152673723de8c1eb63957bde63f2edf7284a", func := "porthole/portholelaw14.PartGrows", spec := "partGrows", unfollowed := true, recurses := true, named := ["porthole/sign.words"], apart := false, laid := [("porthole/sign.words", laid_porthole_sign_words)] }
def PartGrowsSaid : Prop := partGrowsRow.holds Tryz.pinned (OpenSpec.ofChange partGrowsSpec)

/-- ITS FALSE NEIGHBOUR: 'it returns false'. Refute it at one input. -/
def partGrowsWrong : ChangeSpec := { name := "partGrows", fn := fun _ => fun
  | [d1, d2, d3] => { results := [.lit (.bool false)], args := [d1, d2, d3] }
  | _ => none }
def PartGrowsWrongFalsely : Prop := partGrowsRow.holds Tryz.pinned (OpenSpec.ofChange partGrowsWrong)

/- THE SECOND FORM. 'bulk': how many values and letters a reading holds, each counted each time it is reached (what is shared counts as often as it is met; a slice's spare places count too). A statement '..UptoSaid' is the law's where the arguments, and the package variables that the reading takes, are together of bulk at most 1048576: NARROWER than '..Said'. Prove '..Said' where nothing that the law and all that it calls make is longer than what came in: it says more and counts as full. Else prove '..UptoSaid'. A law counts once. -/
mutual
def uptoBulk {H : Type} : DataW H → Nat
  | .lit (.string bytes) => bytes.length + 1
  | .lit _ => 1
  | .nil => 1
  | .ptr d => uptoBulk d + 1
  | .slice elems spare => uptoBulkAll elems + uptoBulkAll spare + 1
  | .agg parts => uptoBulkAll parts + 1
  | .iface _ d => uptoBulk d + 1
  | .map entries => uptoBulkEntries entries + 1
  | .held _ => 1
def uptoBulkAll {H : Type} : List (DataW H) → Nat
  | [] => 0
  | d :: r => uptoBulk d + uptoBulkAll r
def uptoBulkEntries {H : Type} : List (Lit × DataW H) → Nat
  | [] => 0
  | x :: r => uptoBulkEntry x + uptoBulkEntries r
def uptoBulkEntry {H : Type} : Lit × DataW H → Nat
  | (.string bytes, d) => bytes.length + uptoBulk d + 1
  | (_, d) => uptoBulk d + 1
 end
def uptoSmall : (H : Type) → List (DataW H) → Bool := fun _ ds => decide (uptoBulkAll ds ≤ 1048576)
def OpenSpec.upto (s : _root_.Go.ChangeSpec) : _root_.Go.OpenSpec := { _root_.Go.OpenSpec.ofChange s with cond := some uptoSmall }

/-- 'portholelaw13.TaskBegins', WHERE WHAT IT READS IS OF BULK AT MOST 1048576: true; the input reads as it did. -/
def taskBeginsUptoRow : OpenClaim := { program := "ytjfolhkblbakiaagreatdoor", sum := "c53fe0c9cca7ab79c14ca45cbc82152673723de8c1eb63957bde63f2edf7284a", func := "porthole/portholelaw13.TaskBegins", spec := "taskBegins", unfollowed := true, recurses := true, named := ["porthole/sign.words"], apart := false, laid := [("porthole/sign.words", laid_porthole_sign_words)], narrowed := true }
def TaskBeginsUptoSaid : Prop := taskBeginsUptoRow.holds Tryz.pinned (OpenSpec.upto taskBeginsSpec)

/-- 'portholelaw13.TaskSteps', WHERE WHAT IT READS IS OF BULK AT MOST 1048576: true; the input reads as it did. -/
def taskStepsUptoRow : OpenClaim := { program := "ytjfolhkblbakiaagreatdoor", sum := "c53fe0c9cca7ab79c14ca45cbc82152673723de8c1eb63957bde63f2edf7284a", func := "porthole/portholelaw13.TaskSteps", spec := "taskSteps", unfollowed := true, recurses := true, named := ["porthole/sign.words"], apart := false, laid := [("porthole/sign.words", laid_porthole_sign_words)], narrowed := true }
def TaskStepsUptoSaid : Prop := taskStepsUptoRow.holds Tryz.pinned (OpenSpec.upto taskStepsSpec)

/-- 'portholelaw13.TaskRuns', WHERE WHAT IT READS IS OF BULK AT MOST 1048576: true; the input reads as it did. -/
def taskRunsUptoRow : OpenClaim := { program := "ytjfolhkblbakiaagreatdoor", sum := "c53fe0c9cca7ab79c14ca45cbc82152673723de8c1eb63957bde63f2edf7284a", func := "porthole/portholelaw13.TaskRuns", spec := "taskRuns", unfollowed := true, recurses := true, named := ["porthole/sign.words"], apart := false, laid := [("porthole/sign.words", laid_porthole_sign_words)], narrowed := true }
def TaskRunsUptoSaid : Prop := taskRunsUptoRow.holds Tryz.pinned (OpenSpec.upto taskRunsSpec)

/-- 'portholelaw13.TaskAlone', WHERE WHAT IT READS IS OF BULK AT MOST 1048576: true; the input reads as it did. -/
def taskAloneUptoRow : OpenClaim := { program := "ytjfolhkblbakiaagreatdoor", sum := "c53fe0c9cca7ab79c14ca45cbc82152673723de8c1eb63957bde63f2edf7284a", func := "porthole/portholelaw13.TaskAlone", spec := "taskAlone", unfollowed := true, recurses := true, named := ["porthole/sign.words"], apart := false, laid := [("porthole/sign.words", laid_porthole_sign_words)], narrowed := true }
def TaskAloneUptoSaid : Prop := taskAloneUptoRow.holds Tryz.pinned (OpenSpec.upto taskAloneSpec)

/-- 'portholelaw14.PartSteps', WHERE WHAT IT READS IS OF BULK AT MOST 1048576: true; the input reads as it did. -/
def partStepsUptoRow : OpenClaim := { program := "ytjfolhkblbakiaagreatdoor", sum := "c53fe0c9cca7ab79c14ca45cbc82152673723de8c1eb63957bde63f2edf7284a", func := "porthole/portholelaw14.PartSteps", spec := "partSteps", unfollowed := true, recurses := true, named := ["porthole/sign.words"], apart := false, laid := [("porthole/sign.words", laid_porthole_sign_words)], narrowed := true }
def PartStepsUptoSaid : Prop := partStepsUptoRow.holds Tryz.pinned (OpenSpec.upto partStepsSpec)

/-- 'portholelaw14.PartOrder', WHERE WHAT IT READS IS OF BULK AT MOST 1048576: true; the input reads as it did. -/
def partOrderUptoRow : OpenClaim := { program := "ytjfolhkblbakiaagreatdoor", sum := "c53fe0c9cca7ab79c14ca45cbc82152673723de8c1eb63957bde63f2edf7284a", func := "porthole/portholelaw14.PartOrder", spec := "partOrder", unfollowed := true, recurses := true, named := ["porthole/sign.words"], apart := false, laid := [("porthole/sign.words", laid_porthole_sign_words)], narrowed := true }
def PartOrderUptoSaid : Prop := partOrderUptoRow.holds Tryz.pinned (OpenSpec.upto partOrderSpec)

/-- 'portholelaw14.PartGrows', WHERE WHAT IT READS IS OF BULK AT MOST 1048576: true; the input reads as it did. -/
def partGrowsUptoRow : OpenClaim := { program := "ytjfolhkblbakiaagreatdoor", sum := "c53fe0c9cca7ab79c14ca45cbc82152673723de8c1eb63957bde63f2edf7284a", func := "porthole/portholelaw14.PartGrows", spec := "partGrows", unfollowed := true, recurses := true, named := ["porthole/sign.words"], apart := false, laid := [("porthole/sign.words", laid_porthole_sign_words)], narrowed := true }
def PartGrowsUptoSaid : Prop := partGrowsUptoRow.holds Tryz.pinned (OpenSpec.upto partGrowsSpec)

end Rows
end Go.Proofs.YtjfolhkblbakiaaGreatDoor
