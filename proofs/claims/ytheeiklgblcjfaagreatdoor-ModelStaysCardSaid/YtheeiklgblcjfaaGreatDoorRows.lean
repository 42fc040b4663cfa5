/-
  NARROWER THAN 'FOR EVERY INPUT', by the rows' own cells (each row's printed sentence says how): ModelActs: laid · ModelStays: laid · OrderValid: laid · OrderLacks: laid · OrderSwaps: laid.
  DERIVED. THE GIVEN ROWS OF THIS SEAT. 5 by the template 'for every input the law returns true; each argument reads behind the call as it read before'; 0 by the template 'total and deterministic' (their statements: YtheeiklgblcjfaaGreatDoorTotals.lean).
  GIVEN WITH THE SEED: the statements are not yours to turn. If you find one false, say at which input.
  Laid BY PROGRAM, IN A SANDBOX (cutbox-rows.mjs): the forced cells as the released guide's own fill.sh prints them over the translation 3e901d0f3a22fde6… (all of the seat's roots in one cut). By AI agents, Wed Nov 11 2026. No macro, syntax, notation, axiom, sorry.
-/
import Derived.Test.YtheeiklgblcjfaaGreatDoorChecked
import GoSem.Claim
import GoSem.ClaimJoined
import GoSem.ClaimMapViews
import Derived.JoinedTies
import Derived.KernelRfl
namespace Go.Proofs.YtheeiklgblcjfaaGreatDoor
/- THE CELL 'sum', in the pinned program and in every row, IS THE sha256 OF THE DUMP (.gsa) THAT YtheeiklgblcjfaaGreatDoorProg.lean LOADS. Nothing in Lean hashes anything: it is a label: what it is worth is what the hold of that sum in a sandbox is worth. -/
noncomputable def Tryz.pinned : Pinned := { name := "ytheeiklgblcjfaagreatdoor", sum := "3e901d0f3a22fde669413a8463c8495bf70d8cb72c6d000820aa611824b0b262", checked := Tryz.checked }
namespace Rows
def none {H : Type} : Left H := { results := [], args := [] }

/- WHAT THE LISTED PACKAGE-LEVEL VARIABLES READ AS WHEN THE CALL BEGINS. Each datum BY PROGRAM (the guide's laid-datum.mjs) off the statement by which the dump's own 'gosem.cut.vars' lays the variable. In a bare row this is a premise. The card (YtheeiklgblcjfaaGreatDoorCards.lean) ties it to the program's text. -/
def laid_porthole_sign_words {H : Type} : DataW H := .agg [.lit (.string [99, 114, 101, 97, 116, 101]), .lit (.string [110, 111, 114, 109, 97, 108]), .lit (.string [119, 114, 105, 116, 101]), .lit (.string [114, 101, 97, 100]), .lit (.string [115, 101, 110, 100]), .lit (.string [114, 101, 99, 101, 105, 118, 101]), .lit (.string [115, 116, 97, 116, 117, 115]), .lit (.string [112, 101, 101, 107]), .lit (.string [112, 111, 107, 101])]

/-- 'portholelaw18.ModelActs': WHATEVER THE INPUT: true; the input reads as it did. -/
def modelActsSpec : ChangeSpec := { name := "modelActs", fn := fun _ => fun
  | [d1, d2, d3] => { results := [.lit (.bool true)], args := [d1, d2, d3] }
  | _ => none }
def modelActsRow : OpenClaim := { program := "ytheeiklgblcjfaagreatdoor", sum := "3e901d0f3a22fde669413a8463c8495bf70d8cb72c6d000820aa611824b0b262", func := "porthole/portholelaw18.ModelActs", spec := "modelActs", unfollowed := true, recurses := true, named := ["porthole/sign.words"], plainKeys := false, apart := false, laid := [("porthole/sign.words", laid_porthole_sign_words)] }
def ModelActsSaid : Prop := modelActsRow.holds Tryz.pinned (OpenSpec.ofChange modelActsSpec)

/-- ITS FALSE NEIGHBOUR: 'it returns false'. Refute it at one input. -/
def modelActsWrong : ChangeSpec := { name := "modelActs", fn := fun _ => fun
  | [d1, d2, d3] => { results := [.lit (.bool false)], args := [d1, d2, d3] }
  | _ => none }
def ModelActsWrongFalsely : Prop := modelActsRow.holds Tryz.pinned (OpenSpec.ofChange modelActsWrong)

/-- 'portholelaw18.ModelStays': WHATEVER THE INPUT: true; the input reads as it did. -/
def modelStaysSpec : ChangeSpec := { name := "modelStays", fn := fun _ => fun
  | [d1, d2, d3] => { results := [.lit (.bool true)], args := [d1, d2, d3] }
  | _ => none }
def modelStaysRow : OpenClaim := { program := "ytheeiklgblcjfaagreatdoor", sum := "3e901d0f3a22fde669413a8463c8495bf70d8cb72c6d000820aa611824b0b262", func := "porthole/portholelaw18.ModelStays", spec := "modelStays", unfollowed := true, recurses := true, named := ["porthole/sign.words"], plainKeys := false, apart := false, laid := [("porthole/sign.words", laid_porthole_sign_words)] }
def ModelStaysSaid : Prop := modelStaysRow.holds Tryz.pinned (OpenSpec.ofChange modelStaysSpec)

/-- ITS FALSE NEIGHBOUR: 'it returns false'. Refute it at one input. -/
def modelStaysWrong : ChangeSpec := { name := "modelStays", fn := fun _ => fun
  | [d1, d2, d3] => { results := [.lit (.bool false)], args := [d1, d2, d3] }
  | _ => none }
def ModelStaysWrongFalsely : Prop := modelStaysRow.holds Tryz.pinned (OpenSpec.ofChange modelStaysWrong)

/-- 'portholelaw20.OrderValid': WHATEVER THE INPUT: true; the input reads as it did. -/
def orderValidSpec : ChangeSpec := { name := "orderValid", fn := fun _ => fun
  | [d1, d2] => { results := [.lit (.bool true)], args := [d1, d2] }
  | _ => none }
def orderValidRow : OpenClaim := { program := "ytheeiklgblcjfaagreatdoor", sum := "3e901d0f3a22fde669413a8463c8495bf70d8cb72c6d000820aa611824b0b262", func := "porthole/portholelaw20.OrderValid", spec := "orderValid", unfollowed := true, recurses := true, named := ["porthole/sign.words"], plainKeys := false, apart := false, laid := [("porthole/sign.words", laid_porthole_sign_words)] }
def OrderValidSaid : Prop := orderValidRow.holds Tryz.pinned (OpenSpec.ofChange orderValidSpec)

/-- ITS FALSE NEIGHBOUR: 'it returns false'. Refute it at one input. -/
def orderValidWrong : ChangeSpec := { name := "orderValid", fn := fun _ => fun
  | [d1, d2] => { results := [.lit (.bool false)], args := [d1, d2] }
  | _ => none }
def OrderValidWrongFalsely : Prop := orderValidRow.holds Tryz.pinned (OpenSpec.ofChange orderValidWrong)

/-- 'portholelaw20.OrderLacks': WHATEVER THE INPUT: true; the input reads as it did. -/
def orderLacksSpec : ChangeSpec := { name := "orderLacks", fn := fun _ => fun
  | [d1, d2, d3] => { results := [.lit (.bool true)], args := [d1, d2, d3] }
  | _ => none }
def orderLacksRow : OpenClaim := { program := "ytheeiklgblcjfaagreatdoor", sum := "3e901d0f3a22fde669413a8463c8495bf70d8cb72c6d000820aa611824b0b262", func := "porthole/portholelaw20.OrderLacks", spec := "orderLacks", unfollowed := true, recurses := true, named := ["porthole/sign.words"], plainKeys := false, apart := false, laid := [("porthole/sign.words", laid_porthole_sign_words)] }
def OrderLacksSaid : Prop := orderLacksRow.holds Tryz.pinned (OpenSpec.ofChange orderLacksSpec)

/-- ITS FALSE NEIGHBOUR: 'it returns false'. Refute it at one input. -/
def orderLacksWrong : ChangeSpec := { name := "orderLacks", fn := fun _ => fun
  | [d1, d2, d3] => { results := [.lit (.bool false)], args := [d1, d2, d3] }
  | _ => none }
def OrderLacksWrongFalsely : Prop := orderLacksRow.holds Tryz.pinned (OpenSpec.ofChange orderLacksWrong)

/-- 'portholelaw20.OrderSwaps': WHATEVER THE INPUT: true; the input reads as it did. -/
def orderSwapsSpec : ChangeSpec := { name := "orderSwaps", fn := fun _ => fun
  | [d1, d2, d3] => { results := [.lit (.bool true)], args := [d1, d2, d3] }
  | _ => none }
def orderSwapsRow : OpenClaim := { program := "ytheeiklgblcjfaagreatdoor", sum := "3e901d0f3a22fde669413a8463c8495bf70d8cb72c6d000820aa611824b0b262", func := "porthole/portholelaw20.OrderSwaps", spec := "orderSwaps", unfollowed := true, recurses := true, named := ["porthole/sign.words"], plainKeys := false, apart := false, laid := [("porthole/sign.words", laid_porthole_sign_words)] }
def OrderSwapsSaid : Prop := orderSwapsRow.holds Tryz.pinned (OpenSpec.ofChange orderSwapsSpec)

/-- ITS FALSE NEIGHBOUR: 'it returns false'. Refute it at one input. -/
def orderSwapsWrong : ChangeSpec := { name := "orderSwaps", fn := fun _ => fun
  | [d1, d2, d3] => { results := [.lit (.bool false)], args := [d1, d2, d3] }
  | _ => none }
def OrderSwapsWrongFalsely : Prop := orderSwapsRow.holds Tryz.pinned (OpenSpec.ofChange orderSwapsWrong)

/- THE SECOND FORM. 'bulk': how many values and letters a reading holds, each counted each time it is reached (what is shared counts as often as it is met; a slice's spare places count too). A statement '..UptoSaid' is the law's where the arguments, and the package variables that the reading takes, are together of bulk at most 1048576: NARROWER than '..Said'. Prove '..Said' where nothing that the law and all that it calls make is longer than what came in: it says more and counts as full. Else prove '..UptoSaid'. A law counts once. -/
mutual
def uptoBulk {H : Type} : DataW H → Nat
  | .lit (.string bytes) => bytes.length + 1
  | .lit _ => 1
  | .nil => 1
  | .ptr d => uptoBulk d + 1
  | .slice elems spare => uptoBulkAll elems + uptoBulkAll spare + 1
  | .agg parts => uptoBulkAll parts + 1
  | .iface _ d => uptoBulk d + 1
  | .map entries => uptoBulkEntries entries + 1
  | .held _ => 1
def uptoBulkAll {H : Type} : List (DataW H) → Nat
  | [] => 0
  | d :: r => uptoBulk d + uptoBulkAll r
def uptoBulkEntries {H : Type} : List (Lit × DataW H) → Nat
  | [] => 0
  | x :: r => uptoBulkEntry x + uptoBulkEntries r
def uptoBulkEntry {H : Type} : Lit × DataW H → Nat
  | (.string bytes, d) => bytes.length + uptoBulk d + 1
  | (_, d) => uptoBulk d + 1
 end
def uptoSmall : (H : Type) → List (DataW H) → Bool := fun _ ds => decide (uptoBulkAll ds ≤ 1048576)
def OpenSpec.upto (s : _root_.Go.ChangeSpec) : _root_.Go.OpenSpec := { _root_.Go.OpenSpec.ofChange s with cond := some uptoSmall }

/-- 'portholelaw18.ModelActs', WHERE WHAT IT READS IS OF BULK AT MOST 1048576: true; the input reads as it did. -/
def modelActsUptoRow : OpenClaim := { program := "ytheeiklgblcjfaagreatdoor", sum := "3e901d0f3a22fde669413a8463c8495bf70d8cb72c6d000820aa611824b0b262", func := "porthole/portholelaw18.ModelActs", spec := "modelActs", unfollowed := true, recurses := true, named := ["porthole/sign.words"], plainKeys := false, apart := false, laid := [("porthole/sign.words", laid_porthole_sign_words)], narrowed := true }
def ModelActsUptoSaid : Prop := modelActsUptoRow.holds Tryz.pinned (OpenSpec.upto modelActsSpec)

/-- 'portholelaw18.ModelStays', WHERE WHAT IT READS IS OF BULK AT MOST 1048576: true; the input reads as it did. -/
def modelStaysUptoRow : OpenClaim := { program := "ytheeiklgblcjfaagreatdoor", sum := "3e901d0f3a22fde669413a8463c8495bf70d8cb72c6d000820aa611824b0b262", func := "porthole/portholelaw18.ModelStays", spec := "modelStays", unfollowed := true, recurses := true, named := ["porthole/sign.words"], plainKeys := false, apart := false, laid := [("porthole/sign.words", laid_porthole_sign_words)], narrowed := true }
def ModelStaysUptoSaid : Prop := modelStaysUptoRow.holds Tryz.pinned (OpenSpec.upto modelStaysSpec)

/-- 'portholelaw20.OrderValid', WHERE WHAT IT READS IS OF BULK AT MOST 1048576: true; the input reads as it did. -/
def orderValidUptoRow : OpenClaim := { program := "ytheeiklgblcjfaagreatdoor", sum := "3e901d0f3a22fde669413a8463c8495bf70d8cb72c6d000820aa611824b0b262", func := "porthole/portholelaw20.OrderValid", spec := "orderValid", unfollowed := true, recurses := true, named := ["porthole/sign.words"], plainKeys := false, apart := false, laid := [("porthole/sign.words", laid_porthole_sign_words)], narrowed := true }
def OrderValidUptoSaid : Prop := orderValidUptoRow.holds Tryz.pinned (OpenSpec.upto orderValidSpec)

/-- 'portholelaw20.OrderLacks', WHERE WHAT IT READS IS OF BULK AT MOST 1048576: true; the input reads as it did. -/
def orderLacksUptoRow : OpenClaim := { program := "ytheeiklgblcjfaagreatdoor", sum := "3e901d0f3a22fde669413a8463c8495bf70d8cb72c6d000820aa611824b0b262", func := "porthole/portholelaw20.OrderLacks", spec := "orderLacks", unfollowed := true, recurses := true, named := ["porthole/sign.words"], plainKeys := false, apart := false, laid := [("porthole/sign.words", laid_porthole_sign_words)], narrowed := true }
def OrderLacksUptoSaid : Prop := orderLacksUptoRow.holds Tryz.pinned (OpenSpec.upto orderLacksSpec)

/-- 'portholelaw20.OrderSwaps', WHERE WHAT IT READS IS OF BULK AT MOST 1048576: true; the input reads as it did. -/
def orderSwapsUptoRow : OpenClaim := { program := "ytheeiklgblcjfaagreatdoor", sum := "3e901d0f3a22fde669413a8463c8495bf70d8cb72c6d000820aa611824b0b262", func := "porthole/portholelaw20.OrderSwaps", spec := "orderSwaps", unfollowed := true, recurses := true, named := ["porthole/sign.words"], plainKeys := false, apart := false, laid := [("porthole/sign.words", laid_porthole_sign_words)], narrowed := true }
def OrderSwapsUptoSaid : Prop := orderSwapsUptoRow.holds Tryz.pinned (OpenSpec.upto orderSwapsSpec)

end Rows
end Go.Proofs.YtheeiklgblcjfaaGreatDoor
