/-
  No cell of these rows narrows 'for every input' (looked for: loops, veiled, ifaces, maps, wideKeys, modest, calm, conditions, laid).
  DERIVED. THE GIVEN ROWS OF THIS SEAT. 4 by the template 'for every input the law returns true; each argument reads behind the call as it read before'; 0 by the template 'total and deterministic' (their statements: YtajhfijpbfikkaaTotals.lean).
  GIVEN WITH THE SEED: the statements are not yours to turn. If you find one false, say at which input.
  Laid BY PROGRAM, IN A SANDBOX (cutbox-rows.mjs): the forced cells as the released guide's own fill.sh prints them over the translation 4e6fb6eb2a112004… (all of the seat's roots in one cut). By AI agents, Wed Nov 11 2026. No macro, syntax, notation, axiom, sorry.
-/
import Derived.Test.YtajhfijpbfikkaaChecked
import GoSem.Claim
import GoSem.ClaimJoined
import GoSem.ClaimMapViews
import Derived.JoinedTies
import Derived.KernelRfl
namespace Go.Proofs.Ytajhfijpbfikkaa
/- THE CELL 'sum', in the pinned program and in every row, IS THE sha256 OF THE DUMP (.gsa) THAT YtajhfijpbfikkaaProg.lean LOADS. Nothing in Lean hashes anything: it is a label: what it is worth is what the hold of that sum in a sandbox is worth. -/
noncomputable def Try.pinned : Pinned := { name := "ytajhfijpbfikkaa", sum := "4e6fb6eb2a112004bc58af78aed42fa09bf156ac4cd484fb0cacc92aa3e465c8", checked := Try.checked }
namespace Rows
def none {H : Type} : Left H := { results := [], args := [] }

/-- 'portholelaw05.RawReads': WHATEVER THE INPUT: true; the input reads as it did. -/
def rawReadsSpec : ChangeSpec := { name := "rawReads", fn := fun _ => fun
  | [d1, d2] => { results := [.lit (.bool true)], args := [d1, d2] }
  | _ => none }
def rawReadsRow : OpenClaim := { program := "ytajhfijpbfikkaa", sum := "4e6fb6eb2a112004bc58af78aed42fa09bf156ac4cd484fb0cacc92aa3e465c8", func := "porthole/portholelaw05.RawReads", spec := "rawReads", apart := false }
def RawReadsSaid : Prop := rawReadsRow.holds Try.pinned (OpenSpec.ofChange rawReadsSpec)

/-- ITS FALSE NEIGHBOUR: 'it returns false'. Refute it at one input. -/
def rawReadsWrong : ChangeSpec := { name := "rawReads", fn := fun _ => fun
  | [d1, d2] => { results := [.lit (.bool false)], args := [d1, d2] }
  | _ => none }
def RawReadsWrongFalsely : Prop := rawReadsRow.holds Try.pinned (OpenSpec.ofChange rawReadsWrong)

/-- 'portholelaw05.RawJoins': WHATEVER THE INPUT: true; the input reads as it did. -/
def rawJoinsSpec : ChangeSpec := { name := "rawJoins", fn := fun _ => fun
  | [d] => { results := [.lit (.bool true)], args := [d] }
  | _ => none }
def rawJoinsRow : OpenClaim := { program := "ytajhfijpbfikkaa", sum := "4e6fb6eb2a112004bc58af78aed42fa09bf156ac4cd484fb0cacc92aa3e465c8", func := "porthole/portholelaw05.RawJoins", spec := "rawJoins", apart := false }
def RawJoinsSaid : Prop := rawJoinsRow.holds Try.pinned (OpenSpec.ofChange rawJoinsSpec)

/-- ITS FALSE NEIGHBOUR: 'it returns false'. Refute it at one input. -/
def rawJoinsWrong : ChangeSpec := { name := "rawJoins", fn := fun _ => fun
  | [d] => { results := [.lit (.bool false)], args := [d] }
  | _ => none }
def RawJoinsWrongFalsely : Prop := rawJoinsRow.holds Try.pinned (OpenSpec.ofChange rawJoinsWrong)

/-- 'portholelaw05.RawFits': WHATEVER THE INPUT: true; the input reads as it did. -/
def rawFitsSpec : ChangeSpec := { name := "rawFits", fn := fun _ => fun
  | [d] => { results := [.lit (.bool true)], args := [d] }
  | _ => none }
def rawFitsRow : OpenClaim := { program := "ytajhfijpbfikkaa", sum := "4e6fb6eb2a112004bc58af78aed42fa09bf156ac4cd484fb0cacc92aa3e465c8", func := "porthole/portholelaw05.RawFits", spec := "rawFits", apart := false }
def RawFitsSaid : Prop := rawFitsRow.holds Try.pinned (OpenSpec.ofChange rawFitsSpec)

/-- ITS FALSE NEIGHBOUR: 'it returns false'. Refute it at one input. -/
def rawFitsWrong : ChangeSpec := { name := "rawFits", fn := fun _ => fun
  | [d] => { results := [.lit (.bool false)], args := [d] }
  | _ => none }
def RawFitsWrongFalsely : Prop := rawFitsRow.holds Try.pinned (OpenSpec.ofChange rawFitsWrong)

/-- 'portholelaw05.RawOnes': WHATEVER THE INPUT: true; the input reads as it did. -/
def rawOnesSpec : ChangeSpec := { name := "rawOnes", fn := fun _ => fun
  | [d1, d2] => { results := [.lit (.bool true)], args := [d1, d2] }
  | _ => none }
def rawOnesRow : OpenClaim := { program := "ytajhfijpbfikkaa", sum := "4e6fb6eb2a112004bc58af78aed42fa09bf156ac4cd484fb0cacc92aa3e465c8", func := "porthole/portholelaw05.RawOnes", spec := "rawOnes", apart := false }
def RawOnesSaid : Prop := rawOnesRow.holds Try.pinned (OpenSpec.ofChange rawOnesSpec)

/-- ITS FALSE NEIGHBOUR: 'it returns false'. Refute it at one input. -/
def rawOnesWrong : ChangeSpec := { name := "rawOnes", fn := fun _ => fun
  | [d1, d2] => { results := [.lit (.bool false)], args := [d1, d2] }
  | _ => none }
def RawOnesWrongFalsely : Prop := rawOnesRow.holds Try.pinned (OpenSpec.ofChange rawOnesWrong)

/- THE SECOND FORM. 'bulk': how many values and letters a reading holds, each counted each time it is reached (what is shared counts as often as it is met; a slice's spare places count too). A statement '..UptoSaid' is the law's where the arguments, and the package variables that the reading takes, are together of bulk at most 1048576: NARROWER than '..Said'. Prove '..Said' where nothing that the law and all that it calls make is longer than what came in: it says more and counts as full. Else prove '..UptoSaid'. A law counts once. -/
mutual
def uptoBulk {H : Type} : DataW H → Nat
  | .lit (.string bytes) => bytes.length + 1
  | .lit _ => 1
  | .nil => 1
  | .ptr d => uptoBulk d + 1
  | .slice elems spare => uptoBulkAll elems + uptoBulkAll spare + 1
  | .agg parts => uptoBulkAll parts + 1
  | .iface _ d => uptoBulk d + 1
  | .map entries => uptoBulkEntries entries + 1
  | .held _ => 1
def uptoBulkAll {H : Type} : List (DataW H) → Nat
  | [] => 0
  | d :: r => uptoBulk d + uptoBulkAll r
def uptoBulkEntries {H : Type} : List (Lit × DataW H) → Nat
  | [] => 0
  | x :: r => uptoBulkEntry x + uptoBulkEntries r
def uptoBulkEntry {H : Type} : Lit × DataW H → Nat
  | (.string bytes, d) => bytes.length + uptoBulk d + 1
  | (_, d) => uptoBulk d + 1
 end
def uptoSmall : (H : Type) → List (DataW H) → Bool := fun _ ds => decide (uptoBulkAll ds ≤ 1048576)
def OpenSpec.upto (s : _root_.Go.ChangeSpec) : _root_.Go.OpenSpec := { _root_.Go.OpenSpec.ofChange s with cond := some uptoSmall }

/-- 'portholelaw05.RawReads', WHERE WHAT IT READS IS OF BULK AT MOST 1048576: true; the input reads as it did. -/
def rawReadsUptoRow : OpenClaim := { program := "ytajhfijpbfikkaa", sum := "4e6fb6eb2a112004bc58af78aed42fa09bf156ac4cd484fb0cacc92aa3e465c8", func := "porthole/portholelaw05.RawReads", spec := "rawReads", apart := false, narrowed := true }
def RawReadsUptoSaid : Prop := rawReadsUptoRow.holds Try.pinned (OpenSpec.upto rawReadsSpec)

/-- 'portholelaw05.RawJoins', WHERE WHAT IT READS IS OF BULK AT MOST 1048576: true; the input reads as it did. -/
def rawJoinsUptoRow : OpenClaim := { program := "ytajhfijpbfikkaa", sum := "4e6fb6eb2a112004bc58af78aed42fa09bf156ac4cd484fb0cacc92aa3e465c8", func := "porthole/portholelaw05.RawJoins", spec := "rawJoins", apart := false, narrowed := true }
def RawJoinsUptoSaid : Prop := rawJoinsUptoRow.holds Try.pinned (OpenSpec.upto rawJoinsSpec)

/-- 'portholelaw05.RawFits', WHERE WHAT IT READS IS OF BULK AT MOST 1048576: true; the input reads as it did. -/
def rawFitsUptoRow : OpenClaim := { program := "ytajhfijpbfikkaa", sum := "4e6fb6eb2a112004bc58af78aed42fa09bf156ac4cd484fb0cacc92aa3e465c8", func := "porthole/portholelaw05.RawFits", spec := "rawFits", apart := false, narrowed := true }
def RawFitsUptoSaid : Prop := rawFitsUptoRow.holds Try.pinned (OpenSpec.upto rawFitsSpec)

/-- 'portholelaw05.RawOnes', WHERE WHAT IT READS IS OF BULK AT MOST 1048576: true; the input reads as it did. -/
def rawOnesUptoRow : OpenClaim := { program := "ytajhfijpbfikkaa", sum := "4e6fb6eb2a112004bc58af78aed42fa09bf156ac4cd484fb0cacc92aa3e465c8", func := "porthole/portholelaw05.RawOnes", spec := "rawOnes", apart := false, narrowed := true }
def RawOnesUptoSaid : Prop := rawOnesUptoRow.holds Try.pinned (OpenSpec.upto rawOnesSpec)

end Rows
end Go.Proofs.Ytajhfijpbfikkaa
