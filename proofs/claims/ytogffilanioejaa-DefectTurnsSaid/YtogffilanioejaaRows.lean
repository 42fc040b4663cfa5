/-
  No cell of these rows narrows 'for every input' (looked for: loops, veiled, ifaces, maps, wideKeys, modest, calm, conditions, laid).
  DERIVED. THE GIVEN ROWS OF THIS SEAT. 4 by the template 'for every input the law returns true; each argument reads behind the call as it read before'; 0 by the template 'total and deterministic' (their statements: YtogffilanioejaaTotals.lean).
  GIVEN WITH THE SEED: the statements are not yours to turn. If you find one false, say at which input.
  Laid BY PROGRAM, IN A SANDBOX (cutbox-rows.mjs): the forced cells as the released guide's own fill.sh prints them over the translation 0c1b94a14a39b7d6… (all of the seat's roots in one cut). By AI agents, Wed Nov 11 2026. No macro, syntax, notation, axiom, sorry.
-/
import Derived.Test.YtogffilanioejaaChecked
import GoSem.Claim
import GoSem.ClaimJoined
import GoSem.ClaimMapViews
import Derived.JoinedTies
import Derived.KernelRfl
namespace Go.Proofs.Ytogffilanioejaa
/- THE CELL 'sum', in the pinned program and in every row, IS THE sha256 OF THE DUMP (.gsa) THAT YtogffilanioejaaProg.lean LOADS. Nothing in Lean hashes anything: it is a label: what it is worth is what the hold of that sum in a sandbox is worth. -/
noncomputable def Try.pinned : Pinned := { name := "ytogffilanioejaa", sum := "0c1b94a14a39b7d61b957dd71fb5a539f54823f14fb3cdc956939deb4f3a8c1f", checked := Try.checked }
namespace Rows
def none {H : Type} : Left H := { results := [], args := [] }

/-- 'portholelaw07.DefectHolds': WHATEVER THE INPUT: true; the input reads as it did. -/
def defectHoldsSpec : ChangeSpec := { name := "defectHolds", fn := fun _ => fun
  | [d1, d2] => { results := [.lit (.bool true)], args := [d1, d2] }
  | _ => none }
def defectHoldsRow : OpenClaim := { program := "ytogffilanioejaa", sum := "0c1b94a14a39b7d61b957dd71fb5a539f54823f14fb3cdc956939deb4f3a8c1f", func := "porthole/portholelaw07.DefectHolds", spec := "defectHolds", unfollowed := true, recurses := true, apart := false }
def DefectHoldsSaid : Prop := defectHoldsRow.holds Try.pinned (OpenSpec.ofChange defectHoldsSpec)

/-- ITS FALSE NEIGHBOUR: 'it returns false'. Refute it at one input. -/
def defectHoldsWrong : ChangeSpec := { name := "defectHolds", fn := fun _ => fun
  | [d1, d2] => { results := [.lit (.bool false)], args := [d1, d2] }
  | _ => none }
def DefectHoldsWrongFalsely : Prop := defectHoldsRow.holds Try.pinned (OpenSpec.ofChange defectHoldsWrong)

/-- 'portholelaw07.DefectKeeps': WHATEVER THE INPUT: true; the input reads as it did. -/
def defectKeepsSpec : ChangeSpec := { name := "defectKeeps", fn := fun _ => fun
  | [d] => { results := [.lit (.bool true)], args := [d] }
  | _ => none }
def defectKeepsRow : OpenClaim := { program := "ytogffilanioejaa", sum := "0c1b94a14a39b7d61b957dd71fb5a539f54823f14fb3cdc956939deb4f3a8c1f", func := "porthole/portholelaw07.DefectKeeps", spec := "defectKeeps", unfollowed := true, recurses := true, apart := false }
def DefectKeepsSaid : Prop := defectKeepsRow.holds Try.pinned (OpenSpec.ofChange defectKeepsSpec)

/-- ITS FALSE NEIGHBOUR: 'it returns false'. Refute it at one input. -/
def defectKeepsWrong : ChangeSpec := { name := "defectKeeps", fn := fun _ => fun
  | [d] => { results := [.lit (.bool false)], args := [d] }
  | _ => none }
def DefectKeepsWrongFalsely : Prop := defectKeepsRow.holds Try.pinned (OpenSpec.ofChange defectKeepsWrong)

/-- 'portholelaw07.DefectMirror': WHATEVER THE INPUT: true; the input reads as it did. -/
def defectMirrorSpec : ChangeSpec := { name := "defectMirror", fn := fun _ => fun
  | [d] => { results := [.lit (.bool true)], args := [d] }
  | _ => none }
def defectMirrorRow : OpenClaim := { program := "ytogffilanioejaa", sum := "0c1b94a14a39b7d61b957dd71fb5a539f54823f14fb3cdc956939deb4f3a8c1f", func := "porthole/portholelaw07.DefectMirror", spec := "defectMirror", unfollowed := true, recurses := true, apart := false }
def DefectMirrorSaid : Prop := defectMirrorRow.holds Try.pinned (OpenSpec.ofChange defectMirrorSpec)

/-- ITS FALSE NEIGHBOUR: 'it returns false'. Refute it at one input. -/
def defectMirrorWrong : ChangeSpec := { name := "defectMirror", fn := fun _ => fun
  | [d] => { results := [.lit (.bool false)], args := [d] }
  | _ => none }
def DefectMirrorWrongFalsely : Prop := defectMirrorRow.holds Try.pinned (OpenSpec.ofChange defectMirrorWrong)

/-- 'portholelaw07.DefectTurns': WHATEVER THE INPUT: true; the input reads as it did. -/
def defectTurnsSpec : ChangeSpec := { name := "defectTurns", fn := fun _ => fun
  | [d1, d2] => { results := [.lit (.bool true)], args := [d1, d2] }
  | _ => none }
def defectTurnsRow : OpenClaim := { program := "ytogffilanioejaa", sum := "0c1b94a14a39b7d61b957dd71fb5a539f54823f14fb3cdc956939deb4f3a8c1f", func := "porthole/portholelaw07.DefectTurns", spec := "defectTurns", unfollowed := true, recurses := true, apart := false }
def DefectTurnsSaid : Prop := defectTurnsRow.holds Try.pinned (OpenSpec.ofChange defectTurnsSpec)

/-- ITS FALSE NEIGHBOUR: 'it returns false'. Refute it at one input. -/
def defectTurnsWrong : ChangeSpec := { name := "defectTurns", fn := fun _ => fun
  | [d1, d2] => { results := [.lit (.bool false)], args := [d1, d2] }
  | _ => none }
def DefectTurnsWrongFalsely : Prop := defectTurnsRow.holds Try.pinned (OpenSpec.ofChange defectTurnsWrong)

/- THE SECOND FORM. 'bulk': how many values and letters a reading holds, each counted each time it is reached (what is shared counts as often as it is met; a slice's spare places count too). A statement '..UptoSaid' is the law's where the arguments, and the package variables that the reading takes, are together of bulk at most 1048576: NARROWER than '..Said'. Prove '..Said' where nothing that the law and all that it calls make is longer than what came in: it says more and counts as full. Else prove '..UptoSaid'. A law counts once. -/
mutual
def uptoBulk {H : Type} : DataW H → Nat
  | .lit (.string bytes) => bytes.length + 1
  | .lit _ => 1
  | .nil => 1
  | .ptr d => uptoBulk d + 1
  | .slice elems spare => uptoBulkAll elems + uptoBulkAll spare + 1
  | .agg parts => uptoBulkAll parts + 1
  | .iface _ d => uptoBulk d + 1
  | .map entries => uptoBulkEntries entries + 1
  | .held _ => 1
def uptoBulkAll {H : Type} : List (DataW H) → Nat
  | [] => 0
  | d :: r => uptoBulk d + uptoBulkAll r
def uptoBulkEntries {H : Type} : List (Lit × DataW H) → Nat
  | [] => 0
  | x :: r => uptoBulkEntry x + uptoBulkEntries r
def uptoBulkEntry {H : Type} : Lit × DataW H → Nat
  | (.string bytes, d) => bytes.length + uptoBulk d + 1
  | (_, d) => uptoBulk d + 1
 end
def uptoSmall : (H : Type) → List (DataW H) → Bool := fun _ ds => decide (uptoBulkAll ds ≤ 1048576)
def OpenSpec.upto (s : _root_.Go.ChangeSpec) : _root_.Go.OpenSpec := { _root_.Go.OpenSpec.ofChange s with cond := some uptoSmall }

/-- 'portholelaw07.DefectHolds', WHERE WHAT IT READS IS OF BULK AT MOST 1048576: true; the input reads as it did. -/
def defectHoldsUptoRow : OpenClaim := { program := "ytogffilanioejaa", sum := "0c1b94a14a39b7d61b957dd71fb5a539f54823f14fb3cdc956939deb4f3a8c1f", func := "porthole/portholelaw07.DefectHolds", spec := "defectHolds", unfollowed := true, recurses := true, apart := false, narrowed := true }
def DefectHoldsUptoSaid : Prop := defectHoldsUptoRow.holds Try.pinned (OpenSpec.upto defectHoldsSpec)

/-- 'portholelaw07.DefectKeeps', WHERE WHAT IT READS IS OF BULK AT MOST 1048576: true; the input reads as it did. -/
def defectKeepsUptoRow : OpenClaim := { program := "ytogffilanioejaa", sum := "0c1b94a14a39b7d61b957dd71fb5a539f54823f14fb3cdc956939deb4f3a8c1f", func := "porthole/portholelaw07.DefectKeeps", spec := "defectKeeps", unfollowed := true, recurses := true, apart := false, narrowed := true }
def DefectKeepsUptoSaid : Prop := defectKeepsUptoRow.holds Try.pinned (OpenSpec.upto defectKeepsSpec)

/-- 'portholelaw07.DefectMirror', WHERE WHAT IT READS IS OF BULK AT MOST 1048576: true; the input reads as it did. -/
def defectMirrorUptoRow : OpenClaim := { program := "ytogffilanioejaa", sum := "0c1b94a14a39b7d61b957dd71fb5a539f54823f14fb3cdc956939deb4f3a8c1f", func := "porthole/portholelaw07.DefectMirror", spec := "defectMirror", unfollowed := true, recurses := true, apart := false, narrowed := true }
def DefectMirrorUptoSaid : Prop := defectMirrorUptoRow.holds Try.pinned (OpenSpec.upto defectMirrorSpec)

/-- 'portholelaw07.DefectTurns', WHERE WHAT IT READS IS OF BULK AT MOST 1048576: true; the input reads as it did. -/
def defectTurnsUptoRow : OpenClaim := { program := "ytogffilanioejaa", sum := "0c1b94a14a39b7d61b957dd71fb5a539f54823f14fb3cdc956939deb4f3a8c1f", func := "porthole/portholelaw07.DefectTurns", spec := "defectTurns", unfollowed := true, recurses := true, apart := false, narrowed := true }
def DefectTurnsUptoSaid : Prop := defectTurnsUptoRow.holds Try.pinned (OpenSpec.upto defectTurnsSpec)

end Rows
end Go.Proofs.Ytogffilanioejaa
