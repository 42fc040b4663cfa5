/-
  No cell of these rows narrows 'for every input' (looked for: loops, veiled, ifaces, maps, wideKeys, modest, calm, conditions, laid).
  DERIVED. THE GIVEN ROWS OF THIS SEAT. 3 by the template 'for every input the law returns true; each argument reads behind the call as it read before'; 0 by the template 'total and deterministic' (their statements: YtfpcldkgcifciaaTotals.lean).
  GIVEN WITH THE SEED: the statements are not yours to turn. If you find one false, say at which input.
  Laid BY PROGRAM, IN A SANDBOX (cutbox-rows.mjs): the forced cells as the released guide's own fill.sh prints them over the translation 9224036e8bf7d873… (all of the seat's roots in one cut). By AI agents, Wed Nov 11 2026. No macro, syntax, notation, axiom, sorry.
-/
import Derived.Test.YtfpcldkgcifciaaChecked
import GoSem.Claim
import GoSem.ClaimJoined
import GoSem.ClaimMapViews
import Derived.JoinedTies
import Derived.KernelRfl
namespace Go.Proofs.Ytfpcldkgcifciaa
/- THE CELL 'sum', in the pinned program and in every row, IS THE sha256 OF THE DUMP (.gsa) THAT YtfpcldkgcifciaaProg.lean LOADS. Nothing in Lean hashes anything: it is a label: what it is worth is what the hold of that sum in a sandbox is worth. -/
noncomputable def Try.pinned : Pinned := { name := "ytfpcldkgcifciaa", sum := "9224036e8bf7d87332e58a8fcd8c1a076a6a3883f9ce546d3ba216a24c630adb", checked := Try.checked }
namespace Rows
def none {H : Type} : Left H := { results := [], args := [] }

/-- 'portholelaw15.CoreTicks': WHATEVER THE INPUT: true; the input reads as it did. -/
def coreTicksSpec : ChangeSpec := { name := "coreTicks", fn := fun _ => fun
  | [d1, d2, d3] => { results := [.lit (.bool true)], args := [d1, d2, d3] }
  | _ => none }
def coreTicksRow : OpenClaim := { program := "ytfpcldkgcifciaa", sum := "9224036e8bf7d87332e58a8fcd8c1a076a6a3883f9ce546d3ba216a24c630adb", func := "porthole/portholelaw15.CoreTicks", spec := "coreTicks", unfollowed := true, recurses := true, apart := false }
def CoreTicksSaid : Prop := coreTicksRow.holds Try.pinned (OpenSpec.ofChange coreTicksSpec)

/-- ITS FALSE NEIGHBOUR: 'it returns false'. Refute it at one input. -/
def coreTicksWrong : ChangeSpec := { name := "coreTicks", fn := fun _ => fun
  | [d1, d2, d3] => { results := [.lit (.bool false)], args := [d1, d2, d3] }
  | _ => none }
def CoreTicksWrongFalsely : Prop := coreTicksRow.holds Try.pinned (OpenSpec.ofChange coreTicksWrong)

/-- 'portholelaw15.CoreEnters': WHATEVER THE INPUT: true; the input reads as it did. -/
def coreEntersSpec : ChangeSpec := { name := "coreEnters", fn := fun _ => fun
  | [d1, d2] => { results := [.lit (.bool true)], args := [d1, d2] }
  | _ => none }
def coreEntersRow : OpenClaim := { program := "ytfpcldkgcifciaa", sum := "9224036e8bf7d87332e58a8fcd8c1a076a6a3883f9ce546d3ba216a24c630adb", func := "porthole/portholelaw15.CoreEnters", spec := "coreEnters", unfollowed := true, recurses := true, apart := false }
def CoreEntersSaid : Prop := coreEntersRow.holds Try.pinned (OpenSpec.ofChange coreEntersSpec)

/-- ITS FALSE NEIGHBOUR: 'it returns false'. Refute it at one input. -/
def coreEntersWrong : ChangeSpec := { name := "coreEnters", fn := fun _ => fun
  | [d1, d2] => { results := [.lit (.bool false)], args := [d1, d2] }
  | _ => none }
def CoreEntersWrongFalsely : Prop := coreEntersRow.holds Try.pinned (OpenSpec.ofChange coreEntersWrong)

/-- 'portholelaw15.CoreFair': WHATEVER THE INPUT: true; the input reads as it did. -/
def coreFairSpec : ChangeSpec := { name := "coreFair", fn := fun _ => fun
  | [d1, d2] => { results := [.lit (.bool true)], args := [d1, d2] }
  | _ => none }
def coreFairRow : OpenClaim := { program := "ytfpcldkgcifciaa", sum := "9224036e8bf7d87332e58a8fcd8c1a076a6a3883f9ce546d3ba216a24c630adb", func := "porthole/portholelaw15.CoreFair", spec := "coreFair", unfollowed := true, recurses := true, apart := false }
def CoreFairSaid : Prop := coreFairRow.holds Try.pinned (OpenSpec.ofChange coreFairSpec)

/-- ITS FALSE NEIGHBOUR: 'it returns false'. Refute it at one input. -/
def coreFairWrong : ChangeSpec := { name := "coreFair", fn := fun _ => fun
  | [d1, d2] => { results := [.lit (.bool false)], args := [d1, d2] }
  | _ => none }
def CoreFairWrongFalsely : Prop := coreFairRow.holds Try.pinned (OpenSpec.ofChange coreFairWrong)

/- THE SECOND FORM. 'bulk': how many values and letters a reading holds, each counted each time it is reached (what is shared counts as often as it is met; a slice's spare places count too). A statement '..UptoSaid' is the law's where the arguments, and the package variables that the reading takes, are together of bulk at most 1048576: NARROWER than '..Said'. Prove '..Said' where nothing that the law and all that it calls make is longer than what came in: it says more and counts as full. Else prove '..UptoSaid'. A law counts once. -/
mutual
def uptoBulk {H : Type} : DataW H → Nat
  | .lit (.string bytes) => bytes.length + 1
  | .lit _ => 1
  | .nil => 1
  | .ptr d => uptoBulk d + 1
  | .slice elems spare => uptoBulkAll elems + uptoBulkAll spare + 1
  | .agg parts => uptoBulkAll parts + 1
  | .iface _ d => uptoBulk d + 1
  | .map entries => uptoBulkEntries entries + 1
  | .held _ => 1
def uptoBulkAll {H : Type} : List (DataW H) → Nat
  | [] => 0
  | d :: r => uptoBulk d + uptoBulkAll r
def uptoBulkEntries {H : Type} : List (Lit × DataW H) → Nat
  | [] => 0
  | x :: r => uptoBulkEntry x + uptoBulkEntries r
def uptoBulkEntry {H : Type} : Lit × DataW H → Nat
  | (.string bytes, d) => bytes.length + uptoBulk d + 1
  | (_, d) => uptoBulk d + 1
 end
def uptoSmall : (H : Type) → List (DataW H) → Bool := fun _ ds => decide (uptoBulkAll ds ≤ 1048576)
def OpenSpec.upto (s : _root_.Go.ChangeSpec) : _root_.Go.OpenSpec := { _root_.Go.OpenSpec.ofChange s with cond := some uptoSmall }

/-- 'portholelaw15.CoreTicks', WHERE WHAT IT READS IS OF BULK AT MOST 1048576: true; the input reads as it did. -/
def coreTicksUptoRow : OpenClaim := { program := "ytfpcldkgcifciaa", sum := "9224036e8bf7d87332e58a8fcd8c1a076a6a3883f9ce546d3ba216a24c630adb", func := "porthole/portholelaw15.CoreTicks", spec := "coreTicks", unfollowed := true, recurses := true, apart := false, narrowed := true }
def CoreTicksUptoSaid : Prop := coreTicksUptoRow.holds Try.pinned (OpenSpec.upto coreTicksSpec)

/-- 'portholelaw15.CoreEnters', WHERE WHAT IT READS IS OF BULK AT MOST 1048576: true; the input reads as it did. -/
def coreEntersUptoRow : OpenClaim := { program := "ytfpcldkgcifciaa", sum := "9224036e8bf7d87332e58a8fcd8c1a076a6a3883f9ce546d3ba216a24c630adb", func := "porthole/portholelaw15.CoreEnters", spec := "coreEnters", unfollowed := true, recurses := true, apart := false, narrowed := true }
def CoreEntersUptoSaid : Prop := coreEntersUptoRow.holds Try.pinned (OpenSpec.upto coreEntersSpec)

/-- 'portholelaw15.CoreFair', WHERE WHAT IT READS IS OF BULK AT MOST 1048576: true; the input reads as it did. -/
def coreFairUptoRow : OpenClaim := { program := "ytfpcldkgcifciaa", sum := "9224036e8bf7d87332e58a8fcd8c1a076a6a3883f9ce546d3ba216a24c630adb", func := "porthole/portholelaw15.CoreFair", spec := "coreFair", unfollowed := true, recurses := true, apart := false, narrowed := true }
def CoreFairUptoSaid : Prop := coreFairUptoRow.holds Try.pinned (OpenSpec.upto coreFairSpec)

end Rows
end Go.Proofs.Ytfpcldkgcifciaa
