/-
  No cell of these rows narrows 'for every input' (looked for: loops, veiled, ifaces, maps, wideKeys, modest, calm, conditions, laid).
  DERIVED. THE GIVEN ROWS OF THIS SEAT. 4 by the template 'for every input the law returns true; each argument reads behind the call as it read before'; 0 by the template 'total and deterministic' (their statements: YtjnlcoldhcedpaaTotals.lean).
  GIVEN WITH THE SEED: the statements are not yours to turn. If you find one false, say at which input.
  Laid BY PROGRAM, IN A SANDBOX (cutbox-rows.mjs): the forced cells as the released guide's own fill.sh prints them over the translation 70969d1dad3a9fc3… (all of the seat's roots in one cut). By AI agents, Wed Nov 11 2026. No macro, syntax, notation, axiom, sorry.
-/
import Derived.Test.YtjnlcoldhcedpaaChecked
import GoSem.Claim
import GoSem.ClaimJoined
import GoSem.ClaimMapViews
import Derived.JoinedTies
import Derived.KernelRfl
namespace Go.Proofs.Ytjnlcoldhcedpaa
/- THE CELL 'sum', in the pinned program and in every row, IS THE sha256 OF THE DUMP (.gsa) THAT YtjnlcoldhcedpaaProg.lean LOADS. Nothing in Lean hashes anything: it is a label: what it is worth is what the hold of that sum in a sandbox is worth. -/
noncomputable def Try.pinned : Pinned := { name := "ytjnlcoldhcedpaa", sum := "70969d1dad3a9fc31d8da70368afa36b1b5e98bcf95b3e6ddf09267e62839dca", checked := Try.checked }
namespace Rows
def none {H : Type} : Left H := { results := [], args := [] }

/-- 'portholelaw04.BellActs': WHATEVER THE INPUT: true; the input reads as it did. -/
def bellActsSpec : ChangeSpec := { name := "bellActs", fn := fun _ => fun
  | [d1, d2] => { results := [.lit (.bool true)], args := [d1, d2] }
  | _ => none }
def bellActsRow : OpenClaim := { program := "ytjnlcoldhcedpaa", sum := "70969d1dad3a9fc31d8da70368afa36b1b5e98bcf95b3e6ddf09267e62839dca", func := "porthole/portholelaw04.BellActs", spec := "bellActs", unfollowed := true, recurses := true, apart := false }
def BellActsSaid : Prop := bellActsRow.holds Try.pinned (OpenSpec.ofChange bellActsSpec)

/-- ITS FALSE NEIGHBOUR: 'it returns false'. Refute it at one input. -/
def bellActsWrong : ChangeSpec := { name := "bellActs", fn := fun _ => fun
  | [d1, d2] => { results := [.lit (.bool false)], args := [d1, d2] }
  | _ => none }
def BellActsWrongFalsely : Prop := bellActsRow.holds Try.pinned (OpenSpec.ofChange bellActsWrong)

/-- 'portholelaw04.BellHas': WHATEVER THE INPUT: true; the input reads as it did. -/
def bellHasSpec : ChangeSpec := { name := "bellHas", fn := fun _ => fun
  | [d1, d2, d3] => { results := [.lit (.bool true)], args := [d1, d2, d3] }
  | _ => none }
def bellHasRow : OpenClaim := { program := "ytjnlcoldhcedpaa", sum := "70969d1dad3a9fc31d8da70368afa36b1b5e98bcf95b3e6ddf09267e62839dca", func := "porthole/portholelaw04.BellHas", spec := "bellHas", unfollowed := true, recurses := true, apart := false }
def BellHasSaid : Prop := bellHasRow.holds Try.pinned (OpenSpec.ofChange bellHasSpec)

/-- ITS FALSE NEIGHBOUR: 'it returns false'. Refute it at one input. -/
def bellHasWrong : ChangeSpec := { name := "bellHas", fn := fun _ => fun
  | [d1, d2, d3] => { results := [.lit (.bool false)], args := [d1, d2, d3] }
  | _ => none }
def BellHasWrongFalsely : Prop := bellHasRow.holds Try.pinned (OpenSpec.ofChange bellHasWrong)

/-- 'portholelaw04.BellOnce': WHATEVER THE INPUT: true; the input reads as it did. -/
def bellOnceSpec : ChangeSpec := { name := "bellOnce", fn := fun _ => fun
  | [d1, d2] => { results := [.lit (.bool true)], args := [d1, d2] }
  | _ => none }
def bellOnceRow : OpenClaim := { program := "ytjnlcoldhcedpaa", sum := "70969d1dad3a9fc31d8da70368afa36b1b5e98bcf95b3e6ddf09267e62839dca", func := "porthole/portholelaw04.BellOnce", spec := "bellOnce", unfollowed := true, recurses := true, apart := false }
def BellOnceSaid : Prop := bellOnceRow.holds Try.pinned (OpenSpec.ofChange bellOnceSpec)

/-- ITS FALSE NEIGHBOUR: 'it returns false'. Refute it at one input. -/
def bellOnceWrong : ChangeSpec := { name := "bellOnce", fn := fun _ => fun
  | [d1, d2] => { results := [.lit (.bool false)], args := [d1, d2] }
  | _ => none }
def BellOnceWrongFalsely : Prop := bellOnceRow.holds Try.pinned (OpenSpec.ofChange bellOnceWrong)

/-- 'portholelaw04.BellApart': WHATEVER THE INPUT: true; the input reads as it did. -/
def bellApartSpec : ChangeSpec := { name := "bellApart", fn := fun _ => fun
  | [d1, d2, d3] => { results := [.lit (.bool true)], args := [d1, d2, d3] }
  | _ => none }
def bellApartRow : OpenClaim := { program := "ytjnlcoldhcedpaa", sum := "70969d1dad3a9fc31d8da70368afa36b1b5e98bcf95b3e6ddf09267e62839dca", func := "porthole/portholelaw04.BellApart", spec := "bellApart", unfollowed := true, recurses := true, apart := false }
def BellApartSaid : Prop := bellApartRow.holds Try.pinned (OpenSpec.ofChange bellApartSpec)

/-- ITS FALSE NEIGHBOUR: 'it returns false'. Refute it at one input. -/
def bellApartWrong : ChangeSpec := { name := "bellApart", fn := fun _ => fun
  | [d1, d2, d3] => { results := [.lit (.bool false)], args := [d1, d2, d3] }
  | _ => none }
def BellApartWrongFalsely : Prop := bellApartRow.holds Try.pinned (OpenSpec.ofChange bellApartWrong)

/- THE SECOND FORM. 'bulk': how many values and letters a reading holds, each counted each time it is reached (what is shared counts as often as it is met; a slice's spare places count too). A statement '..UptoSaid' is the law's where the arguments, and the package variables that the reading takes, are together of bulk at most 1048576: NARROWER than '..Said'. Prove '..Said' where nothing that the law and all that it calls make is longer than what came in: it says more and counts as full. Else prove '..UptoSaid'. A law counts once. -/
mutual
def uptoBulk {H : Type} : DataW H → Nat
  | .lit (.string bytes) => bytes.length + 1
  | .lit _ => 1
  | .nil => 1
  | .ptr d => uptoBulk d + 1
  | .slice elems spare => uptoBulkAll elems + uptoBulkAll spare + 1
  | .agg parts => uptoBulkAll parts + 1
  | .iface _ d => uptoBulk d + 1
  | .map entries => uptoBulkEntries entries + 1
  | .held _ => 1
def uptoBulkAll {H : Type} : List (DataW H) → Nat
  | [] => 0
  | d :: r => uptoBulk d + uptoBulkAll r
def uptoBulkEntries {H : Type} : List (Lit × DataW H) → Nat
  | [] => 0
  | x :: r => uptoBulkEntry x + uptoBulkEntries r
def uptoBulkEntry {H : Type} : Lit × DataW H → Nat
  | (.string bytes, d) => bytes.length + uptoBulk d + 1
  | (_, d) => uptoBulk d + 1
 end
def uptoSmall : (H : Type) → List (DataW H) → Bool := fun _ ds => decide (uptoBulkAll ds ≤ 1048576)
def OpenSpec.upto (s : _root_.Go.ChangeSpec) : _root_.Go.OpenSpec := { _root_.Go.OpenSpec.ofChange s with cond := some uptoSmall }

/-- 'portholelaw04.BellActs', WHERE WHAT IT READS IS OF BULK AT MOST 1048576: true; the input reads as it did. -/
def bellActsUptoRow : OpenClaim := { program := "ytjnlcoldhcedpaa", sum := "70969d1dad3a9fc31d8da70368afa36b1b5e98bcf95b3e6ddf09267e62839dca", func := "porthole/portholelaw04.BellActs", spec := "bellActs", unfollowed := true, recurses := true, apart := false, narrowed := true }
def BellActsUptoSaid : Prop := bellActsUptoRow.holds Try.pinned (OpenSpec.upto bellActsSpec)

/-- 'portholelaw04.BellHas', WHERE WHAT IT READS IS OF BULK AT MOST 1048576: true; the input reads as it did. -/
def bellHasUptoRow : OpenClaim := { program := "ytjnlcoldhcedpaa", sum := "70969d1dad3a9fc31d8da70368afa36b1b5e98bcf95b3e6ddf09267e62839dca", func := "porthole/portholelaw04.BellHas", spec := "bellHas", unfollowed := true, recurses := true, apart := false, narrowed := true }
def BellHasUptoSaid : Prop := bellHasUptoRow.holds Try.pinned (OpenSpec.upto bellHasSpec)

/-- 'portholelaw04.BellOnce', WHERE WHAT IT READS IS OF BULK AT MOST 1048576: true; the input reads as it did. -/
def bellOnceUptoRow : OpenClaim := { program := "ytjnlcoldhcedpaa", sum := "70969d1dad3a9fc31d8da70368afa36b1b5e98bcf95b3e6ddf09267e62839dca", func := "porthole/portholelaw04.BellOnce", spec := "bellOnce", unfollowed := true, recurses := true, apart := false, narrowed := true }
def BellOnceUptoSaid : Prop := bellOnceUptoRow.holds Try.pinned (OpenSpec.upto bellOnceSpec)

/-- 'portholelaw04.BellApart', WHERE WHAT IT READS IS OF BULK AT MOST 1048576: true; the input reads as it did. -/
def bellApartUptoRow : OpenClaim := { program := "ytjnlcoldhcedpaa", sum := "70969d1dad3a9fc31d8da70368afa36b1b5e98bcf95b3e6ddf09267e62839dca", func := "porthole/portholelaw04.BellApart", spec := "bellApart", unfollowed := true, recurses := true, apart := false, narrowed := true }
def BellApartUptoSaid : Prop := bellApartUptoRow.holds Try.pinned (OpenSpec.upto bellApartSpec)

end Rows
end Go.Proofs.Ytjnlcoldhcedpaa
