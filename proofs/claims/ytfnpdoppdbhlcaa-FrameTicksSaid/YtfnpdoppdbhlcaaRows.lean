/-
  No cell of these rows narrows 'for every input' (looked for: loops, veiled, ifaces, maps, wideKeys, modest, calm, conditions, laid).
  DERIVED. THE GIVEN ROWS OF THIS SEAT. 5 by the template 'for every input the law returns true; each argument reads behind the call as it read before'; 0 by the template 'total and deterministic' (their statements: YtfnpdoppdbhlcaaTotals.lean).
  GIVEN WITH THE SEED: the statements are not yours to turn. If you find one false, say at which input.
  Laid BY PROGRAM, IN A SANDBOX (cutbox-rows.mjs): the forced cells as the released guide's own fill.sh prints them over the translation df7f3d54be7cc506… (all of the seat's roots in one cut). By AI agents, Wed Nov 11 2026. No macro, syntax, notation, axiom, sorry.
-/
import Derived.Test.YtfnpdoppdbhlcaaChecked
import GoSem.Claim
import GoSem.ClaimJoined
import GoSem.ClaimMapViews
import Derived.JoinedTies
import Derived.KernelRfl
namespace Go.Proofs.Ytfnpdoppdbhlcaa
/- THE CELL 'sum', in the pinned program and in every row, IS THE sha256 OF THE DUMP (.gsa) THAT YtfnpdoppdbhlcaaProg.lean LOADS. Nothing in Lean hashes anything: it is a label: what it is worth is what the hold of that sum in a sandbox is worth. -/
noncomputable def Try.pinned : Pinned := { name := "ytfnpdoppdbhlcaa", sum := "df7f3d54be7cc5067c742810f3ac51d5507f0e0ac08821bb7380c0d0c9b3bf37", checked := Try.checked }
namespace Rows
def none {H : Type} : Left H := { results := [], args := [] }

/-- 'portholelaw09.FrameAt': WHATEVER THE INPUT: true; the input reads as it did. -/
def frameAtSpec : ChangeSpec := { name := "frameAt", fn := fun _ => fun
  | [d1, d2] => { results := [.lit (.bool true)], args := [d1, d2] }
  | _ => none }
def frameAtRow : OpenClaim := { program := "ytfnpdoppdbhlcaa", sum := "df7f3d54be7cc5067c742810f3ac51d5507f0e0ac08821bb7380c0d0c9b3bf37", func := "porthole/portholelaw09.FrameAt", spec := "frameAt", unfollowed := true, recurses := true, apart := false }
def FrameAtSaid : Prop := frameAtRow.holds Try.pinned (OpenSpec.ofChange frameAtSpec)

/-- ITS FALSE NEIGHBOUR: 'it returns false'. Refute it at one input. -/
def frameAtWrong : ChangeSpec := { name := "frameAt", fn := fun _ => fun
  | [d1, d2] => { results := [.lit (.bool false)], args := [d1, d2] }
  | _ => none }
def FrameAtWrongFalsely : Prop := frameAtRow.holds Try.pinned (OpenSpec.ofChange frameAtWrong)

/-- 'portholelaw09.FrameNext': WHATEVER THE INPUT: true; the input reads as it did. -/
def frameNextSpec : ChangeSpec := { name := "frameNext", fn := fun _ => fun
  | [d1, d2, d3] => { results := [.lit (.bool true)], args := [d1, d2, d3] }
  | _ => none }
def frameNextRow : OpenClaim := { program := "ytfnpdoppdbhlcaa", sum := "df7f3d54be7cc5067c742810f3ac51d5507f0e0ac08821bb7380c0d0c9b3bf37", func := "porthole/portholelaw09.FrameNext", spec := "frameNext", unfollowed := true, recurses := true, apart := false }
def FrameNextSaid : Prop := frameNextRow.holds Try.pinned (OpenSpec.ofChange frameNextSpec)

/-- ITS FALSE NEIGHBOUR: 'it returns false'. Refute it at one input. -/
def frameNextWrong : ChangeSpec := { name := "frameNext", fn := fun _ => fun
  | [d1, d2, d3] => { results := [.lit (.bool false)], args := [d1, d2, d3] }
  | _ => none }
def FrameNextWrongFalsely : Prop := frameNextRow.holds Try.pinned (OpenSpec.ofChange frameNextWrong)

/-- 'portholelaw09.FrameTicks': WHATEVER THE INPUT: true; the input reads as it did. -/
def frameTicksSpec : ChangeSpec := { name := "frameTicks", fn := fun _ => fun
  | [d1, d2, d3] => { results := [.lit (.bool true)], args := [d1, d2, d3] }
  | _ => none }
def frameTicksRow : OpenClaim := { program := "ytfnpdoppdbhlcaa", sum := "df7f3d54be7cc5067c742810f3ac51d5507f0e0ac08821bb7380c0d0c9b3bf37", func := "porthole/portholelaw09.FrameTicks", spec := "frameTicks", unfollowed := true, recurses := true, apart := false }
def FrameTicksSaid : Prop := frameTicksRow.holds Try.pinned (OpenSpec.ofChange frameTicksSpec)

/-- ITS FALSE NEIGHBOUR: 'it returns false'. Refute it at one input. -/
def frameTicksWrong : ChangeSpec := { name := "frameTicks", fn := fun _ => fun
  | [d1, d2, d3] => { results := [.lit (.bool false)], args := [d1, d2, d3] }
  | _ => none }
def FrameTicksWrongFalsely : Prop := frameTicksRow.holds Try.pinned (OpenSpec.ofChange frameTicksWrong)

/-- 'portholelaw09.FrameTurns': WHATEVER THE INPUT: true; the input reads as it did. -/
def frameTurnsSpec : ChangeSpec := { name := "frameTurns", fn := fun _ => fun
  | [d1, d2] => { results := [.lit (.bool true)], args := [d1, d2] }
  | _ => none }
def frameTurnsRow : OpenClaim := { program := "ytfnpdoppdbhlcaa", sum := "df7f3d54be7cc5067c742810f3ac51d5507f0e0ac08821bb7380c0d0c9b3bf37", func := "porthole/portholelaw09.FrameTurns", spec := "frameTurns", unfollowed := true, recurses := true, apart := false }
def FrameTurnsSaid : Prop := frameTurnsRow.holds Try.pinned (OpenSpec.ofChange frameTurnsSpec)

/-- ITS FALSE NEIGHBOUR: 'it returns false'. Refute it at one input. -/
def frameTurnsWrong : ChangeSpec := { name := "frameTurns", fn := fun _ => fun
  | [d1, d2] => { results := [.lit (.bool false)], args := [d1, d2] }
  | _ => none }
def FrameTurnsWrongFalsely : Prop := frameTurnsRow.holds Try.pinned (OpenSpec.ofChange frameTurnsWrong)

/-- 'portholelaw09.FrameShare': WHATEVER THE INPUT: true; the input reads as it did. -/
def frameShareSpec : ChangeSpec := { name := "frameShare", fn := fun _ => fun
  | [d1, d2, d3] => { results := [.lit (.bool true)], args := [d1, d2, d3] }
  | _ => none }
def frameShareRow : OpenClaim := { program := "ytfnpdoppdbhlcaa", sum := "df7f3d54be7cc5067c742810f3ac51d5507f0e0ac08821bb7380c0d0c9b3bf37", func := "porthole/portholelaw09.FrameShare", spec := "frameShare", unfollowed := true, recurses := true, apart := false }
def FrameShareSaid : Prop := frameShareRow.holds Try.pinned (OpenSpec.ofChange frameShareSpec)

/-- ITS FALSE NEIGHBOUR: 'it returns false'. Refute it at one input. -/
def frameShareWrong : ChangeSpec := { name := "frameShare", fn := fun _ => fun
  | [d1, d2, d3] => { results := [.lit (.bool false)], args := [d1, d2, d3] }
  | _ => none }
def FrameShareWrongFalsely : Prop := frameShareRow.holds Try.pinned (OpenSpec.ofChange frameShareWrong)

/- THE SECOND FORM. 'bulk': how many values and letters a reading holds, each counted each time it is reached (what is shared counts as often as it is met; a slice's spare places count too). A statement '..UptoSaid' is the law's where the arguments, and the package variables that the reading takes, are together of bulk at most 1048576: NARROWER than '..Said'. Prove '..Said' where nothing that the law and all that it calls make is longer than what came in: it says more and counts as full. Else prove '..UptoSaid'. A law counts once. -/
mutual
def uptoBulk {H : Type} : DataW H → Nat
  | .lit (.string bytes) => bytes.length + 1
  | .lit _ => 1
  | .nil => 1
  | .ptr d => uptoBulk d + 1
  | .slice elems spare => uptoBulkAll elems + uptoBulkAll spare + 1
  | .agg parts => uptoBulkAll parts + 1
  | .iface _ d => uptoBulk d + 1
  | .map entries => uptoBulkEntries entries + 1
  | .held _ => 1
def uptoBulkAll {H : Type} : List (DataW H) → Nat
  | [] => 0
  | d :: r => uptoBulk d + uptoBulkAll r
def uptoBulkEntries {H : Type} : List (Lit × DataW H) → Nat
  | [] => 0
  | x :: r => uptoBulkEntry x + uptoBulkEntries r
def uptoBulkEntry {H : Type} : Lit × DataW H → Nat
  | (.string bytes, d) => bytes.length + uptoBulk d + 1
  | (_, d) => uptoBulk d + 1
 end
def uptoSmall : (H : Type) → List (DataW H) → Bool := fun _ ds => decide (uptoBulkAll ds ≤ 1048576)
def OpenSpec.upto (s : _root_.Go.ChangeSpec) : _root_.Go.OpenSpec := { _root_.Go.OpenSpec.ofChange s with cond := some uptoSmall }

/-- 'portholelaw09.FrameAt', WHERE WHAT IT READS IS OF BULK AT MOST 1048576: true; the input reads as it did. -/
def frameAtUptoRow : OpenClaim := { program := "ytfnpdoppdbhlcaa", sum := "df7f3d54be7cc5067c742810f3ac51d5507f0e0ac08821bb7380c0d0c9b3bf37", func := "porthole/portholelaw09.FrameAt", spec := "frameAt", unfollowed := true, recurses := true, apart := false, narrowed := true }
def FrameAtUptoSaid : Prop := frameAtUptoRow.holds Try.pinned (OpenSpec.upto frameAtSpec)

/-- 'portholelaw09.FrameNext', WHERE WHAT IT READS IS OF BULK AT MOST 1048576: true; the input reads as it did. -/
def frameNextUptoRow : OpenClaim := { program := "ytfnpdoppdbhlcaa", sum := "df7f3d54be7cc5067c742810f3ac51d5507f0e0ac08821bb7380c0d0c9b3bf37", func := "porthole/portholelaw09.FrameNext", spec := "frameNext", unfollowed := true, recurses := true, apart := false, narrowed := true }
def FrameNextUptoSaid : Prop := frameNextUptoRow.holds Try.pinned (OpenSpec.upto frameNextSpec)

/-- 'portholelaw09.FrameTicks', WHERE WHAT IT READS IS OF BULK AT MOST 1048576: true; the input reads as it did. -/
def frameTicksUptoRow : OpenClaim := { program := "ytfnpdoppdbhlcaa", sum := "df7f3d54be7cc5067c742810f3ac51d5507f0e0ac08821bb7380c0d0c9b3bf37", func := "porthole/portholelaw09.FrameTicks", spec := "frameTicks", unfollowed := true, recurses := true, apart := false, narrowed := true }
def FrameTicksUptoSaid : Prop := frameTicksUptoRow.holds Try.pinned (OpenSpec.upto frameTicksSpec)

/-- 'portholelaw09.FrameTurns', WHERE WHAT IT READS IS OF BULK AT MOST 1048576: true; the input reads as it did. -/
def frameTurnsUptoRow : OpenClaim := { program := "ytfnpdoppdbhlcaa", sum := "df7f3d54be7cc5067c742810f3ac51d5507f0e0ac08821bb7380c0d0c9b3bf37", func := "porthole/portholelaw09.FrameTurns", spec := "frameTurns", unfollowed := true, recurses := true, apart := false, narrowed := true }
def FrameTurnsUptoSaid : Prop := frameTurnsUptoRow.holds Try.pinned (OpenSpec.upto frameTurnsSpec)

/-- 'portholelaw09.FrameShare', WHERE WHAT IT READS IS OF BULK AT MOST 1048576: true; the input reads as it did. -/
def frameShareUptoRow : OpenClaim := { program := "ytfnpdoppdbhlcaa", sum := "df7f3d54be7cc5067c742810f3ac51d5507f0e0ac08821bb7380c0d0c9b3bf37", func := "porthole/portholelaw09.FrameShare", spec := "frameShare", unfollowed := true, recurses := true, apart := false, narrowed := true }
def FrameShareUptoSaid : Prop := frameShareUptoRow.holds Try.pinned (OpenSpec.upto frameShareSpec)

end Rows
end Go.Proofs.Ytfnpdoppdbhlcaa
