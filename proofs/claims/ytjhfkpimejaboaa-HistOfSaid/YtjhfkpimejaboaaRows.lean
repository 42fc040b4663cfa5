/-
  No cell of these rows narrows 'for every input' (looked for: loops, veiled, ifaces, maps, wideKeys, modest, calm, conditions, laid).
  DERIVED. THE GIVEN ROWS OF THIS SEAT. 4 by the template 'for every input the law returns true; each argument reads behind the call as it read before'; 0 by the template 'total and deterministic' (their statements: YtjhfkpimejaboaaTotals.lean).
  GIVEN WITH THE SEED: the statements are not yours to turn. If you find one false, say at which input.
  Laid BY PROGRAM, IN A SANDBOX (cutbox-rows.mjs): the forced cells as the released guide's own fill.sh prints them over the translation 6533e4fd7a1bdc5b… (all of the seat's roots in one cut). By AI agents, Wed Nov 11 2026. No macro, syntax, notation, axiom, sorry.
-/
import Derived.Test.YtjhfkpimejaboaaChecked
import GoSem.Claim
import GoSem.ClaimJoined
import GoSem.ClaimMapViews
import Derived.JoinedTies
import Derived.KernelRfl
namespace Go.Proofs.Ytjhfkpimejaboaa
/- THE CELL 'sum', in the pinned program and in every row, IS THE sha256 OF THE DUMP (.gsa) THAT YtjhfkpimejaboaaProg.lean LOADS. Nothing in Lean hashes anything: it is a label: what it is worth is what the hold of that sum in a sandbox is worth. -/
noncomputable def Try.pinned : Pinned := { name := "ytjhfkpimejaboaa", sum := "6533e4fd7a1bdc5be8918049c8ea406df5abe4ecedf24b103594d84870c1a52a", checked := Try.checked }
namespace Rows
def none {H : Type} : Left H := { results := [], args := [] }

/-- 'portholelaw17.HistSound': WHATEVER THE INPUT: true; the input reads as it did. -/
def histSoundSpec : ChangeSpec := { name := "histSound", fn := fun _ => fun
  | [d1, d2, d3] => { results := [.lit (.bool true)], args := [d1, d2, d3] }
  | _ => none }
def histSoundRow : OpenClaim := { program := "ytjhfkpimejaboaa", sum := "6533e4fd7a1bdc5be8918049c8ea406df5abe4ecedf24b103594d84870c1a52a", func := "porthole/portholelaw17.HistSound", spec := "histSound", apart := false }
def HistSoundSaid : Prop := histSoundRow.holds Try.pinned (OpenSpec.ofChange histSoundSpec)

/-- ITS FALSE NEIGHBOUR: 'it returns false'. Refute it at one input. -/
def histSoundWrong : ChangeSpec := { name := "histSound", fn := fun _ => fun
  | [d1, d2, d3] => { results := [.lit (.bool false)], args := [d1, d2, d3] }
  | _ => none }
def HistSoundWrongFalsely : Prop := histSoundRow.holds Try.pinned (OpenSpec.ofChange histSoundWrong)

/-- 'portholelaw17.HistOf': WHATEVER THE INPUT: true; the input reads as it did. -/
def histOfSpec : ChangeSpec := { name := "histOf", fn := fun _ => fun
  | [d1, d2, d3] => { results := [.lit (.bool true)], args := [d1, d2, d3] }
  | _ => none }
def histOfRow : OpenClaim := { program := "ytjhfkpimejaboaa", sum := "6533e4fd7a1bdc5be8918049c8ea406df5abe4ecedf24b103594d84870c1a52a", func := "porthole/portholelaw17.HistOf", spec := "histOf", unfollowed := true, recurses := true, apart := false }
def HistOfSaid : Prop := histOfRow.holds Try.pinned (OpenSpec.ofChange histOfSpec)

/-- ITS FALSE NEIGHBOUR: 'it returns false'. Refute it at one input. -/
def histOfWrong : ChangeSpec := { name := "histOf", fn := fun _ => fun
  | [d1, d2, d3] => { results := [.lit (.bool false)], args := [d1, d2, d3] }
  | _ => none }
def HistOfWrongFalsely : Prop := histOfRow.holds Try.pinned (OpenSpec.ofChange histOfWrong)

/-- 'portholelaw17.HistPlace': WHATEVER THE INPUT: true; the input reads as it did. -/
def histPlaceSpec : ChangeSpec := { name := "histPlace", fn := fun _ => fun
  | [d1, d2] => { results := [.lit (.bool true)], args := [d1, d2] }
  | _ => none }
def histPlaceRow : OpenClaim := { program := "ytjhfkpimejaboaa", sum := "6533e4fd7a1bdc5be8918049c8ea406df5abe4ecedf24b103594d84870c1a52a", func := "porthole/portholelaw17.HistPlace", spec := "histPlace", apart := false }
def HistPlaceSaid : Prop := histPlaceRow.holds Try.pinned (OpenSpec.ofChange histPlaceSpec)

/-- ITS FALSE NEIGHBOUR: 'it returns false'. Refute it at one input. -/
def histPlaceWrong : ChangeSpec := { name := "histPlace", fn := fun _ => fun
  | [d1, d2] => { results := [.lit (.bool false)], args := [d1, d2] }
  | _ => none }
def HistPlaceWrongFalsely : Prop := histPlaceRow.holds Try.pinned (OpenSpec.ofChange histPlaceWrong)

/-- 'portholelaw17.HistApart': WHATEVER THE INPUT: true; the input reads as it did. -/
def histApartSpec : ChangeSpec := { name := "histApart", fn := fun _ => fun
  | [d] => { results := [.lit (.bool true)], args := [d] }
  | _ => none }
def histApartRow : OpenClaim := { program := "ytjhfkpimejaboaa", sum := "6533e4fd7a1bdc5be8918049c8ea406df5abe4ecedf24b103594d84870c1a52a", func := "porthole/portholelaw17.HistApart", spec := "histApart", apart := false }
def HistApartSaid : Prop := histApartRow.holds Try.pinned (OpenSpec.ofChange histApartSpec)

/-- ITS FALSE NEIGHBOUR: 'it returns false'. Refute it at one input. -/
def histApartWrong : ChangeSpec := { name := "histApart", fn := fun _ => fun
  | [d] => { results := [.lit (.bool false)], args := [d] }
  | _ => none }
def HistApartWrongFalsely : Prop := histApartRow.holds Try.pinned (OpenSpec.ofChange histApartWrong)

/- THE SECOND FORM. 'bulk': how many values and letters a reading holds, each counted each time it is reached (what is shared counts as often as it is met; a slice's spare places count too). A statement '..UptoSaid' is the law's where the arguments, and the package variables that the reading takes, are together of bulk at most 1048576: NARROWER than '..Said'. Prove '..Said' where nothing that the law and all that it calls make is longer than what came in: it says more and counts as full. Else prove '..UptoSaid'. A law counts once. -/
mutual
def uptoBulk {H : Type} : DataW H → Nat
  | .lit (.string bytes) => bytes.length + 1
  | .lit _ => 1
  | .nil => 1
  | .ptr d => uptoBulk d + 1
  | .slice elems spare => uptoBulkAll elems + uptoBulkAll spare + 1
  | .agg parts => uptoBulkAll parts + 1
  | .iface _ d => uptoBulk d + 1
  | .map entries => uptoBulkEntries entries + 1
  | .held _ => 1
def uptoBulkAll {H : Type} : List (DataW H) → Nat
  | [] => 0
  | d :: r => uptoBulk d + uptoBulkAll r
def uptoBulkEntries {H : Type} : List (Lit × DataW H) → Nat
  | [] => 0
  | x :: r => uptoBulkEntry x + uptoBulkEntries r
def uptoBulkEntry {H : Type} : Lit × DataW H → Nat
  | (.string bytes, d) => bytes.length + uptoBulk d + 1
  | (_, d) => uptoBulk d + 1
 end
def uptoSmall : (H : Type) → List (DataW H) → Bool := fun _ ds => decide (uptoBulkAll ds ≤ 1048576)
def OpenSpec.upto (s : _root_.Go.ChangeSpec) : _root_.Go.OpenSpec := { _root_.Go.OpenSpec.ofChange s with cond := some uptoSmall }

/-- 'portholelaw17.HistSound', WHERE WHAT IT READS IS OF BULK AT MOST 1048576: true; the input reads as it did. -/
def histSoundUptoRow : OpenClaim := { program := "ytjhfkpimejaboaa", sum := "6533e4fd7a1bdc5be8918049c8ea406df5abe4ecedf24b103594d84870c1a52a", func := "porthole/portholelaw17.HistSound", spec := "histSound", apart := false, narrowed := true }
def HistSoundUptoSaid : Prop := histSoundUptoRow.holds Try.pinned (OpenSpec.upto histSoundSpec)

/-- 'portholelaw17.HistOf', WHERE WHAT IT READS IS OF BULK AT MOST 1048576: true; the input reads as it did. -/
def histOfUptoRow : OpenClaim := { program := "ytjhfkpimejaboaa", sum := "6533e4fd7a1bdc5be8918049c8ea406df5abe4ecedf24b103594d84870c1a52a", func := "porthole/portholelaw17.HistOf", spec := "histOf", unfollowed := true, recurses := true, apart := false, narrowed := true }
def HistOfUptoSaid : Prop := histOfUptoRow.holds Try.pinned (OpenSpec.upto histOfSpec)

/-- 'portholelaw17.HistPlace', WHERE WHAT IT READS IS OF BULK AT MOST 1048576: true; the input reads as it did. -/
def histPlaceUptoRow : OpenClaim := { program := "ytjhfkpimejaboaa", sum := "6533e4fd7a1bdc5be8918049c8ea406df5abe4ecedf24b103594d84870c1a52a", func := "porthole/portholelaw17.HistPlace", spec := "histPlace", apart := false, narrowed := true }
def HistPlaceUptoSaid : Prop := histPlaceUptoRow.holds Try.pinned (OpenSpec.upto histPlaceSpec)

/-- 'portholelaw17.HistApart', WHERE WHAT IT READS IS OF BULK AT MOST 1048576: true; the input reads as it did. -/
def histApartUptoRow : OpenClaim := { program := "ytjhfkpimejaboaa", sum := "6533e4fd7a1bdc5be8918049c8ea406df5abe4ecedf24b103594d84870c1a52a", func := "porthole/portholelaw17.HistApart", spec := "histApart", apart := false, narrowed := true }
def HistApartUptoSaid : Prop := histApartUptoRow.holds Try.pinned (OpenSpec.upto histApartSpec)

end Rows
end Go.Proofs.Ytjhfkpimejaboaa
