/- hist's map of who was last; follows, as a contract. No condition but those in the statements. -/
import Derived.Test.YtmonneeikkgllaaHOn
import Derived.BigQuiet
import Derived.IntWalk
import Derived.BigRegion
import Derived.OpenShut
import Derived.Deep.MidRow
import Derived.Maps.OwnSet
import Derived.Maps.OwnOps
namespace Go.Proofs.Ytmonneeikkgllaa
open Go.RowKit Go.Sort Go.ChangeShapes Go.WideShapes
set_option linter.unusedVariables false
set_option linter.unusedSimpArgs false


open Go.Maps (int_keyed keyOf_int_mk)
/-- An element of the map, read as itself. -/
def rdC (v : Value) : Option (DataW Value × List MemPlace) := some (.held v, [])
def MapIs (w : World) (mb : Nat) (l : List CV) (i : Nat) : Prop := ∃ (D : DataW Value) (n : Nat), w.ownsMap Try.prog 3 rdC mb n D ∧ n ≤ i ∧
  ∀ p, (Lit.int .i64 p).wf = true → Maps.has D (.int .i64 p) = (lastIx l p i).isSome ∧ ∀ k x, lastIx l p i = some k → l[k]? = some x → ∀ zd, D.atKey (.int .i64 p) zd = .held (.agg (cCells x).toArray)
theorem MapIs.made (w : World) (l : List CV) : MapIs (w.alloc (.map #[] 0)) w.heap.size l 0 :=
  ⟨.map [], 0, World.ownsMap_made w Try.prog 3 rdC, Nat.le_refl _, fun p hp => ⟨rfl, fun k x h => by cases h⟩⟩
theorem MapIs.lt {w : World} {mb : Nat} {l : List CV} {i : Nat} (h : MapIs w mb l i) : mb < w.heap.size := by
  obtain ⟨D, n, h, _⟩ := h
  exact h.lt
theorem MapIs.later {w w' : World} {mb B : Nat} {l : List CV} {i : Nat} (h : MapIs w mb l i) (hb : Below B w w') (hlt : mb < B) : MapIs w' mb l i := by
  obtain ⟨D, n, ⟨es, clock, h1, h2⟩, h3⟩ := h
  exact ⟨D, n, ⟨es, clock, (hb.block mb hlt).trans h1, h2⟩, h3⟩
theorem keyI {p : Int} (hp : (Lit.int .i64 p).wf = true) : keyOf Try.prog 3 (.int .i64 p) = some (.int .i64 p) := keyOf_int_mk Try.underlying3 hp
theorem zero17 (w : World) : (zeroValue 51).run Try.prog w = .ok (.agg (cCells zcv).toArray) w := by rw [zcv_cells]; kernel_rfl
/-- May a call come next of its partition? -/
def afterB (y v : CV) : Bool := aheadB y v && decide (y.t1 ≤ v.t0 ∧ y.own1 = v.own0 - 1)
def followsB (l : List CV) (i : Nat) (v : CV) : Bool := match lastIx l v.part i with | none => decide (v.own0 = 1) | some k => (match l[k]? with | some y => afterB y v | none => false)
theorem rahead_q (u v : CV) (q : Bool) (w : World) (h : aheadB u v = q) : Calls Try.prog 16 #[.agg (cCells u).toArray, .agg (cCells v).toArray] w fun e w' => e = .returned (.bool q) ∧ Below w.heap.size w w' := by subst h; exact rahead_b u v w

end Go.Proofs.Ytmonneeikkgllaa
