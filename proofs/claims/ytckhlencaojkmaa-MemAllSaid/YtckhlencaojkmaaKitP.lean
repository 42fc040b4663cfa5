/- Rows of pairs of integers of any two kinds (slices of structs of two integers), as they came in; their opening. No condition. -/
import Derived.Test.YtckhlencaojkmaaKit
import Derived.ProofKit
import Derived.Deep.SlicePairs
import Derived.Lib.Hide
namespace Go.Proofs.Ytckhlencaojkmaa
open Go.RowKit Go.Sort Go.Deep Go.ChangeShapes Go.WideShapes

/-- A slice's row of pairs of integers (structs of two integer fields of these kinds), at or below block number B. -/
def PairRowK (ka kb : IntKind) (w : World) (B : Nat) (A : Option Addr) (l : List (Int × Int)) : Prop :=
  0 < l.length → ∃ b o, A = some ⟨b, o, none⟩ ∧ b < B ∧ ∀ i, i < l.length → w.cell? ⟨b, o + i * 2, none⟩ = some (.int ka (l.getD i (0, 0)).1) ∧ w.cell? ⟨b, o + i * 2 + 1, none⟩ = some (.int kb (l.getD i (0, 0)).2)
theorem PairRowK.below {ka kb : IntKind} {w w' : World} {B : Nat} {A : Option Addr} {l : List (Int × Int)} (h : PairRowK ka kb w B A l) (hb : Below B w w') : PairRowK ka kb w' B A l := fun hn => by
  obtain ⟨b, o, hA, hlt, hc⟩ := h hn
  exact ⟨b, o, hA, hlt, fun i hi => ⟨(hb.cell (p := ⟨b, o + i * 2, none⟩) hlt).trans (hc i hi).1, (hb.cell (p := ⟨b, o + i * 2 + 1, none⟩) hlt).trans (hc i hi).2⟩⟩
theorem PairRowK.more {ka kb : IntKind} {w : World} {B B' : Nat} {A : Option Addr} {l : List (Int × Int)} (h : PairRowK ka kb w B A l) (hb : B ≤ B') : PairRowK ka kb w B' A l := fun hn => by
  obtain ⟨b, o, hA, hlt, hc⟩ := h hn
  exact ⟨b, o, hA, by omega, hc⟩
/-- The pair at place i, in every world that is as w below B. -/
theorem PairRowK.at_ {ka kb : IntKind} {w : World} {B : Nat} {A : Option Addr} {l : List (Int × Int)} (h : PairRowK ka kb w B A l) {i : Nat} (hi : i < l.length) : ∃ b o, A = some ⟨b, o, none⟩ ∧ b < B ∧
    ∀ w', Below B w w' → w'.cell? ⟨b, o + i * 2, none⟩ = some (.int ka (l.getD i (0, 0)).1) ∧ w'.cell? ⟨b, o + i * 2 + 1, none⟩ = some (.int kb (l.getD i (0, 0)).2) := by
  obtain ⟨b, o, hA, hlt, hc⟩ := h (by omega)
  exact ⟨b, o, hA, hlt, fun w' hb => ⟨(hb.cell (p := ⟨b, o + i * 2, none⟩) hlt).trans (hc i hi).1, (hb.cell (p := ⟨b, o + i * 2 + 1, none⟩) hlt).trans (hc i hi).2⟩⟩

theorem pair_argK {H : Type} {enc : TypeId × Value → H} {P : Program} {W : World} {t e : TypeId} {f0 f1 : Field} {a : Option Addr} {len cap : Nat} {d : DataW H} {p : List MemPlace} (ka kb : IntKind)
    (ht : P.underlying t = some (.slice e)) (he : P.underlying e = some (.struct #[f0, f1])) (ce : P.cellsOf e = 2) (o0 : f0.offset = 0) (o1 : f1.offset = 1) (c0 : P.cellsOf f0.type = 1) (c1 : P.cellsOf f1.type = 1)
    (u0 : P.underlying f0.type = some (.int ka)) (u1 : P.underlying f1.type = some (.int kb))
    (h : DataW.Trod enc P W 0 (fun _ => true) true t (.slice a len cap) d p) :
    ∃ l : List (Int × Int), len = l.length ∧ len ≤ cap ∧ cap ≤ maxLen ∧ (a = none → l = []) ∧ PairRowK ka kb W W.heap.size a l ∧ ∀ q ∈ l, (Lit.int ka q.1).wf = true ∧ (Lit.int kb q.2).wf = true := by
  obtain ⟨fuel, hf⟩ := h
  rcases open_slice_pairs ht he ce o0 o1 c0 c1 hf with ⟨hcs, _⟩ | ⟨a', len', cap', m, n, V0, V1, D0, D1, P0, P1, hcs, _, hl, hm, hmm, _, hx⟩
  · simp [Value.cells] at hcs
    obtain ⟨rfl, rfl, rfl⟩ := hcs
    exact ⟨[], rfl, Nat.le_refl _, by unfold maxLen; omega, fun _ => rfl, (fun h => by simp at h), fun q hq => by cases hq⟩
  · simp [Value.cells] at hcs
    obtain ⟨rfl, rfl, rfl⟩ := hcs
    have hlm : len ≤ m := by rw [hmm]; split <;> omega
    have ints : ∀ i, i < len → ∃ f s : Int, V0 i = .int ka f ∧ V1 i = .int kb s ∧ (Lit.int ka f).wf = true ∧ (Lit.int kb s).wf = true := by
      intro i hi
      obtain ⟨_, _, h0, h1⟩ := hx i (by omega)
      obtain ⟨f, e0, _, w0⟩ := DataW.trod_int u0 h0
      obtain ⟨s, e1, _, w1⟩ := DataW.trod_int u1 h1
      simp at e0 e1
      exact ⟨f, s, e0, e1, w0, w1⟩
    obtain ⟨F, hF⟩ : ∃ F : Nat → Int × Int, ∀ i, i < len → V0 i = .int ka (F i).1 ∧ V1 i = .int kb (F i).2 ∧ (Lit.int ka (F i).1).wf = true ∧ (Lit.int kb (F i).2).wf = true := by
      refine ⟨fun i => if hi : i < len then ((ints i hi).choose, (ints i hi).choose_spec.choose) else (0, 0), fun i hi => ?_⟩
      simp only [hi, dif_pos]
      exact (ints i hi).choose_spec.choose_spec
    refine ⟨(List.range len).map F, by simp, hl, hm, (fun h => by cases h), fun hp => ?_, fun q hq => ?_⟩
    · simp at hp
      obtain ⟨b, off, spot⟩ := a'
      have hc := (hx 0 (by omega)).1
      have hspot : spot = none := by simpa [Addr.add] using World.cell?_spot hc
      subst hspot
      have hblk : b < W.heap.size := by
        have := World.block_lt_of_cell? W _ hc
        simpa [Addr.add] using this
      refine ⟨b, off, rfl, hblk, fun i hi => ?_⟩
      simp at hi
      obtain ⟨h0, h1, _, _⟩ := hx i (by omega)
      obtain ⟨v0, v1, _, _⟩ := hF i hi
      have ea : (⟨b, off, none⟩ : Addr).add (i * 2) = ⟨b, off + i * 2, none⟩ := by unfold Addr.add; split <;> simp_all
      have eb : (⟨b, off, none⟩ : Addr).add (i * 2 + 1) = ⟨b, off + i * 2 + 1, none⟩ := by unfold Addr.add; simp [Nat.add_assoc]
      rw [ea, v0] at h0
      rw [eb, v1] at h1
      simp only [List.getD_eq_getElem?_getD, List.getElem?_map, List.getElem?_range hi, Option.map_some, Option.getD_some]
      exact ⟨h0, h1⟩
    · obtain ⟨i, hi, rfl⟩ := List.mem_map.1 hq
      have := List.mem_range.1 hi
      exact ⟨(hF i this).2.2.1, (hF i this).2.2.2⟩
end Go.Proofs.Ytckhlencaojkmaa
