/- Arguments that are slices of structs of two integers, opened. No condition. -/
import Derived.Test.YtgplpcghencilaaKitB
import Derived.ProofKit
import Derived.Deep.SlicePairs
namespace Go.Proofs.Ytgplpcghencilaa
open Go.RowKit Go.Sort Go.Deep Go.ChangeShapes Go.WideShapes

theorem pair_arg {H : Type} {enc : TypeId × Value → H} {P : Program} {W : World} {t e : TypeId} {f0 f1 : Field} {a : Option Addr} {len cap : Nat} {d : DataW H} {p : List MemPlace}
    (ht : P.underlying t = some (.slice e)) (he : P.underlying e = some (.struct #[f0, f1])) (ce : P.cellsOf e = 2) (o0 : f0.offset = 0) (o1 : f1.offset = 1) (c0 : P.cellsOf f0.type = 1) (c1 : P.cellsOf f1.type = 1)
    (u0 : P.underlying f0.type = some (.int .i64)) (u1 : P.underlying f1.type = some (.int .i64))
    (h : DataW.Trod enc P W 0 (fun _ => true) true t (.slice a len cap) d p) :
    ∃ l : List (Int × Int), len = l.length ∧ len ≤ cap ∧ cap ≤ maxLen ∧ (a = none → l = []) ∧ PairRow W W.heap.size a l ∧ ∀ q ∈ l, (Lit.int .i64 q.1).wf = true ∧ (Lit.int .i64 q.2).wf = true := by
  obtain ⟨fuel, hf⟩ := h
  rcases open_slice_pairs ht he ce o0 o1 c0 c1 hf with ⟨hcs, _⟩ | ⟨a', len', cap', m, n, V0, V1, D0, D1, P0, P1, hcs, _, hl, hm, hmm, _, hx⟩
  · simp [Value.cells] at hcs
    obtain ⟨rfl, rfl, rfl⟩ := hcs
    exact ⟨[], rfl, Nat.le_refl _, by unfold maxLen; omega, fun _ => rfl, (fun h => by simp at h), fun q hq => by cases hq⟩
  · simp [Value.cells] at hcs
    obtain ⟨rfl, rfl, rfl⟩ := hcs
    have hlm : len ≤ m := by rw [hmm]; split <;> omega
    have ints : ∀ i, i < len → ∃ f s : Int, V0 i = .int .i64 f ∧ V1 i = .int .i64 s ∧ (Lit.int .i64 f).wf = true ∧ (Lit.int .i64 s).wf = true := by
      intro i hi
      obtain ⟨_, _, h0, h1⟩ := hx i (by omega)
      obtain ⟨f, e0, _, w0⟩ := DataW.trod_int u0 h0
      obtain ⟨s, e1, _, w1⟩ := DataW.trod_int u1 h1
      simp at e0 e1
      exact ⟨f, s, e0, e1, w0, w1⟩
    obtain ⟨F, hF⟩ : ∃ F : Nat → Int × Int, ∀ i, i < len → V0 i = .int .i64 (F i).1 ∧ V1 i = .int .i64 (F i).2 ∧ (Lit.int .i64 (F i).1).wf = true ∧ (Lit.int .i64 (F i).2).wf = true := by
      refine ⟨fun i => if hi : i < len then ((ints i hi).choose, (ints i hi).choose_spec.choose) else (0, 0), fun i hi => ?_⟩
      simp only [hi, dif_pos]
      exact (ints i hi).choose_spec.choose_spec
    refine ⟨(List.range len).map F, by simp, hl, hm, (fun h => by cases h), fun hp => ?_, fun q hq => ?_⟩
    · simp at hp
      obtain ⟨b, off, spot⟩ := a'
      have hc := (hx 0 (by omega)).1
      have hspot : spot = none := by simpa [Addr.add] using World.cell?_spot hc
      subst hspot
      have hblk : b < W.heap.size := by
        have := World.block_lt_of_cell? W _ hc
        simpa [Addr.add] using this
      refine ⟨b, off, rfl, hblk, fun i hi => ?_⟩
      simp at hi
      obtain ⟨h0, h1, _, _⟩ := hx i (by omega)
      obtain ⟨v0, v1, _, _⟩ := hF i hi
      have ea : (⟨b, off, none⟩ : Addr).add (i * 2) = ⟨b, off + i * 2, none⟩ := by unfold Addr.add; split <;> simp_all
      have eb : (⟨b, off, none⟩ : Addr).add (i * 2 + 1) = ⟨b, off + i * 2 + 1, none⟩ := by unfold Addr.add; simp [Nat.add_assoc]
      rw [ea, v0] at h0
      rw [eb, v1] at h1
      simp only [List.getD_eq_getElem?_getD, List.getElem?_map, List.getElem?_range hi, Option.map_some, Option.getD_some]
      exact ⟨h0, h1⟩
    · obtain ⟨i, hi, rfl⟩ := List.mem_map.1 hq
      have := List.mem_range.1 hi
      exact ⟨(hF i this).2.2.1, (hF i this).2.2.2⟩
end Go.Proofs.Ytgplpcghencilaa
