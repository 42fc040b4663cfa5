/- Rows of structs of an integer and a slice of integers, as they came in; their opening. No condition. -/
import Derived.Test.YtjnlcoldhcedpaaKitI
import Derived.Deep.SlicePairs
namespace Go.Proofs.Ytjnlcoldhcedpaa
open Go.RowKit Go.Sort Go.Deep Go.ChangeShapes Go.WideShapes

/-- One struct: its integer; its slice's items, address and capacity. -/
structure ActV where
  num : Int
  items : List Int
  addr : Option Addr
  cap : Nat
/-- A slice's row of them, at or below block number B. -/
def ActRow (w : World) (B : Nat) (A : Option Addr) (l : List ActV) : Prop :=
  0 < l.length → ∃ b o, A = some ⟨b, o, none⟩ ∧ b < B ∧ ∀ (i : Nat) (v : ActV), l[i]? = some v → w.cell? ⟨b, o + i * 2, none⟩ = some (.int .i64 v.num) ∧ w.cell? ⟨b, o + i * 2 + 1, none⟩ = some (.slice v.addr v.items.length v.cap) ∧
    v.items.length ≤ v.cap ∧ v.cap ≤ maxLen ∧ IntRowK .i64 w B v.addr v.items
theorem ActRow.at_ {w : World} {B : Nat} {A : Option Addr} {l : List ActV} (h : ActRow w B A l) {i : Nat} (hi : i < l.length) : ∃ b o, A = some ⟨b, o, none⟩ ∧ b < B ∧ ∃ v : ActV, l[i]? = some v ∧ v.items.length ≤ v.cap ∧ v.cap ≤ maxLen ∧
    ∀ w', Below B w w' → w'.cell? ⟨b, o + i * 2, none⟩ = some (.int .i64 v.num) ∧ w'.cell? ⟨b, o + i * 2 + 1, none⟩ = some (.slice v.addr v.items.length v.cap) ∧ IntRowK .i64 w' B v.addr v.items := by
  obtain ⟨b, o, hA, hlt, hc⟩ := h (by omega)
  obtain ⟨h0, h1, h2, h3, h4⟩ := hc i _ (List.getElem?_eq_getElem hi)
  exact ⟨b, o, hA, hlt, _, List.getElem?_eq_getElem hi, h2, h3, fun w' hb => ⟨(hb.cell (p := ⟨b, o + i * 2, none⟩) hlt).trans h0, (hb.cell (p := ⟨b, o + i * 2 + 1, none⟩) hlt).trans h1, h4.below hb⟩⟩

theorem act_arg {H : Type} {enc : TypeId × Value → H} {P : Program} {W : World} {t e q : TypeId} {f0 f1 : Field} {a : Option Addr} {len cap : Nat} {d : DataW H} {p : List MemPlace}
    (ht : P.underlying t = some (.slice e)) (he : P.underlying e = some (.struct #[f0, f1])) (ce : P.cellsOf e = 2) (o0 : f0.offset = 0) (o1 : f1.offset = 1) (c0 : P.cellsOf f0.type = 1) (c1 : P.cellsOf f1.type = 1)
    (u0 : P.underlying f0.type = some (.int .i64)) (u1 : P.underlying f1.type = some (.slice q)) (uq : P.underlying q = some (.int .i64)) (cq : P.cellsOf q = 1)
    (h : DataW.Trod enc P W 0 (fun _ => true) true t (.slice a len cap) d p) :
    ∃ l : List ActV, len = l.length ∧ len ≤ cap ∧ cap ≤ maxLen ∧ (a = none → l = []) ∧ ActRow W W.heap.size a l := by
  obtain ⟨fuel, hf⟩ := h
  rcases open_slice_pairs ht he ce o0 o1 c0 c1 hf with ⟨hcs, _⟩ | ⟨a', len', cap', m, n, V0, V1, D0, D1, P0, P1, hcs, _, hl, hm, hmm, _, hx⟩
  · simp [Value.cells] at hcs
    obtain ⟨rfl, rfl, rfl⟩ := hcs
    exact ⟨[], rfl, Nat.le_refl _, by unfold maxLen; omega, fun _ => rfl, (fun h => by simp at h)⟩
  · simp [Value.cells] at hcs
    obtain ⟨rfl, rfl, rfl⟩ := hcs
    have hlm : len ≤ m := by rw [hmm]; split <;> omega
    have each : ∀ i, i < len → ∃ v : ActV, V0 i = .int .i64 v.num ∧ V1 i = .slice v.addr v.items.length v.cap ∧ v.items.length ≤ v.cap ∧ v.cap ≤ maxLen ∧ IntRowK .i64 W W.heap.size v.addr v.items := by
      intro i hi
      obtain ⟨_, _, h0, h1⟩ := hx i (by omega)
      obtain ⟨f, e0, _, _⟩ := DataW.trod_int u0 h0
      simp at e0
      have hv : ∃ a2 len2 cap2, V1 i = .slice a2 len2 cap2 := by
        rcases open_ints u1 uq cq h1 with ⟨hcs, _⟩ | ⟨a2, len2, cap2, zs, hcs, _⟩
        · simp at hcs; exact ⟨_, _, _, hcs⟩
        · simp at hcs; exact ⟨_, _, _, hcs⟩
      obtain ⟨a2, len2, cap2, hv⟩ := hv
      rw [hv] at h1
      obtain ⟨zs, rfl, hc, hm2, _, hr, _⟩ := ints_argK (W := W) .i64 u1 uq cq ⟨n, by simpa [Value.cells] using h1⟩
      exact ⟨⟨f, zs, a2, cap2⟩, e0, hv, hc, hm2, hr⟩
    obtain ⟨F, hF⟩ : ∃ F : Nat → ActV, ∀ i, i < len → V0 i = .int .i64 (F i).num ∧ V1 i = .slice (F i).addr (F i).items.length (F i).cap ∧ (F i).items.length ≤ (F i).cap ∧ (F i).cap ≤ maxLen ∧ IntRowK .i64 W W.heap.size (F i).addr (F i).items := by
      refine ⟨fun i => if hi : i < len then (each i hi).choose else ⟨0, [], none, 0⟩, fun i hi => ?_⟩
      simp only [hi, dif_pos]
      exact (each i hi).choose_spec
    refine ⟨(List.range len).map F, by simp, hl, hm, (fun h => by cases h), fun hp => ?_⟩
    simp at hp
    obtain ⟨b, off, spot⟩ := a'
    have hc := (hx 0 (by omega)).1
    have hspot : spot = none := by simpa [Addr.add] using World.cell?_spot hc
    subst hspot
    have hblk : b < W.heap.size := by
      have := World.block_lt_of_cell? W _ hc
      simpa [Addr.add] using this
    refine ⟨b, off, rfl, hblk, fun i v hv => ?_⟩
    have hi : i < len := by
      have := (List.getElem?_eq_some_iff.1 hv).1
      simpa using this
    have hv' : F i = v := by simpa [hi] using hv
    subst hv'
    obtain ⟨h0, h1, _, _⟩ := hx i (by omega)
    obtain ⟨v0, v1, v2, v3, v4⟩ := hF i hi
    have ea : (⟨b, off, none⟩ : Addr).add (i * 2) = ⟨b, off + i * 2, none⟩ := by unfold Addr.add; split <;> simp_all
    have eb : (⟨b, off, none⟩ : Addr).add (i * 2 + 1) = ⟨b, off + i * 2 + 1, none⟩ := by unfold Addr.add; simp [Nat.add_assoc]
    rw [ea, v0] at h0
    rw [eb, v1] at h1
    exact ⟨h0, h1, v2, v3, v4⟩
end Go.Proofs.Ytjnlcoldhcedpaa
