/- Rows of slices of integers (slices of slices), as they came in; their opening. No condition. -/
import Derived.Test.YtajhfijpbfikkaaKitI
import Derived.Deep.Matrix
namespace Go.Proofs.Ytajhfijpbfikkaa
open Go.RowKit Go.Sort Go.Deep Go.ChangeShapes Go.WideShapes

/-- One slice: its items, address and capacity. -/
structure PartV where
  items : List Int
  addr : Option Addr
  cap : Nat
/-- A slice's row of them, at or below block number B. -/
def PartRow (k : IntKind) (w : World) (B : Nat) (A : Option Addr) (l : List PartV) : Prop :=
  0 < l.length → ∃ b o, A = some ⟨b, o, none⟩ ∧ b < B ∧ ∀ (i : Nat) (v : PartV), l[i]? = some v → w.cell? ⟨b, o + i, none⟩ = some (.slice v.addr v.items.length v.cap) ∧
    v.items.length ≤ v.cap ∧ v.cap ≤ maxLen ∧ IntRowK k w B v.addr v.items ∧ (v.addr = none → v.items = [])
theorem PartRow.later {k : IntKind} {w w' : World} {B : Nat} {A : Option Addr} {l : List PartV} (h : PartRow k w B A l) (hb : Below B w w') : PartRow k w' B A l := fun hp => by
  obtain ⟨b, o, hA, hlt, hc⟩ := h hp
  refine ⟨b, o, hA, hlt, fun i v hv => ?_⟩
  obtain ⟨h0, h1, h2, h3, h4⟩ := hc i v hv
  exact ⟨(hb.cell (p := ⟨b, o + i, none⟩) hlt).trans h0, h1, h2, h3.below hb, h4⟩
theorem PartRow.at_ {k : IntKind} {w : World} {B : Nat} {A : Option Addr} {l : List PartV} (h : PartRow k w B A l) {i : Nat} (hi : i < l.length) : ∃ b o, A = some ⟨b, o, none⟩ ∧ b < B ∧ ∃ v : PartV, l[i]? = some v ∧ v.items.length ≤ v.cap ∧ v.cap ≤ maxLen ∧ (v.addr = none → v.items = []) ∧
    ∀ w', Below B w w' → w'.cell? ⟨b, o + i, none⟩ = some (.slice v.addr v.items.length v.cap) ∧ IntRowK k w' B v.addr v.items := by
  obtain ⟨b, o, hA, hlt, hc⟩ := h (by omega)
  obtain ⟨h0, h1, h2, h3, h4⟩ := hc i _ (List.getElem?_eq_getElem hi)
  exact ⟨b, o, hA, hlt, _, List.getElem?_eq_getElem hi, h1, h2, h4, fun w' hb => ⟨(hb.cell (p := ⟨b, o + i, none⟩) hlt).trans h0, h3.below hb⟩⟩

theorem parts_arg {H : Type} {enc : TypeId × Value → H} {P : Program} {W : World} {t e q : TypeId} {a : Option Addr} {len cap : Nat} {d : DataW H} {p : List MemPlace} (k : IntKind)
    (ht : P.underlying t = some (.slice e)) (he : P.underlying e = some (.slice q)) (hq : P.underlying q = some (.int k)) (ce : P.cellsOf e = 1) (cq : P.cellsOf q = 1)
    (h : DataW.Trod enc P W 0 (fun _ => true) true t (.slice a len cap) d p) :
    ∃ l : List PartV, len = l.length ∧ len ≤ cap ∧ cap ≤ maxLen ∧ (a = none → l = []) ∧ PartRow k W W.heap.size a l := by
  obtain ⟨fuel, hf⟩ := h
  rcases open_int_rows ht he hq ce cq hf with ⟨hcs, _⟩ | ⟨a', len', cap', A, L, C, Z, hcs, _, hl, hm, _, hx⟩
  · simp [Value.cells] at hcs
    obtain ⟨rfl, rfl, rfl⟩ := hcs
    exact ⟨[], rfl, Nat.le_refl _, by unfold maxLen; omega, fun _ => rfl, (fun h => by simp at h)⟩
  · simp [Value.cells] at hcs
    obtain ⟨rfl, rfl, rfl⟩ := hcs
    refine ⟨(List.range len).map fun r => ⟨(Z r).take (L r), A r, C r⟩, by simp, hl, hm, (fun h => by cases h), fun hp => ?_⟩
    simp at hp
    obtain ⟨b, off, spot⟩ := a'
    have hc := (hx 0 (by omega)).1
    have hspot : spot = none := by simpa [Addr.add] using World.cell?_spot hc
    subst hspot
    have hblk : b < W.heap.size := by
      have := World.block_lt_of_cell? W _ hc
      simpa [Addr.add] using this
    refine ⟨b, off, rfl, hblk, fun i v hv => ?_⟩
    have hi : i < len := by
      have := (List.getElem?_eq_some_iff.1 hv).1
      simpa using this
    have hv' : (⟨(Z i).take (L i), A i, C i⟩ : PartV) = v := by simpa [hi] using hv
    subst hv'
    obtain ⟨h0, h1, h2, h3, _, h5, h6⟩ := hx i (by omega)
    have ea : (⟨b, off, none⟩ : Addr).add i = ⟨b, off + i, none⟩ := Addr.add_lit ..
    rw [ea] at h0
    have hlen : ((Z i).take (L i)).length = L i := by simp; omega
    refine ⟨by rw [hlen]; exact h0, by rw [hlen]; exact h1, h2, fun hp2 => ?_, fun hn => by
      have h8 : C i = 0 := h5 hn
      exact List.eq_nil_of_length_eq_zero (by rw [hlen]; omega)⟩
    have hp3 : 0 < L i := by
      have hp4 : 0 < ((Z i).take (L i)).length := hp2
      omega
    have hn : A i ≠ none := fun hn => by have := h5 hn; omega
    cases hA : A i with
    | none => exact absurd hA hn
    | some a2 =>
      obtain ⟨b2, o2, s2⟩ := a2
      obtain ⟨_, hcell⟩ := h6 _ hA
      have hc2 := hcell 0 (by omega)
      have hs2 : s2 = none := by simpa [Addr.add] using World.cell?_spot hc2
      subst hs2
      have hb2 : b2 < W.heap.size := by
        have := World.block_lt_of_cell? W _ hc2
        simpa [Addr.add] using this
      refine ⟨b2, o2, rfl, hb2, fun j hj => ?_⟩
      have hj2 : j < L i := by rw [hlen] at hj; exact hj
      have h7 := hcell j (by omega)
      have eb : (⟨b2, o2, none⟩ : Addr).add j = ⟨b2, o2 + j, none⟩ := Addr.add_lit ..
      rw [eb] at h7
      rw [h7]
      congr 2
      have hz : j < (Z i).length := by omega
      simp [List.getD_eq_getElem?_getD, hj2, hz]
end Go.Proofs.Ytajhfijpbfikkaa
