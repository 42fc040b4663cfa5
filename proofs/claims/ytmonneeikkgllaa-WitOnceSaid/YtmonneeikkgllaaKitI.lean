/- Rows of integers of any kind (slices of integers), as they came in; their opening. No condition. -/
import Derived.Test.YtmonneeikkgllaaKit
import Derived.ProofKit
import Derived.ArgAppend
import Derived.ChangeSlices
import Derived.Lib.Hide
namespace Go.Proofs.Ytmonneeikkgllaa
open Go.RowKit Go.Sort Go.ChangeShapes Go.WideShapes

/-- A slice's row of integers of kind k, at a block below number B. -/
def IntRowK (k : IntKind) (w : World) (B : Nat) (A : Option Addr) (xs : List Int) : Prop :=
  0 < xs.length → ∃ b o, A = some ⟨b, o, none⟩ ∧ b < B ∧ ∀ i, i < xs.length → w.cell? ⟨b, o + i, none⟩ = some (.int k (xs.getD i 0))
theorem IntRowK.below {k : IntKind} {w w' : World} {B : Nat} {A : Option Addr} {l : List Int} (h : IntRowK k w B A l) (hb : Below B w w') : IntRowK k w' B A l := fun hn => by
  obtain ⟨b, o, hA, hlt, hc⟩ := h hn
  exact ⟨b, o, hA, hlt, fun i hi => (hb.cell (p := ⟨b, o + i, none⟩) hlt).trans (hc i hi)⟩
theorem IntRowK.more {k : IntKind} {w : World} {B B' : Nat} {A : Option Addr} {l : List Int} (h : IntRowK k w B A l) (hb : B ≤ B') : IntRowK k w B' A l := fun hn => by
  obtain ⟨b, o, hA, hlt, hc⟩ := h hn
  exact ⟨b, o, hA, by omega, hc⟩
/-- The integer at place i, in every world that is as w below B. -/
theorem IntRowK.at_ {k : IntKind} {w : World} {B : Nat} {A : Option Addr} {l : List Int} (h : IntRowK k w B A l) {i : Nat} (hi : i < l.length) : ∃ b o, A = some ⟨b, o, none⟩ ∧ b < B ∧
    ∀ w', Below B w w' → w'.cell? ⟨b, o + i, none⟩ = some (.int k (l.getD i 0)) := by
  obtain ⟨b, o, hA, hlt, hc⟩ := h (by omega)
  exact ⟨b, o, hA, hlt, fun w' hb => (hb.cell (p := ⟨b, o + i, none⟩) hlt).trans (hc i hi)⟩
theorem ints_argK {H : Type} {enc : TypeId × Value → H} {P : Program} {W : World} {t e : TypeId} {a : Option Addr} {len cap : Nat} {d : DataW H} {p : List MemPlace} (k : IntKind)
    (ht : P.underlying t = some (.slice e)) (he : P.underlying e = some (.int k)) (ce : P.cellsOf e = 1)
    (h : DataW.Trod enc P W 0 (fun _ => true) true t (.slice a len cap) d p) :
    ∃ l : List Int, len = l.length ∧ len ≤ cap ∧ cap ≤ maxLen ∧ (a = none → l = []) ∧ IntRowK k W W.heap.size a l ∧ ∀ q ∈ l, (Lit.int k q).wf = true := by
  obtain ⟨fuel, hf⟩ := h
  rcases open_ints ht he ce hf with ⟨hcs, _⟩ | ⟨a', len', cap', zs, hcs, _, hl, hm, hzl, _, hx, hw⟩
  · simp [Value.cells] at hcs
    obtain ⟨rfl, rfl, rfl⟩ := hcs
    exact ⟨[], rfl, Nat.le_refl _, by unfold maxLen; omega, fun _ => rfl, (fun h => by simp at h), fun q hq => by cases hq⟩
  · simp [Value.cells] at hcs
    obtain ⟨rfl, rfl, rfl⟩ := hcs
    simp at hzl
    refine ⟨zs.take len, by simp; omega, hl, hm, (fun h => by cases h), fun hp => ?_, fun q hq => hw q (List.mem_of_mem_take hq)⟩
    simp at hp
    obtain ⟨b, off, spot⟩ := a'
    have hc := hx 0 (by omega)
    have hspot : spot = none := by simpa [Addr.add] using World.cell?_spot hc
    subst hspot
    have hblk : b < W.heap.size := by
      have := World.block_lt_of_cell? W _ hc
      simpa [Addr.add] using this
    refine ⟨b, off, rfl, hblk, fun i hi => ?_⟩
    simp at hi
    have h1 := hx i (by omega)
    have ea : (⟨b, off, none⟩ : Addr).add i = ⟨b, off + i, none⟩ := Addr.add_lit ..
    rw [ea] at h1
    rw [h1]
    congr 2
    have hz : i < zs.length := by omega
    simp [List.getD_eq_getElem?_getD, hi, hz]

/-- s[k:] and s[:k] of a slice of integers, as rules for a walk. -/
theorem from_row {P : Program} {t e : TypeId} {i : TypeInfo} {K : IntKind} {w : World} {B : Nat} (ht : P.underlying t = some (.slice e)) (hi : P.info? e = some i) (hs : i.size = 1) {A : Option Addr} {l : List Int} {c : Nat} (k : Nat) (hk : k ≤ l.length) (hc : l.length ≤ c) (hm : c ≤ maxLen)
    (hrow : IntRowK K w B A l) (hnil : A = none → l = []) : ∃ A' c', (∀ w', (Instr.sliceAt t (.slice A l.length c) (some (.int .i64 (k : Int))) none none).run P w' = .ok (.slice A' (l.drop k).length c') w') ∧ (l.drop k).length ≤ c' ∧ c' ≤ maxLen ∧ IntRowK K w B A' (l.drop k) ∧ (A' = none → l.drop k = []) := by
  refine ⟨if c = k then A else A.map (·.add (k * i.size)), c - k, fun w' => ?_, by simp; omega, by omega, fun hp => ?_, fun hn => ?_⟩
  · simp [Instr.sliceAt, Instr.slice, run_underlying ht, Instr.sliceBounds, Instr.sliceBound, asIntOf, sizeOf, typeInfo, hi]
    intro h; omega
  · simp at hp
    obtain ⟨b, o, rfl, hb, hcell⟩ := hrow (by omega)
    rw [if_neg (by omega), hs]
    refine ⟨b, o + k, by simp [Addr.add], hb, fun j hj => ?_⟩
    simp at hj
    have := hcell (k + j) (by omega)
    rw [Nat.add_assoc, this]
    simp [List.getD_eq_getElem?_getD]
  · cases A with
    | none => rw [hnil rfl]; simp
    | some a =>
      split at hn
      · cases hn
      · cases hn
theorem upto_row {P : Program} {t e : TypeId} {i : TypeInfo} (ht : P.underlying t = some (.slice e)) (hi : P.info? e = some i) (A : Option Addr) (n c k : Nat) (hk : k ≤ c) (w : World) :
    (Instr.sliceAt t (.slice A n c) none (some (.int .i64 (k : Int))) none).run P w = .ok (.slice A k c) w := by
  have hA : A.map (fun x => x.add 0) = A := by cases A <;> simp [Addr.add]
  simp [Instr.sliceAt, Instr.slice, run_underlying ht, Instr.sliceBounds, Instr.sliceBound, asIntOf, sizeOf, typeInfo, hi, hA]
  intro h; omega
theorem IntRowK.take {K : IntKind} {w : World} {B : Nat} {A : Option Addr} {l : List Int} (h : IntRowK K w B A l) (k : Nat) : IntRowK K w B A (l.take k) := fun hp => by
  simp at hp
  obtain ⟨b, o, rfl, hb, hcell⟩ := h (by omega)
  refine ⟨b, o, rfl, hb, fun j hj => ?_⟩
  simp at hj
  rw [hcell j (by omega)]
  have hj2 : j < l.length := by omega
  simp [List.getD_eq_getElem?_getD, hj, hj2]
end Go.Proofs.Ytmonneeikkgllaa
