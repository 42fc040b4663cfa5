/- Rows of items in memory. No condition but those in the statements. -/
import Derived.Test.YtmonneeikkgllaaWC
import Derived.Test.YtmonneeikkgllaaOff
import Derived.BigQuiet
import Derived.IntWalk
import Derived.BigRegion
import Derived.OpenShut
import Derived.Deep.MidRow
import Derived.Lib.Hide
namespace Go.Proofs.Ytmonneeikkgllaa
open WtP Go.RowKit Go.Sort Go.ChangeShapes Go.WideShapes
set_option linter.unusedVariables false
set_option linter.unusedSimpArgs false


def tcs (l : List T4) : List Value := (l.map tc).flatten
theorem tcs_nil : tcs [] = [] := rfl
theorem tcs_app (a b : List T4) : tcs (a ++ b) = tcs a ++ tcs b := by simp [tcs]
theorem tcs_one (x : T4) : tcs [x] = tc x := by simp [tcs]
theorem tcs_len : ∀ l : List T4, (tcs l).length = l.length * 4
  | [] => rfl
  | x :: l => by rw [show tcs (x :: l) = tc x ++ tcs l from rfl, List.length_append, tcs_len l, tc_len, List.length_cons]; omega
theorem tcs_at : ∀ {l : List T4} {k : Nat} {x : T4}, l[k]? = some x → ∀ j, j < 4 → (tcs l)[k * 4 + j]? = (tc x)[j]?
  | [], k, x, h, _, _ => by simp at h
  | y :: l, 0, x, h, j, hj => by
    simp at h; subst h
    rw [show tcs (y :: l) = tc y ++ tcs l from rfl, Nat.zero_mul, Nat.zero_add, List.getElem?_append_left (by rw [tc_len]; exact hj)]
  | y :: l, k + 1, x, h, j, hj => by
    have ih := tcs_at (l := l) (k := k) (x := x) (by simpa using h) j hj
    rw [show tcs (y :: l) = tc y ++ tcs l from rfl, List.getElem?_append_right (by rw [tc_len]; omega), tc_len, show (k + 1) * 4 + j - 4 = k * 4 + j by omega]
    exact ih
theorem tc_ones (x : T4) : ∀ u ∈ tc x, u.oneCell' = true := fun u hu => by
  simp [tc] at hu; rcases hu with rfl | rfl | rfl | rfl <;> rfl
/-- A slice's row of items, at a block below number B. -/
def TRow (w : World) (B : Nat) (A : Option Addr) (l : List T4) : Prop :=
  0 < l.length → ∃ b o, A = some ⟨b, o, none⟩ ∧ b < B ∧ ∀ (i : Nat) (x : T4), l[i]? = some x → w.rangeAt b (o + i * 4) (tc x)
theorem TRow.below {w w' : World} {B : Nat} {A : Option Addr} {l : List T4} (h : TRow w B A l) (hb : Below B w w') : TRow w' B A l := fun hn => by
  obtain ⟨b, o, hA, hlt, hc⟩ := h hn
  exact ⟨b, o, hA, hlt, fun i x hx j u hu => (hb.cell (p := ⟨b, o + i * 4 + j, none⟩) hlt).trans (hc i x hx j u hu)⟩
theorem TRow.more {w : World} {B B' : Nat} {A : Option Addr} {l : List T4} (h : TRow w B A l) (hb : B ≤ B') : TRow w B' A l := fun hn => by
  obtain ⟨b, o, hA, hlt, hc⟩ := h hn
  exact ⟨b, o, hA, by omega, hc⟩
theorem TRow.later {w w' : World} {A : Option Addr} {l : List T4} (h : TRow w w.heap.size A l) (hb : Below w.heap.size w w') : TRow w' w'.heap.size A l := (h.below hb).more hb.size
theorem TRow.at_ {w : World} {B : Nat} {A : Option Addr} {l : List T4} (h : TRow w B A l) {i : Nat} (hi : i < l.length) : ∃ (b o : Nat) (x : T4), A = some ⟨b, o, none⟩ ∧ b < B ∧ l[i]? = some x ∧ ∀ w', Below B w w' → w'.rangeAt b (o + i * 4) (tc x) := by
  obtain ⟨b, o, hA, hlt, hc⟩ := h (by omega)
  exact ⟨b, o, _, hA, hlt, List.getElem?_eq_getElem hi, fun w' hb j u hu => (hb.cell (p := ⟨b, o + i * 4 + j, none⟩) hlt).trans (hc i _ (List.getElem?_eq_getElem hi) j u hu)⟩
/-- The four cells of one that lies there. -/
theorem tc_cells {w : World} {b o : Nat} {x : T4} (h : w.rangeAt b o (tc x)) : w.cell? ⟨b, o, none⟩ = some (.int .i64 x.mom) ∧ w.cell? ⟨b, o + 1, none⟩ = some (.int .i64 x.rank) ∧ w.cell? ⟨b, o + 2, none⟩ = some (.int .i64 x.kind) ∧ w.cell? ⟨b, o + 3, none⟩ = some (.int .i64 x.idx) :=
  ⟨h 0 _ rfl, h 1 _ rfl, h 2 _ rfl, h 3 _ rfl⟩
theorem own_trow {w : World} {B n : Nat} {e : TypeId} {v : Value} {l : List T4} (h : OwnsOff w B e 4 v n (tcs l)) (hn : n = l.length) : ∃ A c, v = .slice A n c ∧ n ≤ c ∧ c ≤ maxLen ∧ TRow w w.heap.size A l := by
  obtain ⟨A, c, rfl, h1, h2⟩ := h.slice
  refine ⟨A, c, rfl, h1, h2, fun hp => ?_⟩
  obtain ⟨g, off, cap, hv, _, hg, _, _, _, hc⟩ := h.lies (by omega)
  injection hv with hv1 hv2 hv3
  refine ⟨g, off, hv1, hg, fun i x hx j u hu => ?_⟩
  have hj : j < 4 := by have := (List.getElem?_eq_some_iff.1 hu).1; rw [tc_len] at this; exact this
  have := hc (i * 4 + j) u (by rw [tcs_at hx j hj]; exact hu)
  rw [Nat.add_assoc]; exact this
end Go.Proofs.Ytmonneeikkgllaa
