/- An accepted configuration's two frames, tick by tick, in plain numbers. No condition. -/
import Derived.Test.YtfpcldkgcifciaaLay
import Derived.Test.YtfpcldkgcifciaaCount
namespace Go.Proofs.Ytfpcldkgcifciaa
open Go.RowKit Go.Sort
set_option linter.unusedVariables false
set_option linter.unusedSimpArgs false
set_option linter.unusedVariables false
set_option linter.unusedSimpArgs false

/-- A core's frame: its length, its windows. -/
def frL (c : Cfg) (f : Int) : Int := if f = 0 then c.len0 else c.len1
def frW (c : Cfg) (f : Int) : List (List Int) := if f = 0 then c.win0 else c.win1
/-- A core's frame, as far as there is one. -/
def whoO2 (is : Int → List Int → Bool) (c : Cfg) (f t : Int) : Option Int := if f = 0 then atO is c.len0 c.win0 t else if f = 1 then atO is c.len1 c.win1 t else none
/-- Who is entered with a tick. -/
def entL (c : Cfg) (t : Int) : List Int := (atO entB c.len0 c.win0 t).toList ++ (atO entB c.len1 c.win1 t).toList
theorem entL_len (c : Cfg) (t : Int) : (entL c t).length ≤ 2 := by
  unfold entL
  rw [List.length_append]
  cases atO entB c.len0 c.win0 t <;> cases atO entB c.len1 c.win1 t <;> simp
/-- What the windows of a frame have. -/
structure FrOk (c : Cfg) (f : Int) : Prop where
  right : rightB (frL c f) (frW c f) = true
  part : ∀ i, i < (frW c f).length → ∃ p : Nat, fld (row (frW c f) i) 0 = (p : Int) ∧ p < c.parts.length ∧ fld (row c.parts p) 0 = f
structure Acc15 (c : Cfg) : Prop where
  parts : 1 ≤ c.parts.length ∧ c.parts.length ≤ 6
  fr : ∀ f : Int, f = 0 ∨ f = 1 → FrOk c f
  has : ∀ p, p < c.parts.length → (fld (row c.parts p) 0 = 0 ∨ fld (row c.parts p) 0 = 1) ∧ ∃ i, i < (frW c (fld (row c.parts p) 0)).length ∧ fld (row (frW c (fld (row c.parts p) 0)) i) 0 = (p : Int)
theorem right_of {c : Cfg} {f len : Int} {l : List (List Int)} (h12 : winsB c f len l 12 = false) (h13 : winsB c f len l 13 = false) (h15 : winsB c f len l 15 = false) (h16 : winsB c f len l 16 = false) : rightB len l = true := by
  have a12 := of_decide_eq_false (show decide (len < 1 ∨ 64 < len) = false from h12)
  have a13 := of_decide_eq_false (show decide (16 < l.length) = false from h13)
  have a15 : ∀ i, i < l.length → 0 ≤ fld (row l i) 1 ∧ 1 ≤ fld (row l i) 2 ∧ fld (row l i) 1 ≤ len ∧ fld (row l i) 2 ≤ len - fld (row l i) 1 := fun i hi => by
    have := of_decide_eq_false (show decide (fld (row l i) 1 < 0 ∨ fld (row l i) 2 < 1 ∨ len < fld (row l i) 1 ∨ len - fld (row l i) 1 < fld (row l i) 2) = false from scan_false.1 (show scan l.length (fun i => win15 len (row l i)) = false from h15) i hi)
    omega
  have a16 : ∀ i, i < l.length → 0 < i → fld (row l (i - 1)) 1 + fld (row l (i - 1)) 2 ≤ fld (row l i) 1 := fun i hi h0 => by
    have h := scan_false.1 (show scan l.length (fun i => decide (0 < i) && win16 (row l (i - 1)) (row l i)) = false from h16) i hi
    have b1 := a15 i hi
    have b2 := a15 (i - 1) (by omega)
    unfold win16 wordB at h
    rw [decide_eq_true h0, Bool.true_and, decide_eq_true (show 0 ≤ fld (row l i) 1 ∧ fld (row l i) 1 ≤ 4294967295 by omega), decide_eq_true (show 0 ≤ fld (row l (i - 1)) 1 ∧ fld (row l (i - 1)) 1 ≤ 4294967295 by omega),
      decide_eq_true (show 0 ≤ fld (row l (i - 1)) 2 ∧ fld (row l (i - 1)) 2 ≤ 4294967295 by omega), Bool.true_and, Bool.true_and, Bool.true_and] at h
    have := of_decide_eq_false h
    omega
  refine right_all (decide_eq_true ⟨by omega, by omega, by omega⟩) (scan_false.2 (fun i hi => ?_))
  unfold badW okW
  rw [decide_eq_true, Bool.not_true]
  have b := a15 i hi
  match i, hi with
  | 0, _ => exact ⟨b.1, b.2.1, b.2.2.2⟩
  | i + 1, hi =>
    have d := a16 (i + 1) hi (by omega)
    simp only [Nat.add_sub_cancel] at d
    exact ⟨d, b.2.1, b.2.2.2⟩
theorem acc15_of {c : Cfg} (h : acceptsB c = true) : Acc15 c := by
  have hn : allB c 17 = [] := of_decide_eq_true h
  have b : ∀ k : Int, 1 ≤ k → k ≤ 17 → holdsB c k = false := fun k => allB_nil hn
  have b1 : ¬ (c.parts.length < 1 ∨ 6 < c.parts.length) := of_decide_eq_false (b 1 (by omega) (by omega))
  have bw : ∀ k : Int, 12 ≤ k → k ≤ 16 → winsB c 0 c.len0 c.win0 k = false ∧ winsB c 1 c.len1 c.win1 k = false := fun k h1 h2 => by
    have := b k (by omega) (by omega)
    unfold holdsB at this
    rw [if_neg (by omega), if_neg (by omega), if_neg (by omega), if_neg (by omega), if_pos ⟨h1, h2⟩, Bool.or_eq_false_iff] at this
    exact this
  have part : ∀ (f len : Int) (l : List (List Int)), winsB c f len l 14 = false → ∀ i, i < l.length → ∃ p : Nat, fld (row l i) 0 = (p : Int) ∧ p < c.parts.length ∧ fld (row c.parts p) 0 = f := fun f len l h14 i hi => by
    have h := scan_false.1 (show scan l.length (fun i => win14 c f (row l i)) = false from h14) i hi
    unfold win14 at h
    rw [Bool.or_eq_false_iff, Bool.not_eq_false'] at h
    obtain ⟨h1, h2⟩ := h
    have h3 := of_decide_eq_true (show decide (0 ≤ fld (row l i) 0 ∧ fld (row l i) 0 < (c.parts.length : Int)) = true from h1)
    obtain ⟨p, hp⟩ := Int.eq_ofNat_of_zero_le h3.1
    have h4 := of_decide_eq_false h2
    rw [hp] at h4 h3
    exact ⟨p, hp, by omega, by simpa using h4⟩
  have b2 : ∀ i, i < c.parts.length → fld (row c.parts i) 0 = 0 ∨ fld (row c.parts i) 0 = 1 := fun i hi => by
    have := of_decide_eq_false (show decide (fld (row c.parts i) 0 ≠ 0 ∧ fld (row c.parts i) 0 ≠ 1) = false from scan_false.1 (show scan c.parts.length (fun i => partBad c 2 i) = false from b 2 (by omega) (by omega)) i hi)
    omega
  have b17 : ∀ i, i < c.parts.length → windowB c i = true := fun i hi => by
    have := (show (!windowB c i) = false from scan_false.1 (show scan c.parts.length (fun i => partBad c 17 i) = false from b 17 (by omega) (by omega)) i hi)
    simpa using this
  refine ⟨by omega, ?_, fun p hp => ⟨b2 p hp, ?_⟩⟩
  · rintro f (rfl | rfl)
    · exact ⟨right_of (bw 12 (by omega) (by omega)).1 (bw 13 (by omega) (by omega)).1 (bw 15 (by omega) (by omega)).1 (bw 16 (by omega) (by omega)).1, part 0 _ _ (bw 14 (by omega) (by omega)).1⟩
    · exact ⟨right_of (bw 12 (by omega) (by omega)).2 (bw 13 (by omega) (by omega)).2 (bw 15 (by omega) (by omega)).2 (bw 16 (by omega) (by omega)).2, part 1 _ _ (bw 14 (by omega) (by omega)).2⟩
  · have h := b17 p hp
    unfold windowB at h
    rcases b2 p hp with e | e
    · rw [e] at h ⊢
      rw [if_pos rfl] at h
      obtain ⟨i, hi, hq⟩ := List.any_eq_true.1 h
      exact ⟨i, List.mem_range.1 hi, of_decide_eq_true hq⟩
    · rw [e] at h ⊢
      rw [if_neg (by omega), if_pos rfl] at h
      obtain ⟨i, hi, hq⟩ := List.any_eq_true.1 h
      exact ⟨i, List.mem_range.1 hi, of_decide_eq_true hq⟩
theorem atO_of {is : Int → List Int → Bool} {len : Int} {l : List (List Int)} {t : Int} (hr : rightB len l = true) (h0 : 0 ≤ t) (h1 : t ≤ 1099511627776) : atO is len l t = whoO is l (t % len) := by
  unfold atO
  rw [if_pos]
  unfold mayB
  rw [hr]
  exact decide_eq_true ⟨h0, h1⟩
/-- Who is entered has its time, and is of that core. -/
theorem ent_who {c : Cfg} (h : Acc15 c) {t q : Int} (h0 : 0 ≤ t) (h1 : t ≤ 1099511627776) (hq : q ∈ entL c t) : ∃ p : Nat, q = (p : Int) ∧ p < c.parts.length ∧ whoO2 openB c (fld (row c.parts p) 0) t = some q := by
  have one : ∀ f : Int, f = 0 ∨ f = 1 → atO entB (frL c f) (frW c f) t = some q → ∃ p : Nat, q = (p : Int) ∧ p < c.parts.length ∧ fld (row c.parts p) 0 = f ∧ atO openB (frL c f) (frW c f) t = some q := fun f hf e => by
    obtain ⟨hr, hp⟩ := h.fr f hf
    rw [atO_of hr h0 h1] at e
    have ho := who_ent (right_rt hr) e
    obtain ⟨i, hi, _, hx⟩ := (who_iff (one_ent (right_rt hr))).1 e
    obtain ⟨p, h3, h4, h5⟩ := hp i hi
    exact ⟨p, by rw [← hx, h3], h4, h5, by rw [atO_of hr h0 h1]; exact ho⟩
  unfold entL at hq
  rw [List.mem_append, Option.mem_toList, Option.mem_toList] at hq
  rcases hq with e | e
  · obtain ⟨p, a, b, d, g⟩ := one 0 (.inl rfl) e
    exact ⟨p, a, b, by rw [d]; exact g⟩
  · obtain ⟨p, a, b, d, g⟩ := one 1 (.inr rfl) e
    exact ⟨p, a, b, by rw [d]; exact g⟩
/-- Each partition is entered within its core's frame's length. -/
theorem ent_soon {c : Cfg} (h : Acc15 c) {t : Int} {p n : Nat} (h0 : 0 ≤ t) (h1 : t ≤ 1099511620000) (hp : p < c.parts.length) (hn : frL c (fld (row c.parts p) 0) ≤ (n : Int)) : ∃ k : Nat, 1 ≤ k ∧ k ≤ n ∧ (p : Int) ∈ entL c (t + (k : Int)) := by
  obtain ⟨hf, i, hi, hx⟩ := h.has p hp
  obtain ⟨hr, _⟩ := h.fr _ hf
  generalize hg : fld (row c.parts p) 0 = f at *
  have hR := right_rt hr
  have ho := hR.ok i hi
  have hlo := hR.lo
  have hhi := hR.hi
  generalize hl : frL c f = len at *
  generalize hw : frW c f = l at *
  have e : (t + 1 + (fld (row l i) 1 - (t + 1)) % len) % len = fld (row l i) 1 := by
    rw [Int.add_emod, Int.emod_emod_of_dvd _ (Int.dvd_refl len), ← Int.add_emod, show t + 1 + (fld (row l i) 1 - (t + 1)) = fld (row l i) 1 by omega, Int.emod_eq_of_lt (by omega) (by omega)]
  have k0 := Int.emod_nonneg (fld (row l i) 1 - (t + 1)) (show len ≠ 0 by omega)
  have k1 := Int.emod_lt_of_pos (fld (row l i) 1 - (t + 1)) (show (0 : Int) < len by omega)
  obtain ⟨k, hk⟩ := Int.eq_ofNat_of_zero_le k0
  rw [hk] at e k1
  have e2 : (t + 1 + (k : Int)) = t + ((k + 1 : Nat) : Int) := by omega
  rw [e2] at e
  have hs : atO entB len l (t + ((k + 1 : Nat) : Int)) = some (p : Int) := by
    rw [atO_of hr (by omega) (by omega)]
    exact (who_iff (one_ent hR)).2 ⟨i, hi, decide_eq_true e, hx⟩
  refine ⟨k + 1, by omega, by omega, ?_⟩
  unfold entL
  rw [List.mem_append, Option.mem_toList, Option.mem_toList]
  rcases hf with rfl | rfl
  · left
    rw [show c.len0 = len from hl, show c.win0 = l from hw]
    exact hs
  · right
    rw [show c.len1 = len from hl, show c.win1 = l from hw]
    exact hs
end Go.Proofs.Ytfpcldkgcifciaa
