/- How often a window is open, and entered, in a frame's length. No condition. -/
import Derived.Test.YtfpcldkgcifciaaFrm
namespace Go.Proofs.Ytfpcldkgcifciaa
open Go.RowKit Go.Sort
set_option linter.unusedVariables false
set_option linter.unusedSimpArgs false

/-- How many of the first n places have it. -/
def cnt (n : Nat) (f : Nat → Bool) : Nat := (List.range n).countP f
theorem cnt_succ (n : Nat) (f : Nat → Bool) : cnt (n + 1) f = cnt n f + (if f n = true then 1 else 0) := by
  unfold cnt
  rw [List.range_succ, List.countP_append]
  by_cases h : f n = true <;> simp [h]
theorem cnt_front (n : Nat) (f : Nat → Bool) : cnt (n + 1) f = (if f 0 = true then 1 else 0) + cnt n (fun k => f (k + 1)) := by
  induction n with
  | zero => by_cases h : f 0 = true <;> simp [cnt, h]
  | succ n ih => rw [cnt_succ, ih, cnt_succ]; omega
theorem cnt_congr {n : Nat} {f g : Nat → Bool} (h : ∀ k, k < n → f k = g k) : cnt n f = cnt n g := by
  induction n with
  | zero => rfl
  | succ n ih => rw [cnt_succ, cnt_succ, ih (fun k hk => h k (by omega)), h n (by omega)]
theorem cnt_or {n : Nat} {f g : Nat → Bool} (h : ∀ k, k < n → ¬ (f k = true ∧ g k = true)) : cnt n (fun k => f k || g k) = cnt n f + cnt n g := by
  induction n with
  | zero => rfl
  | succ n ih =>
    rw [cnt_succ, cnt_succ, cnt_succ, ih (fun k hk => h k (by omega))]
    have := h n (by omega)
    cases hf : f n <;> cases hg : g n <;> simp_all <;> omega
theorem cnt_none {n : Nat} {f : Nat → Bool} (h : ∀ k, k < n → f k = false) : cnt n f = 0 := by
  induction n with
  | zero => rfl
  | succ n ih => rw [cnt_succ, ih (fun k hk => h k (by omega)), h n (by omega)]; rfl
theorem cnt_piece (s e : Nat) : ∀ m, cnt m (fun k => decide (s ≤ k ∧ k < e)) = if m ≤ s then 0 else if m ≤ e then m - s else e - s
  | 0 => by simp [cnt]
  | m + 1 => by
    rw [cnt_succ, cnt_piece s e m]
    by_cases h1 : s ≤ m ∧ m < e
    · rw [if_pos (decide_eq_true h1)]
      split <;> split <;> (try split) <;> (try split) <;> omega
    · rw [if_neg (show ¬ (decide (s ≤ m ∧ m < e) = true) by rw [decide_eq_true_eq]; exact h1)]
      split <;> split <;> (try split) <;> (try split) <;> omega
/-- What comes again after m places is counted alike from wherever. -/
theorem cnt_turn {m : Nat} {g : Nat → Bool} (hp : ∀ k, g (k + m) = g k) : ∀ a, cnt m (fun k => g (a + k)) = cnt m g
  | 0 => by simp
  | a + 1 => by
    have h1 := cnt_succ m (fun k => g (a + k))
    have h2 := cnt_front m (fun k => g (a + k))
    rw [h1, hp a] at h2
    have h3 : cnt m (fun k => g (a + (k + 1))) = cnt m (fun k => g (a + 1 + k)) := cnt_congr (fun k _ => by rw [show a + (k + 1) = a + 1 + k by omega])
    rw [← h3, ← cnt_turn hp a]
    simp only [Nat.add_zero] at h2
    omega
theorem up_cnt (is : Int → List Int → Bool) (len : Int) (l : List (List Int)) (part a : Int) (n : Nat) : (upL is len l part a n).length = cnt n (fun k => hitB is len l part (a + (k : Int))) := by
  induction n with
  | zero => rfl
  | succ n ih =>
    rw [upL_next, List.length_append, ih, cnt_succ]
    split <;> rfl
/-- What the first windows of a part have together. -/
def sumUp (l : List (List Int)) (part : Int) : Nat → Int
  | 0 => 0
  | i + 1 => sumUp l part i + (if fld (row l i) 0 = part then fld (row l i) 2 else 0)
def cntUp (l : List (List Int)) (part : Int) : Nat → Int
  | 0 => 0
  | i + 1 => cntUp l part i + (if fld (row l i) 0 = part then 1 else 0)
/-- Of which of the first j windows does it hold? -/
def anyUp (is : Int → List Int → Bool) (l : List (List Int)) (part : Int) (j k : Nat) : Bool := (List.range j).any (fun i => is k (row l i) && decide (fld (row l i) 0 = part))
theorem anyUp_iff {is : Int → List Int → Bool} {l : List (List Int)} {part : Int} {j k : Nat} : anyUp is l part j k = true ↔ ∃ i, i < j ∧ is k (row l i) = true ∧ fld (row l i) 0 = part := by
  unfold anyUp
  rw [List.any_eq_true]
  constructor
  · rintro ⟨i, hi, h⟩
    rw [Bool.and_eq_true, decide_eq_true_eq] at h
    exact ⟨i, List.mem_range.1 hi, h⟩
  · rintro ⟨i, hi, h⟩
    exact ⟨i, List.mem_range.2 hi, by rw [Bool.and_eq_true, decide_eq_true_eq]; exact h⟩
theorem anyUp_succ (is : Int → List Int → Bool) (l : List (List Int)) (part : Int) (j k : Nat) : anyUp is l part (j + 1) k = (anyUp is l part j k || (is k (row l j) && decide (fld (row l j) 0 = part))) := by
  unfold anyUp
  rw [List.range_succ, List.any_append]
  simp
/-- Counted window by window. -/
theorem cnt_up {is : Int → List Int → Bool} {l : List (List Int)} {part : Int} {m : Nat} (hO : One is l) (f : Nat → Int)
    (hf : ∀ i, i < l.length → (cnt m (fun k => is (k : Int) (row l i)) : Int) = f i) (S : Nat → Int) (h0 : S 0 = 0) (hS : ∀ i, S (i + 1) = S i + (if fld (row l i) 0 = part then f i else 0)) :
    ∀ j, j ≤ l.length → (cnt m (anyUp is l part j) : Int) = S j
  | 0, _ => by rw [h0, cnt_none (f := anyUp is l part 0) (fun k _ => rfl)]; rfl
  | j + 1, hj => by
    have ih := cnt_up (m := m) (part := part) hO f hf S h0 hS j (by omega)
    rw [hS, ← ih, cnt_congr (g := fun k => anyUp is l part j k || (is k (row l j) && decide (fld (row l j) 0 = part))) (fun k _ => anyUp_succ is l part j k), cnt_or]
    · by_cases hp : fld (row l j) 0 = part
      · rw [if_pos hp, ← hf j (by omega)]
        have : cnt m (fun k => is (k : Int) (row l j) && decide (fld (row l j) 0 = part)) = cnt m (fun k => is (k : Int) (row l j)) := cnt_congr (fun k _ => by rw [decide_eq_true hp, Bool.and_true])
        rw [this]; omega
      · rw [if_neg hp]
        have : cnt m (fun k => is (k : Int) (row l j) && decide (fld (row l j) 0 = part)) = 0 := cnt_none (fun k _ => by rw [decide_eq_false hp, Bool.and_false])
        rw [this]; omega
    · rintro k _ ⟨h1, h2⟩
      obtain ⟨i, hi, h3, h4⟩ := anyUp_iff.1 h1
      rw [Bool.and_eq_true] at h2
      have := hO k i j (by omega) (by omega) h3 h2.1
      omega
theorem hit_any {is : Int → List Int → Bool} {l : List (List Int)} (hO : One is l) {m : Nat} {part : Int} {k : Nat} (hk : k < m) : hitB is m l part (k : Int) = anyUp is l part l.length k := by
  have e : ((k : Int) % (m : Int)) = (k : Int) := Int.emod_eq_of_lt (by omega) (by omega)
  rw [Bool.eq_iff_iff, anyUp_iff]
  unfold hitB
  rw [decide_eq_true_eq, e, who_iff hO]
/-- In whatever piece of a frame's length. -/
theorem share {is : Int → List Int → Bool} {l : List (List Int)} {part : Int} {m : Nat} (hm : 1 ≤ m) (hO : One is l) (f : Nat → Int) (hf : ∀ i, i < l.length → (cnt m (fun k => is (k : Int) (row l i)) : Int) = f i) (S : Nat → Int) (h0 : S 0 = 0)
    (hS : ∀ i, S (i + 1) = S i + (if fld (row l i) 0 = part then f i else 0)) {a : Int} (ha : 0 ≤ a) : ((upL is m l part a m).length : Int) = S l.length := by
  obtain ⟨a, rfl⟩ := Int.eq_ofNat_of_zero_le ha
  rw [up_cnt]
  have h1 := cnt_turn (m := m) (g := fun k => hitB is m l part (k : Int)) (fun k => by
    show hitB is m l part ((k + m : Nat) : Int) = hitB is m l part (k : Int)
    unfold hitB
    rw [Int.natCast_add, Int.add_emod_right]) a
  have h2 : cnt m (fun k => hitB is m l part ((a : Int) + (k : Int))) = cnt m (fun k => hitB is m l part ((a + k : Nat) : Int)) := cnt_congr (fun k _ => by rw [Int.natCast_add])
  rw [h2, h1, cnt_congr (fun k hk => hit_any hO hk)]
  exact cnt_up hO f hf S h0 hS l.length (Nat.le_refl _)
theorem share_open {l : List (List Int)} {part : Int} {m : Nat} (hR : Rt m l) {a : Int} (ha : 0 ≤ a) : ((upL openB m l part a m).length : Int) = sumUp l part l.length := by
  refine share (by have := hR.lo; omega) (one_open hR) (fun i => fld (row l i) 2) (fun i hi => ?_) (sumUp l part) rfl (fun i => rfl) ha
  have h := hR.ok i hi
  obtain ⟨s, hs⟩ := Int.eq_ofNat_of_zero_le (a := fld (row l i) 1) (by omega)
  obtain ⟨n, hn⟩ := Int.eq_ofNat_of_zero_le (a := fld (row l i) 2) (by omega)
  rw [cnt_congr (g := fun k => decide (s ≤ k ∧ k < s + n)) (fun k _ => by unfold openB; rw [hs, hn]; exact decide_eq_decide.2 (by omega)), cnt_piece]
  show _ = fld (row l i) 2
  split <;> (try split) <;> omega
theorem share_ent {l : List (List Int)} {part : Int} {m : Nat} (hR : Rt m l) {a : Int} (ha : 0 ≤ a) : ((upL entB m l part a m).length : Int) = cntUp l part l.length := by
  refine share (by have := hR.lo; omega) (one_ent hR) (fun i => 1) (fun i hi => ?_) (cntUp l part) rfl (fun i => rfl) ha
  have h := hR.ok i hi
  obtain ⟨s, hs⟩ := Int.eq_ofNat_of_zero_le (a := fld (row l i) 1) (by omega)
  rw [cnt_congr (g := fun k => decide (s ≤ k ∧ k < s + 1)) (fun k _ => by unfold entB; rw [hs]; exact decide_eq_decide.2 (by omega)), cnt_piece]
  show _ = (1 : Int)
  split <;> (try split) <;> omega
theorem sumUp_in {len : Int} {l : List (List Int)} (hR : Rt len l) (part : Int) : ∀ i, i ≤ l.length → 0 ≤ sumUp l part i ∧ sumUp l part i ≤ 64 * (i : Int)
  | 0, _ => by simp [sumUp]
  | i + 1, hi => by
    have ih := sumUp_in hR part i (by omega)
    have h := hR.ok i (by omega)
    have hh := hR.hi
    unfold sumUp
    split <;> omega
theorem cntUp_in (l : List (List Int)) (part : Int) : ∀ i : Nat, 0 ≤ cntUp l part i ∧ cntUp l part i ≤ (i : Int)
  | 0 => by simp [cntUp]
  | i + 1 => by
    have ih := cntUp_in l part i
    unfold cntUp
    split <;> omega
end Go.Proofs.Ytfpcldkgcifciaa
