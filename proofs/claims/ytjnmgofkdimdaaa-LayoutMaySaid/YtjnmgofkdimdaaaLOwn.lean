/- Each address below the size may be changed by just one partition, beyond it by none. No condition but those in the statements. -/
import Derived.Test.YtjnmgofkdimdaaaLMayP
import Derived.Test.YtjnmgofkdimdaaaLNt
import Derived.BigQuiet
namespace Go.Proofs.Ytjnmgofkdimdaaa
open Go.RowKit Go.Sort Go.ChangeShapes Go.WideShapes
set_option linter.unusedVariables false
set_option linter.unusedSimpArgs false

/-- How many of the first n numbers have it? -/
def cntN (f : Nat → Bool) : Nat → Nat
  | 0 => 0
  | n + 1 => cntN f n + (if f n = true then 1 else 0)
theorem cntN_le (f : Nat → Bool) : ∀ n, cntN f n ≤ n
  | 0 => Nat.le_refl _
  | n + 1 => by
    have := cntN_le f n
    show cntN f n + (if f n = true then 1 else 0) ≤ n + 1
    split <;> omega
theorem cntN_none {f : Nat → Bool} : ∀ {n}, (∀ q, q < n → f q = false) → cntN f n = 0
  | 0, _ => rfl
  | n + 1, h => by
    show cntN f n + (if f n = true then 1 else 0) = 0
    rw [cntN_none (fun q hq => h q (by omega)), h n (by omega)]
    rfl
theorem cntN_one {f : Nat → Bool} {o : Nat} : ∀ {n}, o < n → (∀ q, q < n → f q = decide (q = o)) → cntN f n = 1
  | n + 1, ho, h => by
    show cntN f n + (if f n = true then 1 else 0) = 1
    rw [h n (by omega)]
    by_cases e : n = o
    · subst e
      rw [cntN_none (fun q hq => by rw [h q (by omega)]; simp; omega)]
      simp
    · rw [cntN_one (show o < n by omega) (fun q hq => h q (by omega))]
      simp [e]
/-- Of steps that rise, one holds each number between. -/
theorem locate (f : Nat → Int) (a : Int) : ∀ n, f 0 ≤ a → a < f n → ∃ i, i < n ∧ f i ≤ a ∧ a < f (i + 1)
  | 0, h0, h1 => by omega
  | n + 1, h0, h1 => by
    by_cases h : a < f n
    · obtain ⟨i, hi, h2⟩ := locate f a n h0 h
      exact ⟨i, by omega, h2⟩
    · exact ⟨n, by omega, by omega, h1⟩
theorem mono_of {f : Nat → Int} {n : Nat} (h : ∀ i, i < n → f i ≤ f (i + 1)) : ∀ {i j}, i ≤ j → j ≤ n → f i ≤ f j
  | i, 0, h1, _ => by rw [show i = 0 by omega]; exact Int.le_refl _
  | i, j + 1, h1, h2 => by
    by_cases e : i = j + 1
    · subst e; exact Int.le_refl _
    · exact Int.le_trans (mono_of h (show i ≤ j by omega) (by omega)) (h j (by omega))
theorem locate_one {f : Nat → Int} {n : Nat} (h : ∀ i, i < n → f i ≤ f (i + 1)) {a : Int} {i j : Nat} (hi : i < n) (hj : j < n) (h1 : f i ≤ a) (h2 : a < f (i + 1)) (h3 : f j ≤ a) (h4 : a < f (j + 1)) : i = j := by
  rcases Nat.lt_trichotomy i j with e | e | e
  · have := mono_of h (show i + 1 ≤ j by omega) (by omega); omega
  · exact e
  · have := mono_of h (show j + 1 ≤ i by omega) (by omega); omega
section
variable {c : Cfg}
theorem hasS_in {f s a : Int} (h0 : 0 ≤ f) (h1 : f ≤ 2000) (h2 : 0 ≤ s) (h3 : s ≤ 2000) : hasS (f, s) a = decide (f ≤ a ∧ a < f + s) := by
  unfold hasS One.hasB
  rw [show One.rightB f s = true from decide_eq_true (by omega), Bool.true_and]
theorem has_priv (hq : acceptsB c = true) {q : Nat} (h : q < c.parts.length) (a : Int) : hasS (privSpan c (q : Int)) a = decide (privUp c.parts q ≤ a ∧ a < privUp c.parts (q + 1)) := by
  have ha := accd_of hq
  have h1 := privUp_in ha q (by omega)
  have h2 := ha.priv q h
  have h3 := ha.parts
  rw [show privSpan c (q : Int) = (privUp c.parts q, fld (row c.parts q) 1) from (if_pos ⟨hq, by omega, by omega⟩).trans (by rw [Int.toNat_natCast]), hasS_in (by omega) (by omega) (by omega) (by omega)]
  rfl
theorem has_src (hq : acceptsB c = true) {k : Nat} (h : k < c.chans.length) (a : Int) : hasS (srcSpan c (k : Int)) a = decide (beforeN c k ≤ a ∧ a < beforeN c k + srcN (row c.chans k)) := by
  have ha := accd_of hq
  have h1 := beforeN_in ha (k := k) (by omega)
  have h2 := srcN_of ha h
  rw [show srcSpan c (k : Int) = (beforeN c k, srcN (row c.chans k)) from (if_pos ((chanB_iff hq _).2 (by omega))).trans (by rw [Int.toNat_natCast]), hasS_in (by omega) (by omega) (by omega) (by omega)]
theorem has_dst (hq : acceptsB c = true) {k : Nat} (h : k < c.chans.length) (a : Int) : hasS (dstSpan c (k : Int)) a = decide (a = beforeN c k + srcN (row c.chans k)) := by
  have ha := accd_of hq
  have h1 := beforeN_in ha (k := k) (by omega)
  have h2 := srcN_of ha h
  rw [show dstSpan c (k : Int) = (beforeN c k + srcN (row c.chans k), 1) from (if_pos ((chanB_iff hq _).2 (by omega))).trans (by rw [Int.toNat_natCast]), hasS_in (by omega) (by omega) (by omega) (by omega)]
  exact decide_eq_decide.2 (by omega)
theorem priv_rise (ha : Accd c) : ∀ i, i < c.parts.length → privUp c.parts i ≤ privUp c.parts (i + 1) := fun i hi => by
  have := ha.priv i hi
  show privUp c.parts i ≤ privUp c.parts i + fld (row c.parts i) 1
  omega
theorem before_rise (ha : Accd c) : ∀ k, k < c.chans.length → beforeN c k ≤ beforeN c (k + 1) := fun k hk => by
  have := srcN_of ha hk
  rw [beforeN_succ]; omega
/-- Beyond the size, and below nought, none may. -/
theorem may_out {a : Int} (h : ¬ (0 ≤ a ∧ a < sizeN c)) (q : Nat) (hqp : q < c.parts.length) : mayB c (q : Int) a = false := by
  cases hq : acceptsB c with
  | false => exact may_not hq _ _
  | true =>
    have ha := accd_of hq
    rw [show sizeN c = beforeN c c.chans.length from if_pos hq] at h
    have h0 : beforeN c 0 ≤ beforeN c c.chans.length := mono_of (before_rise ha) (Nat.zero_le _) (Nat.le_refl _)
    rw [beforeN_zero] at h0
    unfold mayB
    rw [has_priv hq hqp, decide_eq_false (by
      have h1 := (privUp_in ha q (by omega)).1
      have h2 := mono_of (priv_rise ha) (show q + 1 ≤ c.parts.length by omega) (Nat.le_refl _)
      omega), Bool.false_or]
    refine scan_no fun k hk => ?_
    have h1 := (beforeN_in ha (k := k) (by omega)).1
    have h2 := mono_of (before_rise ha) (show k + 1 ≤ c.chans.length by omega) (Nat.le_refl _)
    have h3 := srcN_of ha hk
    rw [beforeN_succ] at h2
    unfold chMay
    rw [has_src hq hk, has_dst hq hk, decide_eq_false (show ¬ (beforeN c k ≤ a ∧ a < beforeN c k + srcN (row c.chans k)) by omega), decide_eq_false (show ¬ a = beforeN c k + srcN (row c.chans k) by omega)]
    simp
/-- Below the size just one partition may. -/
theorem may_in {a : Int} (h0 : 0 ≤ a) (h1 : a < sizeN c) : ∃ o, o < c.parts.length ∧ ∀ q, q < c.parts.length → mayB c (q : Int) a = decide (q = o) := by
  cases hq : acceptsB c with
  | false => rw [show sizeN c = 0 from if_neg (by rw [hq]; decide)] at h1; omega
  | true =>
    have ha := accd_of hq
    rw [show sizeN c = beforeN c c.chans.length from if_pos hq] at h1
    have hz : privUp c.parts 0 = 0 := rfl
    by_cases hp : a < privUp c.parts c.parts.length
    · obtain ⟨o, ho, l1, l2⟩ := locate (privUp c.parts) a _ (by omega) hp
      refine ⟨o, ho, fun q hqp => ?_⟩
      unfold mayB
      rw [has_priv hq hqp]
      rw [show scan c.chans.length (chMay c (q : Int) a) = false from scan_no fun k hk => by
        have h2 := mono_of (before_rise ha) (Nat.zero_le k) (by omega)
        rw [beforeN_zero] at h2
        have h3 := srcN_of ha hk
        unfold chMay
        rw [has_src hq hk, has_dst hq hk, decide_eq_false (show ¬ (beforeN c k ≤ a ∧ a < beforeN c k + srcN (row c.chans k)) by omega), decide_eq_false (show ¬ a = beforeN c k + srcN (row c.chans k) by omega)]
        simp, Bool.or_false]
      refine decide_eq_decide.2 ⟨fun hh => locate_one (priv_rise ha) hqp ho hh.1 hh.2 l1 l2, fun e => by subst e; exact ⟨l1, l2⟩⟩
    · obtain ⟨k, hk, l1, l2⟩ := locate (beforeN c) a _ (by rw [beforeN_zero]; omega) h1
      rw [beforeN_succ] at l2
      have hs := srcN_of ha hk
      obtain ⟨_, _, _, _, _, _, _, f0, f1, t0, t1, ft⟩ := ha.chan k hk
      have np : ∀ q, q < c.parts.length → hasS (privSpan c (q : Int)) a = false := fun q hqp => by
        rw [has_priv hq hqp]
        have := mono_of (priv_rise ha) (show q + 1 ≤ c.parts.length by omega) (Nat.le_refl _)
        exact decide_eq_false (by omega)
      have nk : ∀ q : Nat, ∀ j, j < c.chans.length → j ≠ k → chMay c (q : Int) a j = false := fun q j hj hne => by
        have h3 := srcN_of ha hj
        have hno : ¬ (beforeN c j ≤ a ∧ a < beforeN c (j + 1)) := fun hh => hne (locate_one (before_rise ha) hj hk hh.1 hh.2 l1 (by rw [beforeN_succ]; omega))
        rw [beforeN_succ] at hno
        unfold chMay
        rw [has_src hq hj, has_dst hq hj, decide_eq_false (show ¬ (beforeN c j ≤ a ∧ a < beforeN c j + srcN (row c.chans j)) by omega), decide_eq_false (show ¬ a = beforeN c j + srcN (row c.chans j) by omega)]
        simp
      have sc : ∀ q : Nat, scan c.chans.length (chMay c (q : Int) a) = chMay c (q : Int) a k := fun q => by
        cases hv : chMay c (q : Int) a k with
        | true => exact scan_true hk hv
        | false =>
          refine scan_no fun j hj => ?_
          by_cases e : j = k
          · subst e; exact hv
          · exact nk q j hj e
      by_cases hb : a < beforeN c k + srcN (row c.chans k)
      · refine ⟨(fld (row c.chans k) 1).toNat, by omega, fun q hqp => ?_⟩
        unfold mayB
        rw [np q hqp, Bool.false_or, sc q]
        unfold chMay
        rw [has_src hq hk, has_dst hq hk, decide_eq_true (show beforeN c k ≤ a ∧ a < beforeN c k + srcN (row c.chans k) from ⟨l1, hb⟩), decide_eq_false (show ¬ a = beforeN c k + srcN (row c.chans k) by omega), Bool.and_true, Bool.and_false, Bool.or_false]
        exact decide_eq_decide.2 (by omega)
      · refine ⟨(fld (row c.chans k) 2).toNat, by omega, fun q hqp => ?_⟩
        unfold mayB
        rw [np q hqp, Bool.false_or, sc q]
        unfold chMay
        rw [has_src hq hk, has_dst hq hk, decide_eq_false (show ¬ (beforeN c k ≤ a ∧ a < beforeN c k + srcN (row c.chans k)) by omega), decide_eq_true (show a = beforeN c k + srcN (row c.chans k) by omega), Bool.and_true, Bool.and_false, Bool.false_or]
        exact decide_eq_decide.2 (by omega)
end
end Go.Proofs.Ytjnmgofkdimdaaa
