/- The document's Apart, as a contract. No condition but those in the statements. Who may change an address, in plain lists. No condition but those in the statements. Each address below the size may be changed by just one partition, beyond it by none. No condition but those in the statements. The document's May, as a contract. No condition but those in the statements. What isn't refused has all that it needs, in plain numbers. No condition. SignFits answers true. No condition but those in the statements. -/
import Derived.Test.YtnemabgenaijhaaDoorOne
import Derived.Test.YtnemabgenaijhaaDoorKitB
import Derived.Test.YtnemabgenaijhaaDoorLIt
import Derived.Test.YtnemabgenaijhaaDoorSameE
import Derived.BigQuiet
import Derived.Test.YtnemabgenaijhaaDoorLNt
import Derived.Test.YtnemabgenaijhaaDoorRAll8
import Derived.IntWalk
import Derived.Test.YtnemabgenaijhaaDoorRows10
import Derived.Test.YtnemabgenaijhaaDoorSWakes
namespace Go.Proofs.YtnemabgenaijhaaDoor
open Go.RowKit Go.Sort
set_option linter.unusedVariables false
set_option linter.unusedSimpArgs false
theorem PairRow.at_ {w : World} {B : Nat} {A : Option Addr} {l : List (Int × Int)} (h : PairRow w B A l) {k : Nat} (hk : k < l.length) :
    ∃ b o, A = some ⟨b, o, none⟩ ∧ (∀ p : Regrown, (grow (redrawn w p.d) p.os).cell? ⟨b, o + k * 2, none⟩ = some (.int .i64 (l.getD k (0, 0)).1)) ∧ (∀ p : Regrown, (grow (redrawn w p.d) p.os).cell? ⟨b, o + k * 2 + 1, none⟩ = some (.int .i64 (l.getD k (0, 0)).2)) := by
  obtain ⟨b, o, rfl, hb, hc⟩ := h (by omega)
  exact ⟨b, o, rfl, fun p => cell_regrown (hc k hk).1 p.d p.os, fun p => cell_regrown (hc k hk).2 p.d p.os⟩
namespace One
set_option linter.unusedVariables false
set_option linter.unusedSimpArgs false
def apartB (l : List (Int × Int)) : Bool := decide (∀ i, i < l.length → ∀ k, k < l.length → i ≠ k → meetsB (l.getD i (0, 0)).1 (l.getD i (0, 0)).2 (l.getD k (0, 0)).1 (l.getD k (0, 0)).2 = false)

end One
end Go.Proofs.YtnemabgenaijhaaDoor

namespace Go.Proofs.YtnemabgenaijhaaDoor
open Go.RowKit Go.Sort Go.ChangeShapes Go.WideShapes
set_option linter.unusedVariables false
set_option linter.unusedSimpArgs false

/-- Has a span, told by two numbers, the address? -/
def hasS (x : Int × Int) (a : Int) : Bool := One.hasB x.1 x.2 a
/-- By channel k: may p change the address? -/
def chMay (c : Cfg) (p a : Int) (k : Nat) : Bool := (decide (fld (row c.chans k) 1 = p) && hasS (srcSpan c (k : Int)) a) || (decide (fld (row c.chans k) 2 = p) && hasS (dstSpan c (k : Int)) a)
def mayB (c : Cfg) (p a : Int) : Bool := hasS (privSpan c p) a || scan c.chans.length (chMay c p a)
theorem hasS_zero (a : Int) : hasS (0, 0) a = false := by
  unfold hasS One.hasB One.rightB
  simp
theorem may_not {c : Cfg} (hq : acceptsB c = false) (p a : Int) : mayB c p a = false := by
  unfold mayB
  rw [show privSpan c p = (0, 0) from if_neg (fun h => by rw [hq] at h; cases h.1), hasS_zero, Bool.false_or]
  refine scan_false.2 fun k _ => ?_
  unfold chMay
  rw [show srcSpan c (k : Int) = (0, 0) from if_neg (by unfold chanB; rw [hq]; simp), show dstSpan c (k : Int) = (0, 0) from if_neg (by unfold chanB; rw [hq]; simp), hasS_zero]
  simp
/-- The program's: its loop goes through the spans that there are. -/
theorem may_sr (c : Cfg) (p a : Int) : (hasS (privSpan c p) a || scan (SR c).length (chMay c p a)) = mayB c p a := by
  cases hq : acceptsB c with
  | false =>
    rw [may_not hq, show SR c = [] from if_neg (by rw [hq]; decide), show privSpan c p = (0, 0) from if_neg (fun h => by rw [hq] at h; cases h.1), hasS_zero]
    rfl
  | true => rw [show SR c = srL c c.chans.length from if_pos hq, srL_len]; rfl
theorem scan_true {n : Nat} {f : Nat → Bool} {k : Nat} (hk : k < n) (h : f k = true) : scan n f = true := by
  unfold scan
  exact List.any_eq_true.2 ⟨k, List.mem_range.2 hk, h⟩
theorem scan_no {n : Nat} {f : Nat → Bool} (h : ∀ k, k < n → f k = false) : scan n f = false := scan_false.2 h
end Go.Proofs.YtnemabgenaijhaaDoor

namespace Go.Proofs.YtnemabgenaijhaaDoor
open Go.RowKit Go.Sort Go.ChangeShapes Go.WideShapes
set_option linter.unusedVariables false
set_option linter.unusedSimpArgs false

/-- How many of the first n numbers have it? -/
def cntN (f : Nat → Bool) : Nat → Nat
  | 0 => 0
  | n + 1 => cntN f n + (if f n = true then 1 else 0)
theorem cntN_le (f : Nat → Bool) : ∀ n, cntN f n ≤ n
  | 0 => Nat.le_refl _
  | n + 1 => by
    have := cntN_le f n
    show cntN f n + (if f n = true then 1 else 0) ≤ n + 1
    split <;> omega
theorem cntN_none {f : Nat → Bool} : ∀ {n}, (∀ q, q < n → f q = false) → cntN f n = 0
  | 0, _ => rfl
  | n + 1, h => by
    show cntN f n + (if f n = true then 1 else 0) = 0
    rw [cntN_none (fun q hq => h q (by omega)), h n (by omega)]
    rfl
theorem cntN_one {f : Nat → Bool} {o : Nat} : ∀ {n}, o < n → (∀ q, q < n → f q = decide (q = o)) → cntN f n = 1
  | n + 1, ho, h => by
    show cntN f n + (if f n = true then 1 else 0) = 1
    rw [h n (by omega)]
    by_cases e : n = o
    · subst e
      rw [cntN_none (fun q hq => by rw [h q (by omega)]; simp; omega)]
      simp
    · rw [cntN_one (show o < n by omega) (fun q hq => h q (by omega))]
      simp [e]
/-- Of steps that rise, one holds each number between. -/
theorem locate (f : Nat → Int) (a : Int) : ∀ n, f 0 ≤ a → a < f n → ∃ i, i < n ∧ f i ≤ a ∧ a < f (i + 1)
  | 0, h0, h1 => by omega
  | n + 1, h0, h1 => by
    by_cases h : a < f n
    · obtain ⟨i, hi, h2⟩ := locate f a n h0 h
      exact ⟨i, by omega, h2⟩
    · exact ⟨n, by omega, by omega, h1⟩
theorem mono_of {f : Nat → Int} {n : Nat} (h : ∀ i, i < n → f i ≤ f (i + 1)) : ∀ {i j}, i ≤ j → j ≤ n → f i ≤ f j
  | i, 0, h1, _ => by rw [show i = 0 by omega]; exact Int.le_refl _
  | i, j + 1, h1, h2 => by
    by_cases e : i = j + 1
    · subst e; exact Int.le_refl _
    · exact Int.le_trans (mono_of h (show i ≤ j by omega) (by omega)) (h j (by omega))
theorem locate_one {f : Nat → Int} {n : Nat} (h : ∀ i, i < n → f i ≤ f (i + 1)) {a : Int} {i j : Nat} (hi : i < n) (hj : j < n) (h1 : f i ≤ a) (h2 : a < f (i + 1)) (h3 : f j ≤ a) (h4 : a < f (j + 1)) : i = j := by
  rcases Nat.lt_trichotomy i j with e | e | e
  · have := mono_of h (show i + 1 ≤ j by omega) (by omega); omega
  · exact e
  · have := mono_of h (show j + 1 ≤ i by omega) (by omega); omega
section
variable {c : Cfg}
theorem hasS_in {f s a : Int} (h0 : 0 ≤ f) (h1 : f ≤ 2000) (h2 : 0 ≤ s) (h3 : s ≤ 2000) : hasS (f, s) a = decide (f ≤ a ∧ a < f + s) := by
  unfold hasS One.hasB
  rw [show One.rightB f s = true from decide_eq_true (by omega), Bool.true_and]
theorem has_priv (hq : acceptsB c = true) {q : Nat} (h : q < c.parts.length) (a : Int) : hasS (privSpan c (q : Int)) a = decide (privUp c.parts q ≤ a ∧ a < privUp c.parts (q + 1)) := by
  have ha := accd_of hq
  have h1 := privUp_in ha q (by omega)
  have h2 := ha.priv q h
  have h3 := ha.parts
  rw [show privSpan c (q : Int) = (privUp c.parts q, fld (row c.parts q) 1) from (if_pos ⟨hq, by omega, by omega⟩).trans (by rw [Int.toNat_natCast]), hasS_in (by omega) (by omega) (by omega) (by omega)]
  rfl
theorem has_src (hq : acceptsB c = true) {k : Nat} (h : k < c.chans.length) (a : Int) : hasS (srcSpan c (k : Int)) a = decide (beforeN c k ≤ a ∧ a < beforeN c k + srcN (row c.chans k)) := by
  have ha := accd_of hq
  have h1 := beforeN_in ha (k := k) (by omega)
  have h2 := srcN_of ha h
  rw [show srcSpan c (k : Int) = (beforeN c k, srcN (row c.chans k)) from (if_pos ((chanB_iff hq _).2 (by omega))).trans (by rw [Int.toNat_natCast]), hasS_in (by omega) (by omega) (by omega) (by omega)]
theorem has_dst (hq : acceptsB c = true) {k : Nat} (h : k < c.chans.length) (a : Int) : hasS (dstSpan c (k : Int)) a = decide (a = beforeN c k + srcN (row c.chans k)) := by
  have ha := accd_of hq
  have h1 := beforeN_in ha (k := k) (by omega)
  have h2 := srcN_of ha h
  rw [show dstSpan c (k : Int) = (beforeN c k + srcN (row c.chans k), 1) from (if_pos ((chanB_iff hq _).2 (by omega))).trans (by rw [Int.toNat_natCast]), hasS_in (by omega) (by omega) (by omega) (by omega)]
  exact decide_eq_decide.2 (by omega)
theorem priv_rise (ha : Accd c) : ∀ i, i < c.parts.length → privUp c.parts i ≤ privUp c.parts (i + 1) := fun i hi => by
  have := ha.priv i hi
  show privUp c.parts i ≤ privUp c.parts i + fld (row c.parts i) 1
  omega
theorem before_rise (ha : Accd c) : ∀ k, k < c.chans.length → beforeN c k ≤ beforeN c (k + 1) := fun k hk => by
  have := srcN_of ha hk
  rw [beforeN_succ]; omega
/-- Beyond the size, and below nought, none may. -/
theorem may_out {a : Int} (h : ¬ (0 ≤ a ∧ a < sizeN c)) (q : Nat) (hqp : q < c.parts.length) : mayB c (q : Int) a = false := by
  cases hq : acceptsB c with
  | false => exact may_not hq _ _
  | true =>
    have ha := accd_of hq
    rw [show sizeN c = beforeN c c.chans.length from if_pos hq] at h
    have h0 : beforeN c 0 ≤ beforeN c c.chans.length := mono_of (before_rise ha) (Nat.zero_le _) (Nat.le_refl _)
    rw [beforeN_zero] at h0
    unfold mayB
    rw [has_priv hq hqp, decide_eq_false (by
      have h1 := (privUp_in ha q (by omega)).1
      have h2 := mono_of (priv_rise ha) (show q + 1 ≤ c.parts.length by omega) (Nat.le_refl _)
      omega), Bool.false_or]
    refine scan_no fun k hk => ?_
    have h1 := (beforeN_in ha (k := k) (by omega)).1
    have h2 := mono_of (before_rise ha) (show k + 1 ≤ c.chans.length by omega) (Nat.le_refl _)
    have h3 := srcN_of ha hk
    rw [beforeN_succ] at h2
    unfold chMay
    rw [has_src hq hk, has_dst hq hk, decide_eq_false (show ¬ (beforeN c k ≤ a ∧ a < beforeN c k + srcN (row c.chans k)) by omega), decide_eq_false (show ¬ a = beforeN c k + srcN (row c.chans k) by omega)]
    simp
/-- Below the size just one partition may. -/
theorem may_in {a : Int} (h0 : 0 ≤ a) (h1 : a < sizeN c) : ∃ o, o < c.parts.length ∧ ∀ q, q < c.parts.length → mayB c (q : Int) a = decide (q = o) := by
  cases hq : acceptsB c with
  | false => rw [show sizeN c = 0 from if_neg (by rw [hq]; decide)] at h1; omega
  | true =>
    have ha := accd_of hq
    rw [show sizeN c = beforeN c c.chans.length from if_pos hq] at h1
    have hz : privUp c.parts 0 = 0 := rfl
    by_cases hp : a < privUp c.parts c.parts.length
    · obtain ⟨o, ho, l1, l2⟩ := locate (privUp c.parts) a _ (by omega) hp
      refine ⟨o, ho, fun q hqp => ?_⟩
      unfold mayB
      rw [has_priv hq hqp]
      rw [show scan c.chans.length (chMay c (q : Int) a) = false from scan_no fun k hk => by
        have h2 := mono_of (before_rise ha) (Nat.zero_le k) (by omega)
        rw [beforeN_zero] at h2
        have h3 := srcN_of ha hk
        unfold chMay
        rw [has_src hq hk, has_dst hq hk, decide_eq_false (show ¬ (beforeN c k ≤ a ∧ a < beforeN c k + srcN (row c.chans k)) by omega), decide_eq_false (show ¬ a = beforeN c k + srcN (row c.chans k) by omega)]
        simp, Bool.or_false]
      refine decide_eq_decide.2 ⟨fun hh => locate_one (priv_rise ha) hqp ho hh.1 hh.2 l1 l2, fun e => by subst e; exact ⟨l1, l2⟩⟩
    · obtain ⟨k, hk, l1, l2⟩ := locate (beforeN c) a _ (by rw [beforeN_zero]; omega) h1
      rw [beforeN_succ] at l2
      have hs := srcN_of ha hk
      obtain ⟨_, _, _, _, _, _, _, f0, f1, t0, t1, ft⟩ := ha.chan k hk
      have np : ∀ q, q < c.parts.length → hasS (privSpan c (q : Int)) a = false := fun q hqp => by
        rw [has_priv hq hqp]
        have := mono_of (priv_rise ha) (show q + 1 ≤ c.parts.length by omega) (Nat.le_refl _)
        exact decide_eq_false (by omega)
      have nk : ∀ q : Nat, ∀ j, j < c.chans.length → j ≠ k → chMay c (q : Int) a j = false := fun q j hj hne => by
        have h3 := srcN_of ha hj
        have hno : ¬ (beforeN c j ≤ a ∧ a < beforeN c (j + 1)) := fun hh => hne (locate_one (before_rise ha) hj hk hh.1 hh.2 l1 (by rw [beforeN_succ]; omega))
        rw [beforeN_succ] at hno
        unfold chMay
        rw [has_src hq hj, has_dst hq hj, decide_eq_false (show ¬ (beforeN c j ≤ a ∧ a < beforeN c j + srcN (row c.chans j)) by omega), decide_eq_false (show ¬ a = beforeN c j + srcN (row c.chans j) by omega)]
        simp
      have sc : ∀ q : Nat, scan c.chans.length (chMay c (q : Int) a) = chMay c (q : Int) a k := fun q => by
        cases hv : chMay c (q : Int) a k with
        | true => exact scan_true hk hv
        | false =>
          refine scan_no fun j hj => ?_
          by_cases e : j = k
          · subst e; exact hv
          · exact nk q j hj e
      by_cases hb : a < beforeN c k + srcN (row c.chans k)
      · refine ⟨(fld (row c.chans k) 1).toNat, by omega, fun q hqp => ?_⟩
        unfold mayB
        rw [np q hqp, Bool.false_or, sc q]
        unfold chMay
        rw [has_src hq hk, has_dst hq hk, decide_eq_true (show beforeN c k ≤ a ∧ a < beforeN c k + srcN (row c.chans k) from ⟨l1, hb⟩), decide_eq_false (show ¬ a = beforeN c k + srcN (row c.chans k) by omega), Bool.and_true, Bool.and_false, Bool.or_false]
        exact decide_eq_decide.2 (by omega)
      · refine ⟨(fld (row c.chans k) 2).toNat, by omega, fun q hqp => ?_⟩
        unfold mayB
        rw [np q hqp, Bool.false_or, sc q]
        unfold chMay
        rw [has_src hq hk, has_dst hq hk, decide_eq_false (show ¬ (beforeN c k ≤ a ∧ a < beforeN c k + srcN (row c.chans k)) by omega), decide_eq_true (show a = beforeN c k + srcN (row c.chans k) by omega), Bool.and_true, Bool.and_false, Bool.false_or]
        exact decide_eq_decide.2 (by omega)
end
end Go.Proofs.YtnemabgenaijhaaDoor

namespace Go.Proofs.YtnemabgenaijhaaDoor
open Go.RowKit Go.Sort Go.ChangeShapes Go.WideShapes
set_option linter.unusedVariables false
set_option linter.unusedSimpArgs false

set_option maxRecDepth 100000 in
set_option maxHeartbeats 4000000 in
theorem rmay_b (c : Cfg) (x : CfgAt) (p a : Int) (w : World) (hx : CfgIn w w.heap.size c x) (wx : CfgWf c) (lx : CfgFew c) : Calls Tryd.prog 19 #[.agg (cfgCells c x), .int .i64 p, .int .i64 a] w fun e w' => e = .returned (.bool (mayB c p a)) ∧ Below w.heap.size w w' := by
  obtain ⟨W, HW, hB, -, bx⟩ := one_cbox w c x 35
  obtain ⟨pa, pc, ca, cc, aa, ac, ba, bc⟩ := x
  have hxW := hx.later hB
  have HB := Lib.hid hB; have HXW := Lib.hid hxW
  have HRP := Lib.hid (fun d os => Calls.regrown_of (rprivate_b c ⟨pa, pc, ca, cc, aa, ac, ba, bc⟩ p (grow (redrawn W d) os) (hxW.later (below_regrown W d os)) wx lx))
  obtain ⟨q0, q1, q2, q3, q4, q5⟩ := bx.quiet
  have hbc := Below.refl W.heap.size W
  simp only [cfgCells] at HW HRP ⊢
  clear hB hx hxW
  obtain ⟨p0, hp0⟩ : ∃ z, (privSpan c p).1 = z := ⟨_, rfl⟩
  obtain ⟨p1, hp1⟩ : ∃ z, (privSpan c p).2 = z := ⟨_, rfl⟩
  rw [hp0, hp1] at HRP
  have HP := Lib.hid (show hasS (privSpan c p) a = One.hasB p0 p1 a by unfold hasS; rw [hp0, hp1])
  clear hp0 hp1
  cases hh : One.hasB p0 p1 a with
  | true =>
    go_enter Tryd.func19, Tryd.ntmps19
    go_wp2_with (first | (rw [← HW.out]) | ((first | with_reducible refine wpList_on hbc ?_ | with_reducible refine wp_on hbc (by kernel_rfl) (by kernel_rfl) ?_); (repeat (first | go_big_quiet_step (first | with_reducible exact HRP.out _ _ | with_reducible exact regrown_is (by assumption) (One.rhas_b _ _ _ _)))); with_reducible refine wpQuiet_nil ?_; intro wc hbc))
    go_ret
    exact ⟨by rw [show mayB c p a = true from by unfold mayB; rw [HP.out, hh, Bool.true_or]]; rfl, HB.out.trans (hbc.mono HB.out.size)⟩
  | false =>
    go_enter Tryd.func19, Tryd.ntmps19
    go_wp2_with (first | (rw [← HW.out]) | ((first | with_reducible refine wpList_on hbc ?_ | with_reducible refine wp_on hbc (by kernel_rfl) (by kernel_rfl) ?_); (repeat (first | go_big_quiet_step (first | with_reducible exact HRP.out _ _ | with_reducible exact regrown_is (by assumption) (One.rhas_b _ _ _ _)))); with_reducible refine wpQuiet_nil ?_; intro wc hbc))
    clear HRP
    go_loopw [7] (fun ix wr => ∃ k : Nat, k ≤ c.chans.length ∧ ix = .int .i64 k ∧ (∀ j, j < k → chMay c p a j = false) ∧ Below W.heap.size W wr) (fun ix _ => c.chans.length - (intOf ix).toNat)
    case atStart => exact ⟨0, Nat.zero_le _, rfl, (fun j hj => by omega), hbc⟩
    case round =>
      clear hbc
      obtain ⟨k, hk, rfl, hno, hbc⟩ := hrel
      have HN := Lib.hid hno
      clear hno
      by_cases hlt : k < c.chans.length
      · obtain ⟨b, o, x0, x1, x2, x3, x4, x5, x6, e0, _, e1, -, hrow⟩ := HXW.out.rc.at7 wx.wc hlt
        have r1 : ∀ r : Regrown, (grow (redrawn W r.d) r.os).cell? ⟨b, o + k * 7 + 1, none⟩ = _ := fun r => (hrow _ (below_regrown W r.d r.os)).2.1
        have r2 : ∀ r : Regrown, (grow (redrawn W r.d) r.os).cell? ⟨b, o + k * 7 + 2, none⟩ = _ := fun r => (hrow _ (below_regrown W r.d r.os)).2.2.1
        have HSR := Lib.hid (fun d os => Calls.regrown_of (rsource_b c ⟨pa, pc, ca, cc, aa, ac, ba, bc⟩ (k : Int) (grow (redrawn W d) os) (HXW.out.later (below_regrown W d os)) wx lx))
        have HDR := Lib.hid (fun d os => Calls.regrown_of (rdest_b c ⟨pa, pc, ca, cc, aa, ac, ba, bc⟩ (k : Int) (grow (redrawn W d) os) (HXW.out.later (below_regrown W d os)) wx lx))
        obtain ⟨s0, hs0⟩ : ∃ z, (srcSpan c (k : Int)).1 = z := ⟨_, rfl⟩
        obtain ⟨s1, hs1⟩ : ∃ z, (srcSpan c (k : Int)).2 = z := ⟨_, rfl⟩
        obtain ⟨d0, hd0⟩ : ∃ z, (dstSpan c (k : Int)).1 = z := ⟨_, rfl⟩
        obtain ⟨d1, hd1⟩ : ∃ z, (dstSpan c (k : Int)).2 = z := ⟨_, rfl⟩
        rw [hs0, hs1] at HSR
        rw [hd0, hd1] at HDR
        have HS := Lib.hid (show srcSpan c (k : Int) = (s0, s1) by rw [← hs0, ← hs1])
        have HD := Lib.hid (show dstSpan c (k : Int) = (d0, d1) by rw [← hd0, ← hd1])
        have E1 := Lib.hid e1
        have i0 : (0 : Int) ≤ (k : Int) := by omega
        have i1 : (k : Int) < (c.chans.length : Int) := by omega
        have v0 := IntWalk.i64_in ((k : Int) + 1) (by have := lx.2.1; omega)
        simp only [cfgCells] at HSR HDR
        clear e1 hrow hs0 hs1 hd0 hd1
        subst e0
        by_cases e1 : x1 = p
        · have g1 : (x1 == p) = true := by simp [e1]
          cases h1 : One.hasB s0 s1 a with
          | true =>
            have hcm : chMay c p a k = true := by
              unfold chMay hasS
              rw [row_at E1.out, HS.out, HD.out]
              show ((decide (x1 = p) && One.hasB s0 s1 a) || (decide (x2 = p) && One.hasB d0 d1 a)) = true
              simp [e1, h1]
            have HCM := Lib.hid hcm
            clear hcm
            go_wp2_with ((first | with_reducible refine wpList_on hbc ?_ | with_reducible refine wp_on hbc (by kernel_rfl) (by kernel_rfl) ?_); (repeat (first | go_big_quiet_step (first | with_reducible exact HSR.out _ _ | with_reducible exact HDR.out _ _ | with_reducible exact regrown_is (by assumption) (One.rhas_b _ _ _ _)))); with_reducible refine wpQuiet_nil ?_; intro wc hbc)
            go_ret
            exact ⟨by rw [show mayB c p a = true from by unfold mayB; rw [scan_true (k := k) hlt HCM.out, Bool.or_true]]; rfl, HB.out.trans (hbc.mono HB.out.size)⟩
          | false =>
            by_cases e2 : x2 = p
            · have g2 : (x2 == p) = true := by simp [e2]
              cases h2 : One.hasB d0 d1 a with
              | true =>
                have hcm : chMay c p a k = true := by
                  unfold chMay hasS
                  rw [row_at E1.out, HS.out, HD.out]
                  show ((decide (x1 = p) && One.hasB s0 s1 a) || (decide (x2 = p) && One.hasB d0 d1 a)) = true
                  simp [e1, h1, e2, h2]
                have HCM := Lib.hid hcm
                clear hcm
                go_wp2_with ((first | with_reducible refine wpList_on hbc ?_ | with_reducible refine wp_on hbc (by kernel_rfl) (by kernel_rfl) ?_); (repeat (first | go_big_quiet_step (first | with_reducible exact HSR.out _ _ | with_reducible exact HDR.out _ _ | with_reducible exact regrown_is (by assumption) (One.rhas_b _ _ _ _)))); with_reducible refine wpQuiet_nil ?_; intro wc hbc)
                go_ret
                exact ⟨by rw [show mayB c p a = true from by unfold mayB; rw [scan_true (k := k) hlt HCM.out, Bool.or_true]]; rfl, HB.out.trans (hbc.mono HB.out.size)⟩
              | false =>
                have hcm : chMay c p a k = false := by
                  unfold chMay hasS
                  rw [row_at E1.out, HS.out, HD.out]
                  show ((decide (x1 = p) && One.hasB s0 s1 a) || (decide (x2 = p) && One.hasB d0 d1 a)) = false
                  simp [e1, h1, e2, h2]
                have HCM := Lib.hid hcm
                clear hcm
                go_wp2_with ((first | with_reducible refine wpList_on hbc ?_ | with_reducible refine wp_on hbc (by kernel_rfl) (by kernel_rfl) ?_); (repeat (first | go_big_quiet_step (first | with_reducible exact HSR.out _ _ | with_reducible exact HDR.out _ _ | with_reducible exact regrown_is (by assumption) (One.rhas_b _ _ _ _)))); with_reducible refine wpQuiet_nil ?_; intro wc hbc)
                go_roundw
                case rel => exact ⟨k + 1, by omega, by go_num, (fun j hj => by
                  by_cases e : j = k
                  · subst e; exact HCM.out
                  · exact HN.out j (by omega)), hbc⟩
                case measure => simp [intOf]; omega
            · have g2 : (x2 == p) = false := by simp [e2]
              have hcm : chMay c p a k = false := by
                unfold chMay hasS
                rw [row_at E1.out, HS.out, HD.out]
                show ((decide (x1 = p) && One.hasB s0 s1 a) || (decide (x2 = p) && One.hasB d0 d1 a)) = false
                simp [e1, h1, e2]
              have HCM := Lib.hid hcm
              clear hcm
              go_wp2_with ((first | with_reducible refine wpList_on hbc ?_ | with_reducible refine wp_on hbc (by kernel_rfl) (by kernel_rfl) ?_); (repeat (first | go_big_quiet_step (first | with_reducible exact HSR.out _ _ | with_reducible exact HDR.out _ _ | with_reducible exact regrown_is (by assumption) (One.rhas_b _ _ _ _)))); with_reducible refine wpQuiet_nil ?_; intro wc hbc)
              go_roundw
              case rel => exact ⟨k + 1, by omega, by go_num, (fun j hj => by
                by_cases e : j = k
                · subst e; exact HCM.out
                · exact HN.out j (by omega)), hbc⟩
              case measure => simp [intOf]; omega
        · have g1 : (x1 == p) = false := by simp [e1]
          by_cases e2 : x2 = p
          · have g2 : (x2 == p) = true := by simp [e2]
            cases h2 : One.hasB d0 d1 a with
            | true =>
              have hcm : chMay c p a k = true := by
                unfold chMay hasS
                rw [row_at E1.out, HS.out, HD.out]
                show ((decide (x1 = p) && One.hasB s0 s1 a) || (decide (x2 = p) && One.hasB d0 d1 a)) = true
                simp [e1, e2, h2]
              have HCM := Lib.hid hcm
              clear hcm
              go_wp2_with ((first | with_reducible refine wpList_on hbc ?_ | with_reducible refine wp_on hbc (by kernel_rfl) (by kernel_rfl) ?_); (repeat (first | go_big_quiet_step (first | with_reducible exact HSR.out _ _ | with_reducible exact HDR.out _ _ | with_reducible exact regrown_is (by assumption) (One.rhas_b _ _ _ _)))); with_reducible refine wpQuiet_nil ?_; intro wc hbc)
              go_ret
              exact ⟨by rw [show mayB c p a = true from by unfold mayB; rw [scan_true (k := k) hlt HCM.out, Bool.or_true]]; rfl, HB.out.trans (hbc.mono HB.out.size)⟩
            | false =>
              have hcm : chMay c p a k = false := by
                unfold chMay hasS
                rw [row_at E1.out, HS.out, HD.out]
                show ((decide (x1 = p) && One.hasB s0 s1 a) || (decide (x2 = p) && One.hasB d0 d1 a)) = false
                simp [e1, e2, h2]
              have HCM := Lib.hid hcm
              clear hcm
              go_wp2_with ((first | with_reducible refine wpList_on hbc ?_ | with_reducible refine wp_on hbc (by kernel_rfl) (by kernel_rfl) ?_); (repeat (first | go_big_quiet_step (first | with_reducible exact HSR.out _ _ | with_reducible exact HDR.out _ _ | with_reducible exact regrown_is (by assumption) (One.rhas_b _ _ _ _)))); with_reducible refine wpQuiet_nil ?_; intro wc hbc)
              go_roundw
              case rel => exact ⟨k + 1, by omega, by go_num, (fun j hj => by
                by_cases e : j = k
                · subst e; exact HCM.out
                · exact HN.out j (by omega)), hbc⟩
              case measure => simp [intOf]; omega
          · have g2 : (x2 == p) = false := by simp [e2]
            have hcm : chMay c p a k = false := by
              unfold chMay hasS
              rw [row_at E1.out, HS.out, HD.out]
              show ((decide (x1 = p) && One.hasB s0 s1 a) || (decide (x2 = p) && One.hasB d0 d1 a)) = false
              simp [e1, e2]
            have HCM := Lib.hid hcm
            clear hcm
            go_wp2_with ((first | with_reducible refine wpList_on hbc ?_ | with_reducible refine wp_on hbc (by kernel_rfl) (by kernel_rfl) ?_); (repeat (first | go_big_quiet_step (first | with_reducible exact HSR.out _ _ | with_reducible exact HDR.out _ _ | with_reducible exact regrown_is (by assumption) (One.rhas_b _ _ _ _)))); with_reducible refine wpQuiet_nil ?_; intro wc hbc)
            go_roundw
            case rel => exact ⟨k + 1, by omega, by go_num, (fun j hj => by
              by_cases e : j = k
              · subst e; exact HCM.out
              · exact HN.out j (by omega)), hbc⟩
            case measure => simp [intOf]; omega
      · have HX := Lib.hid (show mayB c p a = false by unfold mayB; rw [HP.out, hh, Bool.false_or]; exact scan_no (fun j hj => HN.out j (by omega)))
        go_wp2_with ((first | with_reducible refine wpList_on hbc ?_ | with_reducible refine wp_on hbc (by kernel_rfl) (by kernel_rfl) ?_); (repeat (first | go_big_quiet_step (first | fail))); with_reducible refine wpQuiet_nil ?_; intro wc hbc)
        go_ret
        exact ⟨by rw [HX.out]; rfl, HB.out.trans (hbc.mono HB.out.size)⟩
end Go.Proofs.YtnemabgenaijhaaDoor

namespace Go.Proofs.YtnemabgenaijhaaDoor
open Go.RowKit Go.Sort
set_option linter.unusedVariables false
set_option linter.unusedSimpArgs false

theorem fits_on {c : Cfg} {sp : Int} {sn : Bool} {made : List Int} {op port ad : Int} {n : Nat} (h : refusedN c sp sn made op port ad n = 0) : acceptsB c = true ∧ 0 ≤ sp ∧ sp < (c.parts.length : Int) ∧ refT c sp sn made op port ad n = 0 := by
  cases ha : acceptsB c with
  | false => rw [refused_out (.inl ha)] at h; cases h
  | true =>
    by_cases h1 : sp < 0
    · rw [refused_out (.inr (.inl h1))] at h; cases h
    · by_cases h2 : (c.parts.length : Int) ≤ sp
      · rw [refused_out (.inr (.inr h2))] at h; cases h
      · rw [refused_on ha h1 h2] at h
        exact ⟨rfl, by omega, by omega, h⟩
theorem fits_1 {c : Cfg} {sp : Int} {sn : Bool} {made : List Int} {port ad : Int} {n : Nat} (h : refT c sp sn made 1 port ad n = 0) : portB c port = true ∧ portP c port = sp ∧ sn = false := by
  unfold refT at h
  rw [if_pos rfl] at h
  split at h
  · cases h
  · rename_i h1
    split at h
    · cases h
    · split at h
      · cases h
      · rename_i h3
        refine ⟨by cases hb : portB c port with | true => rfl | false => exact absurd (.inl hb) h1, ?_, by cases sn with | false => rfl | true => exact absurd rfl h3⟩
        by_cases hp : portP c port = sp
        · exact hp
        · exact absurd (.inr hp) h1
theorem fits_2 {c : Cfg} {sp : Int} {sn : Bool} {made : List Int} {port ad : Int} {n : Nat} (h : refT c sp sn made 2 port ad n = 0) : sn = false := by
  unfold refT at h
  rw [if_neg (by decide), if_pos rfl] at h
  cases sn with
  | false => rfl
  | true => cases h
theorem fits_37 {c : Cfg} {sp : Int} {sn : Bool} {made : List Int} {op port ad : Int} {n : Nat} (h3 : 3 ≤ op) (h7 : op ≤ 7) (h : refT c sp sn made op port ad n = 0) :
    portB c port = true ∧ portP c port = sp ∧ sn = true ∧ talkT (fld (row c.chans (portK c port).toNat) 0) (portS c port) (fld (row c.chans (portK c port).toNat) 3) op n = 0 := by
  unfold refT at h
  rw [if_neg (by omega), if_neg (by omega), if_pos ⟨h3, h7⟩] at h
  unfold talkN at h
  cases hh : hasB c sp made port with
  | false => rw [if_pos hh] at h; cases h
  | true =>
    rw [if_neg (by rw [hh]; decide)] at h
    unfold hasB at hh
    rw [Bool.and_eq_true, Bool.and_eq_true, decide_eq_true_eq] at hh
    cases sn with
    | false => cases h
    | true => rw [if_neg (by decide)] at h; exact ⟨hh.1, hh.2.1, rfl, h⟩
theorem fits_89 {c : Cfg} {sp : Int} {sn : Bool} {made : List Int} {op port ad : Int} {n : Nat} (ho : op = 8 ∨ op = 9) (h : refT c sp sn made op port ad n = 0) : privB c sp ad = true := by
  unfold refT at h
  rw [if_neg (by omega), if_neg (by omega), if_neg (by omega), if_pos ho] at h
  split at h
  · cases h
  · split at h
    · cases h
    · rename_i h2
      cases hb : privB c sp ad with
      | true => rfl
      | false => exact absurd hb h2
theorem fits_no {c : Cfg} {sp : Int} {sn : Bool} {made : List Int} {op port ad : Int} {n : Nat} (ho : op < 1 ∨ 9 < op) (h : refT c sp sn made op port ad n = 0) : False := by
  unfold refT at h
  rw [if_neg (by omega), if_neg (by omega), if_neg (by omega), if_neg (by omega)] at h
  cases h
theorem talk_ok {kind words op : Int} {src : Bool} {n : Nat} (h : talkT kind src words op n = 0) : modeB kind src op = false ∧ ((op = 3 ∨ op = 5) → 1 ≤ n ∧ (n : Int) ≤ words) := by
  unfold talkT at h
  split at h
  · cases h
  · rename_i h1
    refine ⟨by cases hb : modeB kind src op with | false => rfl | true => exact absurd hb h1, fun ho => ?_⟩
    split at h
    · cases h
    · rename_i h2
      split at h
      · cases h
      · rename_i h3
        exact ⟨Nat.pos_of_ne_zero (fun e => h2 ⟨ho, e⟩), by
          by_cases hw : words < (n : Int)
          · exact absurd ⟨ho, hw⟩ h3
          · omega⟩
/-- An address of a partition's private span lies within the size, and is the partition's to change. -/
theorem priv_may {c : Cfg} {sp ad : Int} (ha : acceptsB c = true) (h0 : 0 ≤ sp) (h1 : sp < (c.parts.length : Int)) (h : privB c sp ad = true) : 0 ≤ ad ∧ ad < sizeN c ∧ sizeN c ≤ 1488 ∧ mayB c sp ad = true := by
  obtain ⟨q, rfl⟩ := Int.eq_ofNat_of_zero_le h0
  have hq : q < c.parts.length := by omega
  have hac := accd_of ha
  have hp := has_priv ha hq ad
  have hs : privSpan c (q : Int) = (privUp c.parts q, fld (row c.parts q) 1) := (if_pos ⟨ha, by omega, by omega⟩).trans (by rw [Int.toNat_natCast])
  have h2 := of_decide_eq_true h
  rw [hs] at h2
  have hu : privUp c.parts (q + 1) = privUp c.parts q + fld (row c.parts q) 1 := rfl
  have hm := mono_of (priv_rise hac) (show q + 1 ≤ c.parts.length by omega) (Nat.le_refl _)
  have hz := privUp_in hac q (by omega)
  have hc := chanUp_in hac c.chans.length (Nat.le_refl _)
  have hb := beforeN_in hac (k := c.chans.length) (Nat.le_refl _)
  have hsz : sizeN c = beforeN c c.chans.length := if_pos ha
  have hbf : beforeN c c.chans.length = privUp c.parts c.parts.length + chanUp c.chans c.chans.length := rfl
  refine ⟨by omega, by omega, by omega, ?_⟩
  unfold mayB
  rw [hp, decide_eq_true (by omega), Bool.true_or]
end Go.Proofs.YtnemabgenaijhaaDoor

namespace Go.Proofs.YtnemabgenaijhaaDoor
open Go.RowKit Go.Sort Go.ChangeShapes Go.WideShapes
set_option linter.unusedVariables false
set_option linter.unusedSimpArgs false

theorem rsize_is10 (c : Cfg) (x : CfgAt) (m : Int) (w : World) (hx : CfgIn w w.heap.size c x) (wx : CfgWf c) (lx : CfgFew c) (h : sizeN c = m) : Calls Tryd.prog 18 #[.agg (cfgCells c x)] w fun e w' => e = .returned (.int .i64 m) ∧ Below w.heap.size w w' := by subst h; exact rsize_b c x w hx wx lx
theorem rmay_is10 (c : Cfg) (x : CfgAt) (p a : Int) (z : Bool) (w : World) (hx : CfgIn w w.heap.size c x) (wx : CfgWf c) (lx : CfgFew c) (h : mayB c p a = z) : Calls Tryd.prog 19 #[.agg (cfgCells c x), .int .i64 p, .int .i64 a] w fun e w' => e = .returned (.bool z) ∧ Below w.heap.size w w' := by subst h; exact rmay_b c x p a w hx wx lx

set_option maxRecDepth 100000 in
set_option maxHeartbeats 8000000 in
theorem lfits_b (c : Cfg) (x : CfgAt) (sp : Int) (sn : Bool) (made : List Int) (ma : Option Addr) (mc : Nat) (va : Option Addr) (vn vc : Nat) (op port ad : Int) (da : Option Addr) (dn dc : Nat) (w : World) (hT : TabsAt w) (hx : CfgIn w w.heap.size c x) (wx : CfgWf c) (hsp : (Lit.int .i64 sp).wf = true) (hsr : IntRowK .i64 w w.heap.size ma made) (how : (Lit.int .i64 op).wf = true) (hp : (Lit.int .i64 port).wf = true) (had : (Lit.int .u64 ad).wf = true) : Calls Tryd.prog 6 #[.agg (cfgCells c x), .agg #[.int .i64 sp, .bool sn, .slice ma made.length mc, .slice va vn vc], .agg #[.int .i64 op, .int .i64 port, .int .u64 ad, .slice da dn dc]] w fun e w' => e = .returned (.bool true) ∧ Below w.heap.size w w' := by
  obtain ⟨Wc, HWc, hBc, hWs, bx⟩ := one_cbox w c x 35
  obtain ⟨pa, pc, ca, cc, aa, ac, ba, bc⟩ := x
  obtain ⟨Ws, HWs, hBs, hWss, sx⟩ := box_new Wc #[.int .i64 sp, .bool sn, .slice ma made.length mc, .slice va vn vc] 45
  obtain ⟨W, HW, hBq, hWq, qx⟩ := box_new Ws #[.int .i64 op, .int .i64 port, .int .u64 ad, .slice da dn dc] 49
  have hcW := hx.later (hBc.trans ((hBs.trans (hBq.mono hBs.size)).mono hBc.size))
  have hsW := (hsr.below (hBc.trans ((hBs.trans (hBq.mono hBs.size)).mono hBc.size))).more (hBc.trans ((hBs.trans (hBq.mono hBs.size)).mono hBc.size)).size
  have HB := Lib.hid (hBc.trans ((hBs.trans (hBq.mono hBs.size)).mono hBc.size))
  have BX : ∀ w', Below W.heap.size W w' → Below Wc.heap.size Wc w' := fun w' h => (hBs.trans (hBq.mono hBs.size)).trans (h.mono (Nat.le_trans hBs.size hBq.size))
  have SX : ∀ w', Below W.heap.size W w' → Below Ws.heap.size Ws w' := fun w' h => hBq.trans (h.mono hBq.size)
  obtain ⟨sb, hsb⟩ : ∃ n, n = Wc.heap.size := ⟨_, rfl⟩
  obtain ⟨qb, hqb⟩ : ∃ n, n = Ws.heap.size := ⟨_, rfl⟩
  rw [← hsb] at sx
  rw [← hqb] at qx
  have HSB := Lib.hid hsb; have HQB := Lib.hid hqb
  simp only [cfgCells] at HWc ⊢
  clear hBc hWs hBs hWss hBq hWq hx hsr hsb hqb
  obtain ⟨c0, c1, c2, c3, c4, c5⟩ := bx _ (BX _ (Below.refl _ _))
  have s0 : W.cell? ⟨sb, 0, none⟩ = some (.int .i64 sp) := cell_blk (sx _ (SX _ (Below.refl _ _))) rfl
  have s1 : W.cell? ⟨sb, 1, none⟩ = some (.bool sn) := cell_blk (sx _ (SX _ (Below.refl _ _))) rfl
  have s2 : W.cell? ⟨sb, 2, none⟩ = some (.slice ma made.length mc) := cell_blk (sx _ (SX _ (Below.refl _ _))) rfl
  have s3 : W.cell? ⟨sb, 3, none⟩ = some (.slice va vn vc) := cell_blk (sx _ (SX _ (Below.refl _ _))) rfl
  have q0 : W.cell? ⟨qb, 0, none⟩ = some (.int .i64 op) := cell_blk (qx _ (Below.refl _ _)) rfl
  have q1 : W.cell? ⟨qb, 1, none⟩ = some (.int .i64 port) := cell_blk (qx _ (Below.refl _ _)) rfl
  have q2 : W.cell? ⟨qb, 2, none⟩ = some (.int .u64 ad) := cell_blk (qx _ (Below.refl _ _)) rfl
  have q3 : W.cell? ⟨qb, 3, none⟩ = some (.slice da dn dc) := cell_blk (qx _ (Below.refl _ _)) rfl
  have HCW := Lib.hid hcW; have HSR := Lib.hid hsW
  clear hcW hsW
  go_enter Tryd.func6, Tryd.ntmps6
  go_wp2_with (first | (rw [← HWc.out]) | (simp only [← HSB.out]; rw [← HWs.out]) | (simp only [← HQB.out]; rw [← HW.out]))
  refine (wakes10_b W (hT.later HB.out) ).mono ?_
  rintro e w1 ⟨rfl, hb1⟩
  have H1 := Lib.hid hb1
  have HX1 := Lib.hid (HCW.out.later hb1)
  have HS1 := Lib.hid ((HSR.out.below hb1).more hb1.size)
  clear hb1
  clear c0 c1 c2 c3 c4 c5 s0 s1 s2 s3 q0 q1 q2 q3
  obtain ⟨c0, c1, c2, c3, c4, c5⟩ := bx _ (BX _ H1.out)
  have s0 : w1.cell? ⟨sb, 0, none⟩ = some (.int .i64 sp) := cell_blk (sx _ (SX _ H1.out)) rfl
  have s1 : w1.cell? ⟨sb, 1, none⟩ = some (.bool sn) := cell_blk (sx _ (SX _ H1.out)) rfl
  have s2 : w1.cell? ⟨sb, 2, none⟩ = some (.slice ma made.length mc) := cell_blk (sx _ (SX _ H1.out)) rfl
  have s3 : w1.cell? ⟨sb, 3, none⟩ = some (.slice va vn vc) := cell_blk (sx _ (SX _ H1.out)) rfl
  have q0 : w1.cell? ⟨qb, 0, none⟩ = some (.int .i64 op) := cell_blk (qx _ H1.out) rfl
  have q1 : w1.cell? ⟨qb, 1, none⟩ = some (.int .i64 port) := cell_blk (qx _ H1.out) rfl
  have q2 : w1.cell? ⟨qb, 2, none⟩ = some (.int .u64 ad) := cell_blk (qx _ H1.out) rfl
  have q3 : w1.cell? ⟨qb, 3, none⟩ = some (.slice da dn dc) := cell_blk (qx _ H1.out) rfl
  by_cases hg : cfgLe 100 c = true
  · have lx := cfgLe_few hg (by omega)
    have HG := Lib.hid (great_is c ⟨pa, pc, ca, cc, aa, ac, ba, bc⟩ false w1 (by rw [hg]; rfl))
    simp only [cfgCells] at HG
    clear hg
    go_wp2_with fail
    refine HG.out.mono ?_
    rintro e w2 ⟨rfl, hb2⟩
    have H2 := Lib.hid (H1.out.trans (hb2.mono H1.out.size))
    have HX2 := Lib.hid (HX1.out.later hb2)
    have HS2 := Lib.hid ((HS1.out.below hb2).more hb2.size)
    clear hb2
    clear c0 c1 c2 c3 c4 c5 s0 s1 s2 s3 q0 q1 q2 q3
    obtain ⟨c0, c1, c2, c3, c4, c5⟩ := bx _ (BX _ H2.out)
    have s0 : w2.cell? ⟨sb, 0, none⟩ = some (.int .i64 sp) := cell_blk (sx _ (SX _ H2.out)) rfl
    have s1 : w2.cell? ⟨sb, 1, none⟩ = some (.bool sn) := cell_blk (sx _ (SX _ H2.out)) rfl
    have s2 : w2.cell? ⟨sb, 2, none⟩ = some (.slice ma made.length mc) := cell_blk (sx _ (SX _ H2.out)) rfl
    have s3 : w2.cell? ⟨sb, 3, none⟩ = some (.slice va vn vc) := cell_blk (sx _ (SX _ H2.out)) rfl
    have q0 : w2.cell? ⟨qb, 0, none⟩ = some (.int .i64 op) := cell_blk (qx _ H2.out) rfl
    have q1 : w2.cell? ⟨qb, 1, none⟩ = some (.int .i64 port) := cell_blk (qx _ H2.out) rfl
    have q2 : w2.cell? ⟨qb, 2, none⟩ = some (.int .u64 ad) := cell_blk (qx _ H2.out) rfl
    have q3 : w2.cell? ⟨qb, 3, none⟩ = some (.slice da dn dc) := cell_blk (qx _ H2.out) rfl
    by_cases g1 : (60 : Int) < (made.length : Int)
    · go_wp2
      go_ret
      exact ⟨rfl, HB.out.trans (H2.out.mono HB.out.size)⟩
    have g1d : decide ((60 : Int) < (made.length : Int)) = false := decide_eq_false g1
    by_cases g2 : (100 : Int) < (dn : Int)
    · go_wp2
      go_ret
      exact ⟨rfl, HB.out.trans (H2.out.mono HB.out.size)⟩
    have g2d : decide ((100 : Int) < (dn : Int)) = false := decide_eq_false g2
    obtain ⟨z, hz⟩ : ∃ z, refusedN c sp sn made op port ad dn = z := ⟨_, rfl⟩
    have HZ := Lib.hid hz
    have hs2 : SIn w2 made ma := ⟨HS2.out, by omega⟩
    clear hz
    go_wp2_with fail
    refine (prefused_is c ⟨pa, pc, ca, cc, aa, ac, ba, bc⟩ sp sn made ma mc va vn vc op port ad da dn dc z _ HX2.out wx lx hs2 hp had (by omega) (hT.later (HB.out.trans (H2.out.mono HB.out.size))) HZ.out).mono ?_
    rintro e w3 ⟨rfl, hb3⟩
    have H3 := Lib.hid (H2.out.trans (hb3.mono H2.out.size))
    have HX3 := Lib.hid (HX2.out.later hb3)
    have HS3 := Lib.hid (hs2.later hb3)
    clear hb3 hs2
    clear c0 c1 c2 c3 c4 c5 s0 s1 s2 s3 q0 q1 q2 q3
    obtain ⟨c0, c1, c2, c3, c4, c5⟩ := bx _ (BX _ H3.out)
    have s0 : w3.cell? ⟨sb, 0, none⟩ = some (.int .i64 sp) := cell_blk (sx _ (SX _ H3.out)) rfl
    have s1 : w3.cell? ⟨sb, 1, none⟩ = some (.bool sn) := cell_blk (sx _ (SX _ H3.out)) rfl
    have s2 : w3.cell? ⟨sb, 2, none⟩ = some (.slice ma made.length mc) := cell_blk (sx _ (SX _ H3.out)) rfl
    have s3 : w3.cell? ⟨sb, 3, none⟩ = some (.slice va vn vc) := cell_blk (sx _ (SX _ H3.out)) rfl
    have q0 : w3.cell? ⟨qb, 0, none⟩ = some (.int .i64 op) := cell_blk (qx _ H3.out) rfl
    have q1 : w3.cell? ⟨qb, 1, none⟩ = some (.int .i64 port) := cell_blk (qx _ H3.out) rfl
    have q2 : w3.cell? ⟨qb, 2, none⟩ = some (.int .u64 ad) := cell_blk (qx _ H3.out) rfl
    have q3 : w3.cell? ⟨qb, 3, none⟩ = some (.slice da dn dc) := cell_blk (qx _ H3.out) rfl
    by_cases hz : z = 0
    · have hzn : (z != 0) = false := by simp [hz]
      obtain ⟨ha, hp0, hp1, hT⟩ := fits_on (HZ.out.trans hz)
      clear hz
      by_cases o8 : op = 8
      · subst o8
        obtain ⟨ad0, ad1, ad2, hmy⟩ := priv_may ha hp0 hp1 (fits_89 (.inl rfl) hT)
        obtain ⟨m, hm⟩ : ∃ m, sizeN c = m := ⟨_, rfl⟩
        rw [hm] at ad1 ad2
        have HSZ := Lib.hid (fun d os => Calls.regrown_of (rsize_is10 c ⟨pa, pc, ca, cc, aa, ac, ba, bc⟩ m (grow (redrawn w3 d) os) (HX3.out.later (below_regrown w3 d os)) wx lx hm))
        have HMY := Lib.hid (fun d os => Calls.regrown_of (rmay_is10 c ⟨pa, pc, ca, cc, aa, ac, ba, bc⟩ sp ad true (grow (redrawn w3 d) os) (HX3.out.later (below_regrown w3 d os)) wx lx hmy))
        simp only [cfgCells] at HSZ HMY
        have u1 := IntWalk.u64_in m (by omega)
        have u2 := IntWalk.i64_in ad (by omega)
        have l1 : decide (ad < m) = true := decide_eq_true ad1
        have c0r : ∀ p : Regrown, (grow (redrawn w3 p.d) p.os).cell? ⟨w.heap.size, 0, none⟩ = some (.slice pa c.parts.length pc) := fun p => cell_regrown c0 p.d p.os
        have c1r : ∀ p : Regrown, (grow (redrawn w3 p.d) p.os).cell? ⟨w.heap.size, 1, none⟩ = some (.slice ca c.chans.length cc) := fun p => cell_regrown c1 p.d p.os
        have c2r : ∀ p : Regrown, (grow (redrawn w3 p.d) p.os).cell? ⟨w.heap.size, 2, none⟩ = some (.int .i64 c.len0) := fun p => cell_regrown c2 p.d p.os
        have c3r : ∀ p : Regrown, (grow (redrawn w3 p.d) p.os).cell? ⟨w.heap.size, 3, none⟩ = some (.slice aa c.win0.length ac) := fun p => cell_regrown c3 p.d p.os
        have c4r : ∀ p : Regrown, (grow (redrawn w3 p.d) p.os).cell? ⟨w.heap.size, 4, none⟩ = some (.int .i64 c.len1) := fun p => cell_regrown c4 p.d p.os
        have c5r : ∀ p : Regrown, (grow (redrawn w3 p.d) p.os).cell? ⟨w.heap.size, 5, none⟩ = some (.slice ba c.win1.length bc) := fun p => cell_regrown c5 p.d p.os
        have s0r : ∀ p : Regrown, (grow (redrawn w3 p.d) p.os).cell? ⟨sb, 0, none⟩ = some (.int .i64 sp) := fun p => cell_regrown s0 p.d p.os
        have s1r : ∀ p : Regrown, (grow (redrawn w3 p.d) p.os).cell? ⟨sb, 1, none⟩ = some (.bool sn) := fun p => cell_regrown s1 p.d p.os
        have s2r : ∀ p : Regrown, (grow (redrawn w3 p.d) p.os).cell? ⟨sb, 2, none⟩ = some (.slice ma made.length mc) := fun p => cell_regrown s2 p.d p.os
        have s3r : ∀ p : Regrown, (grow (redrawn w3 p.d) p.os).cell? ⟨sb, 3, none⟩ = some (.slice va vn vc) := fun p => cell_regrown s3 p.d p.os
        have q0r : ∀ p : Regrown, (grow (redrawn w3 p.d) p.os).cell? ⟨qb, 0, none⟩ = some (.int .i64 8) := fun p => cell_regrown q0 p.d p.os
        have q1r : ∀ p : Regrown, (grow (redrawn w3 p.d) p.os).cell? ⟨qb, 1, none⟩ = some (.int .i64 port) := fun p => cell_regrown q1 p.d p.os
        have q2r : ∀ p : Regrown, (grow (redrawn w3 p.d) p.os).cell? ⟨qb, 2, none⟩ = some (.int .u64 ad) := fun p => cell_regrown q2 p.d p.os
        have q3r : ∀ p : Regrown, (grow (redrawn w3 p.d) p.os).cell? ⟨qb, 3, none⟩ = some (.slice da dn dc) := fun p => cell_regrown q3 p.d p.os
        have hbq := Below.refl w3.heap.size w3
        clear hT HZ hm hmy
        go_wp2_with ((first | with_reducible refine wpList_on hbq ?_ | with_reducible refine wp_on hbq (by kernel_rfl) (by kernel_rfl) ?_); (repeat (go_big_quiet_step (first | with_reducible exact HSZ.out _ _ | with_reducible exact HMY.out _ _))); with_reducible refine wpQuiet_nil ?_; intro wc hbq)
        go_ret
        exact ⟨by first | rfl | simp, HB.out.trans ((H3.out.trans (hbq.mono H3.out.size)).mono HB.out.size)⟩
      by_cases o9 : op = 9
      · subst o9
        obtain ⟨ad0, ad1, ad2, hmy⟩ := priv_may ha hp0 hp1 (fits_89 (.inr rfl) hT)
        obtain ⟨m, hm⟩ : ∃ m, sizeN c = m := ⟨_, rfl⟩
        rw [hm] at ad1 ad2
        have HSZ := Lib.hid (fun d os => Calls.regrown_of (rsize_is10 c ⟨pa, pc, ca, cc, aa, ac, ba, bc⟩ m (grow (redrawn w3 d) os) (HX3.out.later (below_regrown w3 d os)) wx lx hm))
        have HMY := Lib.hid (fun d os => Calls.regrown_of (rmay_is10 c ⟨pa, pc, ca, cc, aa, ac, ba, bc⟩ sp ad true (grow (redrawn w3 d) os) (HX3.out.later (below_regrown w3 d os)) wx lx hmy))
        simp only [cfgCells] at HSZ HMY
        have u1 := IntWalk.u64_in m (by omega)
        have u2 := IntWalk.i64_in ad (by omega)
        have l1 : decide (ad < m) = true := decide_eq_true ad1
        have c0r : ∀ p : Regrown, (grow (redrawn w3 p.d) p.os).cell? ⟨w.heap.size, 0, none⟩ = some (.slice pa c.parts.length pc) := fun p => cell_regrown c0 p.d p.os
        have c1r : ∀ p : Regrown, (grow (redrawn w3 p.d) p.os).cell? ⟨w.heap.size, 1, none⟩ = some (.slice ca c.chans.length cc) := fun p => cell_regrown c1 p.d p.os
        have c2r : ∀ p : Regrown, (grow (redrawn w3 p.d) p.os).cell? ⟨w.heap.size, 2, none⟩ = some (.int .i64 c.len0) := fun p => cell_regrown c2 p.d p.os
        have c3r : ∀ p : Regrown, (grow (redrawn w3 p.d) p.os).cell? ⟨w.heap.size, 3, none⟩ = some (.slice aa c.win0.length ac) := fun p => cell_regrown c3 p.d p.os
        have c4r : ∀ p : Regrown, (grow (redrawn w3 p.d) p.os).cell? ⟨w.heap.size, 4, none⟩ = some (.int .i64 c.len1) := fun p => cell_regrown c4 p.d p.os
        have c5r : ∀ p : Regrown, (grow (redrawn w3 p.d) p.os).cell? ⟨w.heap.size, 5, none⟩ = some (.slice ba c.win1.length bc) := fun p => cell_regrown c5 p.d p.os
        have s0r : ∀ p : Regrown, (grow (redrawn w3 p.d) p.os).cell? ⟨sb, 0, none⟩ = some (.int .i64 sp) := fun p => cell_regrown s0 p.d p.os
        have s1r : ∀ p : Regrown, (grow (redrawn w3 p.d) p.os).cell? ⟨sb, 1, none⟩ = some (.bool sn) := fun p => cell_regrown s1 p.d p.os
        have s2r : ∀ p : Regrown, (grow (redrawn w3 p.d) p.os).cell? ⟨sb, 2, none⟩ = some (.slice ma made.length mc) := fun p => cell_regrown s2 p.d p.os
        have s3r : ∀ p : Regrown, (grow (redrawn w3 p.d) p.os).cell? ⟨sb, 3, none⟩ = some (.slice va vn vc) := fun p => cell_regrown s3 p.d p.os
        have q0r : ∀ p : Regrown, (grow (redrawn w3 p.d) p.os).cell? ⟨qb, 0, none⟩ = some (.int .i64 9) := fun p => cell_regrown q0 p.d p.os
        have q1r : ∀ p : Regrown, (grow (redrawn w3 p.d) p.os).cell? ⟨qb, 1, none⟩ = some (.int .i64 port) := fun p => cell_regrown q1 p.d p.os
        have q2r : ∀ p : Regrown, (grow (redrawn w3 p.d) p.os).cell? ⟨qb, 2, none⟩ = some (.int .u64 ad) := fun p => cell_regrown q2 p.d p.os
        have q3r : ∀ p : Regrown, (grow (redrawn w3 p.d) p.os).cell? ⟨qb, 3, none⟩ = some (.slice da dn dc) := fun p => cell_regrown q3 p.d p.os
        have hbq := Below.refl w3.heap.size w3
        clear hT HZ hm hmy
        go_wp2_with ((first | with_reducible refine wpList_on hbq ?_ | with_reducible refine wp_on hbq (by kernel_rfl) (by kernel_rfl) ?_); (repeat (go_big_quiet_step (first | with_reducible exact HSZ.out _ _ | with_reducible exact HMY.out _ _))); with_reducible refine wpQuiet_nil ?_; intro wc hbq)
        go_ret
        exact ⟨by first | rfl | simp, HB.out.trans ((H3.out.trans (hbq.mono H3.out.size)).mono HB.out.size)⟩
      have o8a : (op == 8) = false := by simp [o8]
      have o9a : (op == 9) = false := by simp [o9]
      by_cases o2 : op = 2
      · subst o2
        have hsn := fits_2 hT
        subst hsn
        clear hT HZ ha
        go_wp2
        go_ret
        exact ⟨by first | rfl | simp, HB.out.trans (H3.out.mono HB.out.size)⟩
      by_cases o1 : op = 1
      · subst o1
        obtain ⟨hb, hpp, hsn⟩ := fits_1 hT
        subst hsn
        clear hT o8a o9a o8 o9 o2
        obtain ⟨k, hk, hkK⟩ := portK_of hb
        obtain ⟨S, hS⟩ : ∃ S, portS c port = S := ⟨_, rfl⟩
        have HPP := Lib.hid (pport_is c ⟨pa, pc, ca, cc, aa, ac, ba, bc⟩ port (k : Int) sp S true w3 HX3.out wx lx hp ⟨hkK, hpp, hS, hb⟩)
        simp only [cfgCells] at HPP
        obtain ⟨b, o, x0, x1, x2, x3, x4, x5, x6, e0, _, e1, _, k0⟩ := HX3.out.rc.at7 wx.wc hk
        cases e0
        have hac := (accd_of ha).chan k hk
        rw [row_at e1] at hac
        have hkind : x0 = 1 ∨ x0 = 2 := hac.1
        have g1 : (0 : Int) ≤ (k : Int) := by omega
        have g2 : (k : Int) < (c.chans.length : Int) := by omega
        have gp : (sp != sp) = false := by simp
        clear e1 hac hkK hS hb hpp HZ
        go_wp2_with fail
        refine HPP.out.mono ?_
        rintro e w4 ⟨rfl, hb4⟩
        have H4 := Lib.hid (H3.out.trans (hb4.mono H3.out.size))
        obtain ⟨y0, y1, y2, y3, y4, y5, y6⟩ := k0 _ hb4
        clear c0 c1 c2 c3 c4 c5 s0 s1 s2 s3 q0 q1 q2 q3
        obtain ⟨c0, c1, c2, c3, c4, c5⟩ := bx _ (BX _ H4.out)
        have s0 : w4.cell? ⟨sb, 0, none⟩ = some (.int .i64 sp) := cell_blk (sx _ (SX _ H4.out)) rfl
        have s1 : w4.cell? ⟨sb, 1, none⟩ = some (.bool false) := cell_blk (sx _ (SX _ H4.out)) rfl
        have s2 : w4.cell? ⟨sb, 2, none⟩ = some (.slice ma made.length mc) := cell_blk (sx _ (SX _ H4.out)) rfl
        have s3 : w4.cell? ⟨sb, 3, none⟩ = some (.slice va vn vc) := cell_blk (sx _ (SX _ H4.out)) rfl
        have q0 : w4.cell? ⟨qb, 0, none⟩ = some (.int .i64 1) := cell_blk (qx _ H4.out) rfl
        have q1 : w4.cell? ⟨qb, 1, none⟩ = some (.int .i64 port) := cell_blk (qx _ H4.out) rfl
        have q2 : w4.cell? ⟨qb, 2, none⟩ = some (.int .u64 ad) := cell_blk (qx _ H4.out) rfl
        have q3 : w4.cell? ⟨qb, 3, none⟩ = some (.slice da dn dc) := cell_blk (qx _ H4.out) rfl
        obtain ⟨V, hV⟩ : ∃ u, Hid (u = w4.alloc (.cells #[.int .i64 x0, .int .i64 x1, .int .i64 x2, .int .i64 x3, .int .i64 x4, .int .i64 x5, .int .u32 x6] 58)) := ⟨_, rfl⟩
        have hbV : Below w4.heap.size w4 V := by rw [hV.out]; exact (Below.refl _ _).alloc (Nat.le_refl _) _
        have hxV : V.heap[w4.heap.size]? = some (.cells #[.int .i64 x0, .int .i64 x1, .int .i64 x2, .int .i64 x3, .int .i64 x4, .int .i64 x5, .int .u32 x6] 58 (0, 0)) := by rw [hV.out]; exact heap_alloc_new _ _
        have HV := Lib.hid (H4.out.trans (hbV.mono H4.out.size))
        have v0 : V.cell? ⟨w4.heap.size, 0, none⟩ = some (.int .i64 x0) := cell_blk hxV rfl
        have v3 : V.cell? ⟨w4.heap.size, 3, none⟩ = some (.int .i64 x3) := cell_blk hxV rfl
        obtain ⟨c0v, c1v, c2v, c3v, c4v, c5v⟩ := bx _ (BX _ HV.out)
        have s0v : V.cell? ⟨sb, 0, none⟩ = some (.int .i64 sp) := cell_blk (sx _ (SX _ HV.out)) rfl
        have s1v : V.cell? ⟨sb, 1, none⟩ = some (.bool false) := cell_blk (sx _ (SX _ HV.out)) rfl
        have s2v : V.cell? ⟨sb, 2, none⟩ = some (.slice ma made.length mc) := cell_blk (sx _ (SX _ HV.out)) rfl
        have s3v : V.cell? ⟨sb, 3, none⟩ = some (.slice va vn vc) := cell_blk (sx _ (SX _ HV.out)) rfl
        have q0v : V.cell? ⟨qb, 0, none⟩ = some (.int .i64 1) := cell_blk (qx _ HV.out) rfl
        have q1v : V.cell? ⟨qb, 1, none⟩ = some (.int .i64 port) := cell_blk (qx _ HV.out) rfl
        have q2v : V.cell? ⟨qb, 2, none⟩ = some (.int .u64 ad) := cell_blk (qx _ HV.out) rfl
        have q3v : V.cell? ⟨qb, 3, none⟩ = some (.slice da dn dc) := cell_blk (qx _ HV.out) rfl
        clear hb4 hbV hxV k0
        go_wp2_with (rw [← hV.out])
        go_ret
        exact ⟨by first | rfl | simp, HB.out.trans (HV.out.mono HB.out.size)⟩
      by_cases hno : op < 1 ∨ 9 < op
      · exact (fits_no hno hT).elim
      obtain ⟨hb, hpp, hsn, htk⟩ := fits_37 (by omega) (by omega) hT
      subst hsn
      have hop : op = 3 ∨ op = 4 ∨ op = 5 ∨ op = 6 ∨ op = 7 := by omega
      clear hT o8a o9a o8 o9 o2 o1 hno
      rcases hop with rfl | rfl | rfl | rfl | rfl
      · obtain ⟨k, hk, hkK⟩ := portK_of hb
        obtain ⟨S, hS⟩ : ∃ S, portS c port = S := ⟨_, rfl⟩
        have HPP := Lib.hid (pport_is c ⟨pa, pc, ca, cc, aa, ac, ba, bc⟩ port (k : Int) sp S true w3 HX3.out wx lx hp ⟨hkK, hpp, hS, hb⟩)
        simp only [cfgCells] at HPP
        obtain ⟨b, o, x0, x1, x2, x3, x4, x5, x6, e0, _, e1, _, k0⟩ := HX3.out.rc.at7 wx.wc hk
        cases e0
        have hac := (accd_of ha).chan k hk
        rw [row_at e1] at hac
        have hkind : x0 = 1 ∨ x0 = 2 := hac.1
        rw [hkK, Int.toNat_natCast, row_at e1, hS] at htk
        obtain ⟨hmd, hwd⟩ := talk_ok (show talkT x0 S x3 3 dn = 0 from htk)
        clear htk
        have g1 : (0 : Int) ≤ (k : Int) := by omega
        have g2 : (k : Int) < (c.chans.length : Int) := by omega
        have gp : (sp != sp) = false := by simp
        clear e1 hac hkK hS hb hpp HZ
        go_wp2_with fail
        refine HPP.out.mono ?_
        rintro e w4 ⟨rfl, hb4⟩
        have H4 := Lib.hid (H3.out.trans (hb4.mono H3.out.size))
        obtain ⟨y0, y1, y2, y3, y4, y5, y6⟩ := k0 _ hb4
        clear c0 c1 c2 c3 c4 c5 s0 s1 s2 s3 q0 q1 q2 q3
        obtain ⟨c0, c1, c2, c3, c4, c5⟩ := bx _ (BX _ H4.out)
        have s0 : w4.cell? ⟨sb, 0, none⟩ = some (.int .i64 sp) := cell_blk (sx _ (SX _ H4.out)) rfl
        have s1 : w4.cell? ⟨sb, 1, none⟩ = some (.bool true) := cell_blk (sx _ (SX _ H4.out)) rfl
        have s2 : w4.cell? ⟨sb, 2, none⟩ = some (.slice ma made.length mc) := cell_blk (sx _ (SX _ H4.out)) rfl
        have s3 : w4.cell? ⟨sb, 3, none⟩ = some (.slice va vn vc) := cell_blk (sx _ (SX _ H4.out)) rfl
        have q0 : w4.cell? ⟨qb, 0, none⟩ = some (.int .i64 3) := cell_blk (qx _ H4.out) rfl
        have q1 : w4.cell? ⟨qb, 1, none⟩ = some (.int .i64 port) := cell_blk (qx _ H4.out) rfl
        have q2 : w4.cell? ⟨qb, 2, none⟩ = some (.int .u64 ad) := cell_blk (qx _ H4.out) rfl
        have q3 : w4.cell? ⟨qb, 3, none⟩ = some (.slice da dn dc) := cell_blk (qx _ H4.out) rfl
        obtain ⟨V, hV⟩ : ∃ u, Hid (u = w4.alloc (.cells #[.int .i64 x0, .int .i64 x1, .int .i64 x2, .int .i64 x3, .int .i64 x4, .int .i64 x5, .int .u32 x6] 58)) := ⟨_, rfl⟩
        have hbV : Below w4.heap.size w4 V := by rw [hV.out]; exact (Below.refl _ _).alloc (Nat.le_refl _) _
        have hxV : V.heap[w4.heap.size]? = some (.cells #[.int .i64 x0, .int .i64 x1, .int .i64 x2, .int .i64 x3, .int .i64 x4, .int .i64 x5, .int .u32 x6] 58 (0, 0)) := by rw [hV.out]; exact heap_alloc_new _ _
        have HV := Lib.hid (H4.out.trans (hbV.mono H4.out.size))
        have v0 : V.cell? ⟨w4.heap.size, 0, none⟩ = some (.int .i64 x0) := cell_blk hxV rfl
        have v3 : V.cell? ⟨w4.heap.size, 3, none⟩ = some (.int .i64 x3) := cell_blk hxV rfl
        obtain ⟨c0v, c1v, c2v, c3v, c4v, c5v⟩ := bx _ (BX _ HV.out)
        have s0v : V.cell? ⟨sb, 0, none⟩ = some (.int .i64 sp) := cell_blk (sx _ (SX _ HV.out)) rfl
        have s1v : V.cell? ⟨sb, 1, none⟩ = some (.bool true) := cell_blk (sx _ (SX _ HV.out)) rfl
        have s2v : V.cell? ⟨sb, 2, none⟩ = some (.slice ma made.length mc) := cell_blk (sx _ (SX _ HV.out)) rfl
        have s3v : V.cell? ⟨sb, 3, none⟩ = some (.slice va vn vc) := cell_blk (sx _ (SX _ HV.out)) rfl
        have q0v : V.cell? ⟨qb, 0, none⟩ = some (.int .i64 3) := cell_blk (qx _ HV.out) rfl
        have q1v : V.cell? ⟨qb, 1, none⟩ = some (.int .i64 port) := cell_blk (qx _ HV.out) rfl
        have q2v : V.cell? ⟨qb, 2, none⟩ = some (.int .u64 ad) := cell_blk (qx _ HV.out) rfl
        have q3v : V.cell? ⟨qb, 3, none⟩ = some (.slice da dn dc) := cell_blk (qx _ HV.out) rfl
        clear hb4 hbV hxV k0
        cases S with
        | false =>
          rcases hkind with rfl | rfl
          · exact absurd hmd (by decide)
          · exact absurd hmd (by decide)
        | true =>
          rcases hkind with rfl | rfl
          · obtain ⟨hd1, hd2⟩ := hwd (by decide)
            have hd1i : (1 : Int) ≤ (dn : Int) := by omega
            have hd1d : decide ((1 : Int) ≤ (dn : Int)) = true := decide_eq_true hd1i
            have hd2d : decide ((dn : Int) ≤ x3) = true := decide_eq_true hd2
            clear hwd hmd
            go_wp2_with (rw [← hV.out])
            go_ret
            exact ⟨by first | rfl | simp, HB.out.trans (HV.out.mono HB.out.size)⟩
          · exact absurd hmd (by decide)
      · obtain ⟨k, hk, hkK⟩ := portK_of hb
        obtain ⟨S, hS⟩ : ∃ S, portS c port = S := ⟨_, rfl⟩
        have HPP := Lib.hid (pport_is c ⟨pa, pc, ca, cc, aa, ac, ba, bc⟩ port (k : Int) sp S true w3 HX3.out wx lx hp ⟨hkK, hpp, hS, hb⟩)
        simp only [cfgCells] at HPP
        obtain ⟨b, o, x0, x1, x2, x3, x4, x5, x6, e0, _, e1, _, k0⟩ := HX3.out.rc.at7 wx.wc hk
        cases e0
        have hac := (accd_of ha).chan k hk
        rw [row_at e1] at hac
        have hkind : x0 = 1 ∨ x0 = 2 := hac.1
        rw [hkK, Int.toNat_natCast, row_at e1, hS] at htk
        obtain ⟨hmd, hwd⟩ := talk_ok (show talkT x0 S x3 4 dn = 0 from htk)
        clear htk
        have g1 : (0 : Int) ≤ (k : Int) := by omega
        have g2 : (k : Int) < (c.chans.length : Int) := by omega
        have gp : (sp != sp) = false := by simp
        clear e1 hac hkK hS hb hpp HZ
        go_wp2_with fail
        refine HPP.out.mono ?_
        rintro e w4 ⟨rfl, hb4⟩
        have H4 := Lib.hid (H3.out.trans (hb4.mono H3.out.size))
        obtain ⟨y0, y1, y2, y3, y4, y5, y6⟩ := k0 _ hb4
        clear c0 c1 c2 c3 c4 c5 s0 s1 s2 s3 q0 q1 q2 q3
        obtain ⟨c0, c1, c2, c3, c4, c5⟩ := bx _ (BX _ H4.out)
        have s0 : w4.cell? ⟨sb, 0, none⟩ = some (.int .i64 sp) := cell_blk (sx _ (SX _ H4.out)) rfl
        have s1 : w4.cell? ⟨sb, 1, none⟩ = some (.bool true) := cell_blk (sx _ (SX _ H4.out)) rfl
        have s2 : w4.cell? ⟨sb, 2, none⟩ = some (.slice ma made.length mc) := cell_blk (sx _ (SX _ H4.out)) rfl
        have s3 : w4.cell? ⟨sb, 3, none⟩ = some (.slice va vn vc) := cell_blk (sx _ (SX _ H4.out)) rfl
        have q0 : w4.cell? ⟨qb, 0, none⟩ = some (.int .i64 4) := cell_blk (qx _ H4.out) rfl
        have q1 : w4.cell? ⟨qb, 1, none⟩ = some (.int .i64 port) := cell_blk (qx _ H4.out) rfl
        have q2 : w4.cell? ⟨qb, 2, none⟩ = some (.int .u64 ad) := cell_blk (qx _ H4.out) rfl
        have q3 : w4.cell? ⟨qb, 3, none⟩ = some (.slice da dn dc) := cell_blk (qx _ H4.out) rfl
        obtain ⟨V, hV⟩ : ∃ u, Hid (u = w4.alloc (.cells #[.int .i64 x0, .int .i64 x1, .int .i64 x2, .int .i64 x3, .int .i64 x4, .int .i64 x5, .int .u32 x6] 58)) := ⟨_, rfl⟩
        have hbV : Below w4.heap.size w4 V := by rw [hV.out]; exact (Below.refl _ _).alloc (Nat.le_refl _) _
        have hxV : V.heap[w4.heap.size]? = some (.cells #[.int .i64 x0, .int .i64 x1, .int .i64 x2, .int .i64 x3, .int .i64 x4, .int .i64 x5, .int .u32 x6] 58 (0, 0)) := by rw [hV.out]; exact heap_alloc_new _ _
        have HV := Lib.hid (H4.out.trans (hbV.mono H4.out.size))
        have v0 : V.cell? ⟨w4.heap.size, 0, none⟩ = some (.int .i64 x0) := cell_blk hxV rfl
        have v3 : V.cell? ⟨w4.heap.size, 3, none⟩ = some (.int .i64 x3) := cell_blk hxV rfl
        obtain ⟨c0v, c1v, c2v, c3v, c4v, c5v⟩ := bx _ (BX _ HV.out)
        have s0v : V.cell? ⟨sb, 0, none⟩ = some (.int .i64 sp) := cell_blk (sx _ (SX _ HV.out)) rfl
        have s1v : V.cell? ⟨sb, 1, none⟩ = some (.bool true) := cell_blk (sx _ (SX _ HV.out)) rfl
        have s2v : V.cell? ⟨sb, 2, none⟩ = some (.slice ma made.length mc) := cell_blk (sx _ (SX _ HV.out)) rfl
        have s3v : V.cell? ⟨sb, 3, none⟩ = some (.slice va vn vc) := cell_blk (sx _ (SX _ HV.out)) rfl
        have q0v : V.cell? ⟨qb, 0, none⟩ = some (.int .i64 4) := cell_blk (qx _ HV.out) rfl
        have q1v : V.cell? ⟨qb, 1, none⟩ = some (.int .i64 port) := cell_blk (qx _ HV.out) rfl
        have q2v : V.cell? ⟨qb, 2, none⟩ = some (.int .u64 ad) := cell_blk (qx _ HV.out) rfl
        have q3v : V.cell? ⟨qb, 3, none⟩ = some (.slice da dn dc) := cell_blk (qx _ HV.out) rfl
        clear hb4 hbV hxV k0
        cases S with
        | false =>
          rcases hkind with rfl | rfl
          · clear hwd hmd
            go_wp2_with (rw [← hV.out])
            go_ret
            exact ⟨by first | rfl | simp, HB.out.trans (HV.out.mono HB.out.size)⟩
          · exact absurd hmd (by decide)
        | true =>
          rcases hkind with rfl | rfl
          · exact absurd hmd (by decide)
          · exact absurd hmd (by decide)
      · obtain ⟨k, hk, hkK⟩ := portK_of hb
        obtain ⟨S, hS⟩ : ∃ S, portS c port = S := ⟨_, rfl⟩
        have HPP := Lib.hid (pport_is c ⟨pa, pc, ca, cc, aa, ac, ba, bc⟩ port (k : Int) sp S true w3 HX3.out wx lx hp ⟨hkK, hpp, hS, hb⟩)
        simp only [cfgCells] at HPP
        obtain ⟨b, o, x0, x1, x2, x3, x4, x5, x6, e0, _, e1, _, k0⟩ := HX3.out.rc.at7 wx.wc hk
        cases e0
        have hac := (accd_of ha).chan k hk
        rw [row_at e1] at hac
        have hkind : x0 = 1 ∨ x0 = 2 := hac.1
        rw [hkK, Int.toNat_natCast, row_at e1, hS] at htk
        obtain ⟨hmd, hwd⟩ := talk_ok (show talkT x0 S x3 5 dn = 0 from htk)
        clear htk
        have g1 : (0 : Int) ≤ (k : Int) := by omega
        have g2 : (k : Int) < (c.chans.length : Int) := by omega
        have gp : (sp != sp) = false := by simp
        clear e1 hac hkK hS hb hpp HZ
        go_wp2_with fail
        refine HPP.out.mono ?_
        rintro e w4 ⟨rfl, hb4⟩
        have H4 := Lib.hid (H3.out.trans (hb4.mono H3.out.size))
        obtain ⟨y0, y1, y2, y3, y4, y5, y6⟩ := k0 _ hb4
        clear c0 c1 c2 c3 c4 c5 s0 s1 s2 s3 q0 q1 q2 q3
        obtain ⟨c0, c1, c2, c3, c4, c5⟩ := bx _ (BX _ H4.out)
        have s0 : w4.cell? ⟨sb, 0, none⟩ = some (.int .i64 sp) := cell_blk (sx _ (SX _ H4.out)) rfl
        have s1 : w4.cell? ⟨sb, 1, none⟩ = some (.bool true) := cell_blk (sx _ (SX _ H4.out)) rfl
        have s2 : w4.cell? ⟨sb, 2, none⟩ = some (.slice ma made.length mc) := cell_blk (sx _ (SX _ H4.out)) rfl
        have s3 : w4.cell? ⟨sb, 3, none⟩ = some (.slice va vn vc) := cell_blk (sx _ (SX _ H4.out)) rfl
        have q0 : w4.cell? ⟨qb, 0, none⟩ = some (.int .i64 5) := cell_blk (qx _ H4.out) rfl
        have q1 : w4.cell? ⟨qb, 1, none⟩ = some (.int .i64 port) := cell_blk (qx _ H4.out) rfl
        have q2 : w4.cell? ⟨qb, 2, none⟩ = some (.int .u64 ad) := cell_blk (qx _ H4.out) rfl
        have q3 : w4.cell? ⟨qb, 3, none⟩ = some (.slice da dn dc) := cell_blk (qx _ H4.out) rfl
        obtain ⟨V, hV⟩ : ∃ u, Hid (u = w4.alloc (.cells #[.int .i64 x0, .int .i64 x1, .int .i64 x2, .int .i64 x3, .int .i64 x4, .int .i64 x5, .int .u32 x6] 58)) := ⟨_, rfl⟩
        have hbV : Below w4.heap.size w4 V := by rw [hV.out]; exact (Below.refl _ _).alloc (Nat.le_refl _) _
        have hxV : V.heap[w4.heap.size]? = some (.cells #[.int .i64 x0, .int .i64 x1, .int .i64 x2, .int .i64 x3, .int .i64 x4, .int .i64 x5, .int .u32 x6] 58 (0, 0)) := by rw [hV.out]; exact heap_alloc_new _ _
        have HV := Lib.hid (H4.out.trans (hbV.mono H4.out.size))
        have v0 : V.cell? ⟨w4.heap.size, 0, none⟩ = some (.int .i64 x0) := cell_blk hxV rfl
        have v3 : V.cell? ⟨w4.heap.size, 3, none⟩ = some (.int .i64 x3) := cell_blk hxV rfl
        obtain ⟨c0v, c1v, c2v, c3v, c4v, c5v⟩ := bx _ (BX _ HV.out)
        have s0v : V.cell? ⟨sb, 0, none⟩ = some (.int .i64 sp) := cell_blk (sx _ (SX _ HV.out)) rfl
        have s1v : V.cell? ⟨sb, 1, none⟩ = some (.bool true) := cell_blk (sx _ (SX _ HV.out)) rfl
        have s2v : V.cell? ⟨sb, 2, none⟩ = some (.slice ma made.length mc) := cell_blk (sx _ (SX _ HV.out)) rfl
        have s3v : V.cell? ⟨sb, 3, none⟩ = some (.slice va vn vc) := cell_blk (sx _ (SX _ HV.out)) rfl
        have q0v : V.cell? ⟨qb, 0, none⟩ = some (.int .i64 5) := cell_blk (qx _ HV.out) rfl
        have q1v : V.cell? ⟨qb, 1, none⟩ = some (.int .i64 port) := cell_blk (qx _ HV.out) rfl
        have q2v : V.cell? ⟨qb, 2, none⟩ = some (.int .u64 ad) := cell_blk (qx _ HV.out) rfl
        have q3v : V.cell? ⟨qb, 3, none⟩ = some (.slice da dn dc) := cell_blk (qx _ HV.out) rfl
        clear hb4 hbV hxV k0
        cases S with
        | false =>
          rcases hkind with rfl | rfl
          · exact absurd hmd (by decide)
          · exact absurd hmd (by decide)
        | true =>
          rcases hkind with rfl | rfl
          · exact absurd hmd (by decide)
          · obtain ⟨hd1, hd2⟩ := hwd (by decide)
            have hd1i : (1 : Int) ≤ (dn : Int) := by omega
            have hd1d : decide ((1 : Int) ≤ (dn : Int)) = true := decide_eq_true hd1i
            have hd2d : decide ((dn : Int) ≤ x3) = true := decide_eq_true hd2
            clear hwd hmd
            go_wp2_with (rw [← hV.out])
            go_ret
            exact ⟨by first | rfl | simp, HB.out.trans (HV.out.mono HB.out.size)⟩
      · obtain ⟨k, hk, hkK⟩ := portK_of hb
        obtain ⟨S, hS⟩ : ∃ S, portS c port = S := ⟨_, rfl⟩
        have HPP := Lib.hid (pport_is c ⟨pa, pc, ca, cc, aa, ac, ba, bc⟩ port (k : Int) sp S true w3 HX3.out wx lx hp ⟨hkK, hpp, hS, hb⟩)
        simp only [cfgCells] at HPP
        obtain ⟨b, o, x0, x1, x2, x3, x4, x5, x6, e0, _, e1, _, k0⟩ := HX3.out.rc.at7 wx.wc hk
        cases e0
        have hac := (accd_of ha).chan k hk
        rw [row_at e1] at hac
        have hkind : x0 = 1 ∨ x0 = 2 := hac.1
        rw [hkK, Int.toNat_natCast, row_at e1, hS] at htk
        obtain ⟨hmd, hwd⟩ := talk_ok (show talkT x0 S x3 6 dn = 0 from htk)
        clear htk
        have g1 : (0 : Int) ≤ (k : Int) := by omega
        have g2 : (k : Int) < (c.chans.length : Int) := by omega
        have gp : (sp != sp) = false := by simp
        clear e1 hac hkK hS hb hpp HZ
        go_wp2_with fail
        refine HPP.out.mono ?_
        rintro e w4 ⟨rfl, hb4⟩
        have H4 := Lib.hid (H3.out.trans (hb4.mono H3.out.size))
        obtain ⟨y0, y1, y2, y3, y4, y5, y6⟩ := k0 _ hb4
        clear c0 c1 c2 c3 c4 c5 s0 s1 s2 s3 q0 q1 q2 q3
        obtain ⟨c0, c1, c2, c3, c4, c5⟩ := bx _ (BX _ H4.out)
        have s0 : w4.cell? ⟨sb, 0, none⟩ = some (.int .i64 sp) := cell_blk (sx _ (SX _ H4.out)) rfl
        have s1 : w4.cell? ⟨sb, 1, none⟩ = some (.bool true) := cell_blk (sx _ (SX _ H4.out)) rfl
        have s2 : w4.cell? ⟨sb, 2, none⟩ = some (.slice ma made.length mc) := cell_blk (sx _ (SX _ H4.out)) rfl
        have s3 : w4.cell? ⟨sb, 3, none⟩ = some (.slice va vn vc) := cell_blk (sx _ (SX _ H4.out)) rfl
        have q0 : w4.cell? ⟨qb, 0, none⟩ = some (.int .i64 6) := cell_blk (qx _ H4.out) rfl
        have q1 : w4.cell? ⟨qb, 1, none⟩ = some (.int .i64 port) := cell_blk (qx _ H4.out) rfl
        have q2 : w4.cell? ⟨qb, 2, none⟩ = some (.int .u64 ad) := cell_blk (qx _ H4.out) rfl
        have q3 : w4.cell? ⟨qb, 3, none⟩ = some (.slice da dn dc) := cell_blk (qx _ H4.out) rfl
        obtain ⟨V, hV⟩ : ∃ u, Hid (u = w4.alloc (.cells #[.int .i64 x0, .int .i64 x1, .int .i64 x2, .int .i64 x3, .int .i64 x4, .int .i64 x5, .int .u32 x6] 58)) := ⟨_, rfl⟩
        have hbV : Below w4.heap.size w4 V := by rw [hV.out]; exact (Below.refl _ _).alloc (Nat.le_refl _) _
        have hxV : V.heap[w4.heap.size]? = some (.cells #[.int .i64 x0, .int .i64 x1, .int .i64 x2, .int .i64 x3, .int .i64 x4, .int .i64 x5, .int .u32 x6] 58 (0, 0)) := by rw [hV.out]; exact heap_alloc_new _ _
        have HV := Lib.hid (H4.out.trans (hbV.mono H4.out.size))
        have v0 : V.cell? ⟨w4.heap.size, 0, none⟩ = some (.int .i64 x0) := cell_blk hxV rfl
        have v3 : V.cell? ⟨w4.heap.size, 3, none⟩ = some (.int .i64 x3) := cell_blk hxV rfl
        obtain ⟨c0v, c1v, c2v, c3v, c4v, c5v⟩ := bx _ (BX _ HV.out)
        have s0v : V.cell? ⟨sb, 0, none⟩ = some (.int .i64 sp) := cell_blk (sx _ (SX _ HV.out)) rfl
        have s1v : V.cell? ⟨sb, 1, none⟩ = some (.bool true) := cell_blk (sx _ (SX _ HV.out)) rfl
        have s2v : V.cell? ⟨sb, 2, none⟩ = some (.slice ma made.length mc) := cell_blk (sx _ (SX _ HV.out)) rfl
        have s3v : V.cell? ⟨sb, 3, none⟩ = some (.slice va vn vc) := cell_blk (sx _ (SX _ HV.out)) rfl
        have q0v : V.cell? ⟨qb, 0, none⟩ = some (.int .i64 6) := cell_blk (qx _ HV.out) rfl
        have q1v : V.cell? ⟨qb, 1, none⟩ = some (.int .i64 port) := cell_blk (qx _ HV.out) rfl
        have q2v : V.cell? ⟨qb, 2, none⟩ = some (.int .u64 ad) := cell_blk (qx _ HV.out) rfl
        have q3v : V.cell? ⟨qb, 3, none⟩ = some (.slice da dn dc) := cell_blk (qx _ HV.out) rfl
        clear hb4 hbV hxV k0
        cases S with
        | false =>
          rcases hkind with rfl | rfl
          · exact absurd hmd (by decide)
          · clear hwd hmd
            go_wp2_with (rw [← hV.out])
            go_ret
            exact ⟨by first | rfl | simp, HB.out.trans (HV.out.mono HB.out.size)⟩
        | true =>
          rcases hkind with rfl | rfl
          · exact absurd hmd (by decide)
          · exact absurd hmd (by decide)
      · obtain ⟨k, hk, hkK⟩ := portK_of hb
        obtain ⟨S, hS⟩ : ∃ S, portS c port = S := ⟨_, rfl⟩
        have HPP := Lib.hid (pport_is c ⟨pa, pc, ca, cc, aa, ac, ba, bc⟩ port (k : Int) sp S true w3 HX3.out wx lx hp ⟨hkK, hpp, hS, hb⟩)
        simp only [cfgCells] at HPP
        obtain ⟨b, o, x0, x1, x2, x3, x4, x5, x6, e0, _, e1, _, k0⟩ := HX3.out.rc.at7 wx.wc hk
        cases e0
        have hac := (accd_of ha).chan k hk
        rw [row_at e1] at hac
        have hkind : x0 = 1 ∨ x0 = 2 := hac.1
        rw [hkK, Int.toNat_natCast, row_at e1, hS] at htk
        obtain ⟨hmd, hwd⟩ := talk_ok (show talkT x0 S x3 7 dn = 0 from htk)
        clear htk
        have g1 : (0 : Int) ≤ (k : Int) := by omega
        have g2 : (k : Int) < (c.chans.length : Int) := by omega
        have gp : (sp != sp) = false := by simp
        clear e1 hac hkK hS hb hpp HZ
        go_wp2_with fail
        refine HPP.out.mono ?_
        rintro e w4 ⟨rfl, hb4⟩
        have H4 := Lib.hid (H3.out.trans (hb4.mono H3.out.size))
        obtain ⟨y0, y1, y2, y3, y4, y5, y6⟩ := k0 _ hb4
        clear c0 c1 c2 c3 c4 c5 s0 s1 s2 s3 q0 q1 q2 q3
        obtain ⟨c0, c1, c2, c3, c4, c5⟩ := bx _ (BX _ H4.out)
        have s0 : w4.cell? ⟨sb, 0, none⟩ = some (.int .i64 sp) := cell_blk (sx _ (SX _ H4.out)) rfl
        have s1 : w4.cell? ⟨sb, 1, none⟩ = some (.bool true) := cell_blk (sx _ (SX _ H4.out)) rfl
        have s2 : w4.cell? ⟨sb, 2, none⟩ = some (.slice ma made.length mc) := cell_blk (sx _ (SX _ H4.out)) rfl
        have s3 : w4.cell? ⟨sb, 3, none⟩ = some (.slice va vn vc) := cell_blk (sx _ (SX _ H4.out)) rfl
        have q0 : w4.cell? ⟨qb, 0, none⟩ = some (.int .i64 7) := cell_blk (qx _ H4.out) rfl
        have q1 : w4.cell? ⟨qb, 1, none⟩ = some (.int .i64 port) := cell_blk (qx _ H4.out) rfl
        have q2 : w4.cell? ⟨qb, 2, none⟩ = some (.int .u64 ad) := cell_blk (qx _ H4.out) rfl
        have q3 : w4.cell? ⟨qb, 3, none⟩ = some (.slice da dn dc) := cell_blk (qx _ H4.out) rfl
        obtain ⟨V, hV⟩ : ∃ u, Hid (u = w4.alloc (.cells #[.int .i64 x0, .int .i64 x1, .int .i64 x2, .int .i64 x3, .int .i64 x4, .int .i64 x5, .int .u32 x6] 58)) := ⟨_, rfl⟩
        have hbV : Below w4.heap.size w4 V := by rw [hV.out]; exact (Below.refl _ _).alloc (Nat.le_refl _) _
        have hxV : V.heap[w4.heap.size]? = some (.cells #[.int .i64 x0, .int .i64 x1, .int .i64 x2, .int .i64 x3, .int .i64 x4, .int .i64 x5, .int .u32 x6] 58 (0, 0)) := by rw [hV.out]; exact heap_alloc_new _ _
        have HV := Lib.hid (H4.out.trans (hbV.mono H4.out.size))
        have v0 : V.cell? ⟨w4.heap.size, 0, none⟩ = some (.int .i64 x0) := cell_blk hxV rfl
        have v3 : V.cell? ⟨w4.heap.size, 3, none⟩ = some (.int .i64 x3) := cell_blk hxV rfl
        obtain ⟨c0v, c1v, c2v, c3v, c4v, c5v⟩ := bx _ (BX _ HV.out)
        have s0v : V.cell? ⟨sb, 0, none⟩ = some (.int .i64 sp) := cell_blk (sx _ (SX _ HV.out)) rfl
        have s1v : V.cell? ⟨sb, 1, none⟩ = some (.bool true) := cell_blk (sx _ (SX _ HV.out)) rfl
        have s2v : V.cell? ⟨sb, 2, none⟩ = some (.slice ma made.length mc) := cell_blk (sx _ (SX _ HV.out)) rfl
        have s3v : V.cell? ⟨sb, 3, none⟩ = some (.slice va vn vc) := cell_blk (sx _ (SX _ HV.out)) rfl
        have q0v : V.cell? ⟨qb, 0, none⟩ = some (.int .i64 7) := cell_blk (qx _ HV.out) rfl
        have q1v : V.cell? ⟨qb, 1, none⟩ = some (.int .i64 port) := cell_blk (qx _ HV.out) rfl
        have q2v : V.cell? ⟨qb, 2, none⟩ = some (.int .u64 ad) := cell_blk (qx _ HV.out) rfl
        have q3v : V.cell? ⟨qb, 3, none⟩ = some (.slice da dn dc) := cell_blk (qx _ HV.out) rfl
        clear hb4 hbV hxV k0
        go_wp2_with (rw [← hV.out])
        go_ret
        exact ⟨by first | rfl | simp, HB.out.trans (HV.out.mono HB.out.size)⟩
    · have hzn : (z != 0) = true := by simpa using hz
      clear hz
      go_wp2
      go_ret
      exact ⟨by first | rfl | simp, HB.out.trans (H3.out.mono HB.out.size)⟩
  · have HG := Lib.hid (great_is c ⟨pa, pc, ca, cc, aa, ac, ba, bc⟩ true w1 (by rw [Bool.not_eq_true] at hg; rw [hg]; rfl))
    simp only [cfgCells] at HG
    clear hg
    go_wp2_with fail
    refine HG.out.mono ?_
    rintro e w2 ⟨rfl, hb2⟩
    have H2 := Lib.hid (H1.out.trans (hb2.mono H1.out.size))
    have HX2 := Lib.hid (HX1.out.later hb2)
    have HS2 := Lib.hid ((HS1.out.below hb2).more hb2.size)
    clear hb2
    clear c0 c1 c2 c3 c4 c5 s0 s1 s2 s3 q0 q1 q2 q3
    obtain ⟨c0, c1, c2, c3, c4, c5⟩ := bx _ (BX _ H2.out)
    have s0 : w2.cell? ⟨sb, 0, none⟩ = some (.int .i64 sp) := cell_blk (sx _ (SX _ H2.out)) rfl
    have s1 : w2.cell? ⟨sb, 1, none⟩ = some (.bool sn) := cell_blk (sx _ (SX _ H2.out)) rfl
    have s2 : w2.cell? ⟨sb, 2, none⟩ = some (.slice ma made.length mc) := cell_blk (sx _ (SX _ H2.out)) rfl
    have s3 : w2.cell? ⟨sb, 3, none⟩ = some (.slice va vn vc) := cell_blk (sx _ (SX _ H2.out)) rfl
    have q0 : w2.cell? ⟨qb, 0, none⟩ = some (.int .i64 op) := cell_blk (qx _ H2.out) rfl
    have q1 : w2.cell? ⟨qb, 1, none⟩ = some (.int .i64 port) := cell_blk (qx _ H2.out) rfl
    have q2 : w2.cell? ⟨qb, 2, none⟩ = some (.int .u64 ad) := cell_blk (qx _ H2.out) rfl
    have q3 : w2.cell? ⟨qb, 3, none⟩ = some (.slice da dn dc) := cell_blk (qx _ H2.out) rfl
    go_wp2
    go_ret
    exact ⟨rfl, HB.out.trans (H2.out.mono HB.out.size)⟩
end Go.Proofs.YtnemabgenaijhaaDoor
