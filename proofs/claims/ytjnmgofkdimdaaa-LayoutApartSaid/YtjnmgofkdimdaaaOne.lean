/- The functions of layer 1, and the document's own answers beside them, each as a contract: what it answers, in plain numbers; of what was there before the call nothing turns. No condition but those in the statements. -/
import Derived.Test.YtjnmgofkdimdaaaOnePure
import Derived.Test.YtjnmgofkdimdaaaProg
import Derived.IntWalk
namespace Go.Proofs.Ytjnmgofkdimdaaa
namespace One
open Go.RowKit Go.Sort
set_option linter.unusedVariables false
set_option linter.unusedSimpArgs false

theorem right_b (f s : Int) (w : World) :
    Calls Try.prog 57 #[.agg #[.int .i64 f, .int .i64 s]] w fun e w' => e = .returned (.bool (rightB f s)) ∧ Below w.heap.size w w' := by
  by_cases h1 : 0 ≤ f
  · by_cases h2 : f ≤ 2147483647
    · by_cases h3 : 0 ≤ s
      · by_cases h4 : s ≤ 2147483647 - f
        · rw [rightB_yes.2 ⟨h1, h2, h3, by omega⟩]
          go_enter Try.func57, Try.ntmps57
          go_wp2
          go_ret
          exact ⟨rfl, (Below.refl _ _).alloc (Nat.le_refl _) _⟩
        · rw [rightB_no.2 (by omega)]
          go_enter Try.func57, Try.ntmps57
          go_wp2
          go_ret
          exact ⟨rfl, (Below.refl _ _).alloc (Nat.le_refl _) _⟩
      · rw [rightB_no.2 (by omega)]
        go_enter Try.func57, Try.ntmps57
        go_wp2
        go_ret
        exact ⟨rfl, (Below.refl _ _).alloc (Nat.le_refl _) _⟩
    · rw [rightB_no.2 (by omega)]
      go_enter Try.func57, Try.ntmps57
      go_wp2
      go_ret
      exact ⟨rfl, (Below.refl _ _).alloc (Nat.le_refl _) _⟩
  · rw [rightB_no.2 (by omega)]
    go_enter Try.func57, Try.ntmps57
    go_wp2
    go_ret
    exact ⟨rfl, (Below.refl _ _).alloc (Nat.le_refl _) _⟩

theorem rright_b (f s : Int) (w : World) :
    Calls Try.prog 49 #[.agg #[.int .i64 f, .int .i64 s]] w fun e w' => e = .returned (.bool (rightB f s)) ∧ Below w.heap.size w w' := by
  by_cases h1 : 0 ≤ f
  · by_cases h2 : f ≤ 2147483647
    · by_cases h3 : 0 ≤ s
      · by_cases h5 : s ≤ 2147483647
        · by_cases h4 : f + s ≤ 2147483647
          · rw [rightB_yes.2 ⟨h1, h2, h3, by omega⟩]
            go_enter Try.func49, Try.ntmps49
            go_wp2
            go_ret
            exact ⟨rfl, (Below.refl _ _).alloc (Nat.le_refl _) _⟩
          · rw [rightB_no.2 (by omega)]
            go_enter Try.func49, Try.ntmps49
            go_wp2
            go_ret
            exact ⟨rfl, (Below.refl _ _).alloc (Nat.le_refl _) _⟩
        · rw [rightB_no.2 (by omega)]
          go_enter Try.func49, Try.ntmps49
          go_wp2
          go_ret
          exact ⟨rfl, (Below.refl _ _).alloc (Nat.le_refl _) _⟩
      · rw [rightB_no.2 (by omega)]
        go_enter Try.func49, Try.ntmps49
        go_wp2
        go_ret
        exact ⟨rfl, (Below.refl _ _).alloc (Nat.le_refl _) _⟩
    · rw [rightB_no.2 (by omega)]
      go_enter Try.func49, Try.ntmps49
      go_wp2
      go_ret
      exact ⟨rfl, (Below.refl _ _).alloc (Nat.le_refl _) _⟩
  · rw [rightB_no.2 (by omega)]
    go_enter Try.func49, Try.ntmps49
    go_wp2
    go_ret
    exact ⟨rfl, (Below.refl _ _).alloc (Nat.le_refl _) _⟩

theorem end_b (f s : Int) (w : World) (h : rightB f s = true) :
    Calls Try.prog 61 #[.agg #[.int .i64 f, .int .i64 s]] w fun e w' => e = .returned (.int .i64 (f + s)) ∧ Below w.heap.size w w' := by
  obtain ⟨h1, h2, h3, h4⟩ := rightB_yes.1 h
  clear h
  go_enter Try.func61, Try.ntmps61
  go_wp2
  go_ret
  exact ⟨rfl, (Below.refl _ _).alloc (Nat.le_refl _) _⟩

theorem filled_b (f s : Int) (w : World) :
    Calls Try.prog 43 #[.agg #[.int .i64 f, .int .i64 s]] w fun e w' => e = .returned (.bool (filledB f s)) ∧ Below w.heap.size w w' := by
  obtain ⟨W, HW, hbw, hsz, k0, k1⟩ := one_box w (.int .i64 f) (.int .i64 s) 36
  by_cases hr : rightB f s = true
  · rw [show filledB f s = decide (0 < s) by unfold filledB; simp [hr]]
    go_enter Try.func43, Try.ntmps43
    have hbc := Below.refl W.heap.size W
    go_wp2_with ((try rw [← HW.out]); (first | with_reducible refine wpList_on hbc ?_ | with_reducible refine wp_on hbc (by kernel_rfl) (by kernel_rfl) ?_); (repeat (go_big_quiet_step (first | exact regrown_is (by assumption) (right_b _ _ _) | exact Calls.regrown_of (right_b _ _ _)))); with_reducible refine wpQuiet_nil ?_; intro wc hbc)
    go_ret
    exact ⟨by simp [*], hbw.trans (hbc.mono (by omega))⟩
  · have hr' : rightB f s = false := by simpa using hr
    rw [show filledB f s = false by unfold filledB; simp [hr']]
    go_enter Try.func43, Try.ntmps43
    have hbc := Below.refl W.heap.size W
    go_wp2_with ((try rw [← HW.out]); (first | with_reducible refine wpList_on hbc ?_ | with_reducible refine wp_on hbc (by kernel_rfl) (by kernel_rfl) ?_); (repeat (go_big_quiet_step (first | exact regrown_is (by assumption) (right_b _ _ _) | exact Calls.regrown_of (right_b _ _ _)))); with_reducible refine wpQuiet_nil ?_; intro wc hbc)
    go_ret
    exact ⟨by simp [*], hbw.trans (hbc.mono (by omega))⟩

theorem has_b (f s x : Int) (w : World) :
    Calls Try.prog 51 #[.agg #[.int .i64 f, .int .i64 s], .int .i64 x] w fun e w' => e = .returned (.bool (hasB f s x)) ∧ Below w.heap.size w w' := by
  obtain ⟨W, HW, hbw, hsz, k0, k1⟩ := one_box w (.int .i64 f) (.int .i64 s) 36
  by_cases hr : rightB f s = true
  · by_cases h0 : f ≤ x
    · rw [show hasB f s x = decide (x < f + s) by unfold hasB; simp [hr, h0]]
      go_enter Try.func51, Try.ntmps51
      have hbc := Below.refl W.heap.size W
      go_wp2_with ((try rw [← HW.out]); (first | with_reducible refine wpList_on hbc ?_ | with_reducible refine wp_on hbc (by kernel_rfl) (by kernel_rfl) ?_); (repeat (go_big_quiet_step (first | exact regrown_is (by assumption) (right_b _ _ _) | exact Calls.regrown_of (right_b _ _ _) | exact Calls.regrown_of (end_b _ _ _ (by assumption))))); with_reducible refine wpQuiet_nil ?_; intro wc hbc)
      go_ret
      exact ⟨by simp [*], hbw.trans (hbc.mono (by omega))⟩
    · rw [(bool_of hasB_yes).2 (by omega)]
      have h0' : decide (f ≤ x) = false := by simpa using h0
      go_enter Try.func51, Try.ntmps51
      have hbc := Below.refl W.heap.size W
      go_wp2_with ((try rw [← HW.out]); (first | with_reducible refine wpList_on hbc ?_ | with_reducible refine wp_on hbc (by kernel_rfl) (by kernel_rfl) ?_); (repeat (go_big_quiet_step (first | exact regrown_is (by assumption) (right_b _ _ _) | exact Calls.regrown_of (right_b _ _ _) | exact Calls.regrown_of (end_b _ _ _ (by assumption))))); with_reducible refine wpQuiet_nil ?_; intro wc hbc)
      go_ret
      exact ⟨by simp [*], hbw.trans (hbc.mono (by omega))⟩
  · have hr' : rightB f s = false := by simpa using hr
    rw [show hasB f s x = false by unfold hasB; simp [hr']]
    go_enter Try.func51, Try.ntmps51
    have hbc := Below.refl W.heap.size W
    go_wp2_with ((try rw [← HW.out]); (first | with_reducible refine wpList_on hbc ?_ | with_reducible refine wp_on hbc (by kernel_rfl) (by kernel_rfl) ?_); (repeat (go_big_quiet_step (first | exact regrown_is (by assumption) (right_b _ _ _) | exact Calls.regrown_of (right_b _ _ _) | exact Calls.regrown_of (end_b _ _ _ (by assumption))))); with_reducible refine wpQuiet_nil ?_; intro wc hbc)
    go_ret
    exact ⟨by simp [*], hbw.trans (hbc.mono (by omega))⟩

theorem rhas_b (f s x : Int) (w : World) :
    Calls Try.prog 48 #[.agg #[.int .i64 f, .int .i64 s], .int .i64 x] w fun e w' => e = .returned (.bool (hasB f s x)) ∧ Below w.heap.size w w' := by
  obtain ⟨W, HW, hbw, hsz, k0, k1⟩ := one_box w (.int .i64 f) (.int .i64 s) 36
  by_cases hr : rightB f s = true
  · have hb := rightB_yes.1 hr
    by_cases h0 : f ≤ x
    · by_cases h2 : x ≤ 2147483647
      · rw [show hasB f s x = decide (x - f < s) by rw [Bool.eq_iff_iff, hasB_yes, decide_eq_true_iff]; omega]
        obtain ⟨b1, b2, b3, b4⟩ := hb
        go_enter Try.func48, Try.ntmps48
        have hbc := Below.refl W.heap.size W
        go_wp2_with ((try rw [← HW.out]); (first | with_reducible refine wpList_on hbc ?_ | with_reducible refine wp_on hbc (by kernel_rfl) (by kernel_rfl) ?_); (repeat (go_big_quiet_step (first | exact regrown_is (by assumption) (rright_b _ _ _) | exact Calls.regrown_of (rright_b _ _ _)))); with_reducible refine wpQuiet_nil ?_; intro wc hbc)
        go_ret
        exact ⟨by simp, hbw.trans (hbc.mono (by omega))⟩
      · rw [(bool_of hasB_yes).2 (by omega)]
        have h2' : decide (x ≤ 2147483647) = false := by simpa using h2
        clear hb
        go_enter Try.func48, Try.ntmps48
        have hbc := Below.refl W.heap.size W
        go_wp2_with ((try rw [← HW.out]); (first | with_reducible refine wpList_on hbc ?_ | with_reducible refine wp_on hbc (by kernel_rfl) (by kernel_rfl) ?_); (repeat (go_big_quiet_step (first | exact regrown_is (by assumption) (rright_b _ _ _) | exact Calls.regrown_of (rright_b _ _ _)))); with_reducible refine wpQuiet_nil ?_; intro wc hbc)
        go_ret
        exact ⟨by simp [*], hbw.trans (hbc.mono (by omega))⟩
    · rw [(bool_of hasB_yes).2 (by omega)]
      have h0' : decide (f ≤ x) = false := by simpa using h0
      clear hb
      go_enter Try.func48, Try.ntmps48
      have hbc := Below.refl W.heap.size W
      go_wp2_with ((try rw [← HW.out]); (first | with_reducible refine wpList_on hbc ?_ | with_reducible refine wp_on hbc (by kernel_rfl) (by kernel_rfl) ?_); (repeat (go_big_quiet_step (first | exact regrown_is (by assumption) (rright_b _ _ _) | exact Calls.regrown_of (rright_b _ _ _)))); with_reducible refine wpQuiet_nil ?_; intro wc hbc)
      go_ret
      exact ⟨by simp [*], hbw.trans (hbc.mono (by omega))⟩
  · have hr' : rightB f s = false := by simpa using hr
    rw [show hasB f s x = false by unfold hasB; simp [hr']]
    go_enter Try.func48, Try.ntmps48
    have hbc := Below.refl W.heap.size W
    go_wp2_with ((try rw [← HW.out]); (first | with_reducible refine wpList_on hbc ?_ | with_reducible refine wp_on hbc (by kernel_rfl) (by kernel_rfl) ?_); (repeat (go_big_quiet_step (first | exact regrown_is (by assumption) (rright_b _ _ _) | exact Calls.regrown_of (rright_b _ _ _)))); with_reducible refine wpQuiet_nil ?_; intro wc hbc)
    go_ret
    exact ⟨by simp [*], hbw.trans (hbc.mono (by omega))⟩

theorem meets_b (f s g t : Int) (w : World) :
    Calls Try.prog 47 #[.agg #[.int .i64 f, .int .i64 s], .agg #[.int .i64 g, .int .i64 t]] w fun e w' => e = .returned (.bool (meetsB f s g t)) ∧ Below w.heap.size w w' := by
  obtain ⟨W, HW, hbw, hsz, k0, k1, k2, k3⟩ := two_boxes w (.int .i64 f) (.int .i64 s) (.int .i64 g) (.int .i64 t) 36 36
  by_cases ha : filledB f s = true
  · have hra : rightB f s = true := rightB_yes.2 (filledB_yes.1 ha).1
    by_cases hb : filledB g t = true
    · have hrb : rightB g t = true := rightB_yes.2 (filledB_yes.1 hb).1
      by_cases h1 : f < g + t
      · rw [show meetsB f s g t = decide (g < f + s) by unfold meetsB; simp [ha, hb, h1]]
        go_enter Try.func47, Try.ntmps47
        have hbc := Below.refl W.heap.size W
        go_wp2_with ((try rw [← HW.out]); (first | with_reducible refine wpList_on hbc ?_ | with_reducible refine wp_on hbc (by kernel_rfl) (by kernel_rfl) ?_); (repeat (go_big_quiet_step (first | exact regrown_is (by assumption) (filled_b _ _ _) | exact Calls.regrown_of (filled_b _ _ _) | exact Calls.regrown_of (end_b _ _ _ (by assumption))))); with_reducible refine wpQuiet_nil ?_; intro wc hbc)
        go_ret
        exact ⟨by simp [*], hbw.trans (hbc.mono (by omega))⟩
      · rw [(bool_of meetsB_yes).2 (by omega)]
        have h1' : decide (f < g + t) = false := by simpa using h1
        go_enter Try.func47, Try.ntmps47
        have hbc := Below.refl W.heap.size W
        go_wp2_with ((try rw [← HW.out]); (first | with_reducible refine wpList_on hbc ?_ | with_reducible refine wp_on hbc (by kernel_rfl) (by kernel_rfl) ?_); (repeat (go_big_quiet_step (first | exact regrown_is (by assumption) (filled_b _ _ _) | exact Calls.regrown_of (filled_b _ _ _) | exact Calls.regrown_of (end_b _ _ _ (by assumption))))); with_reducible refine wpQuiet_nil ?_; intro wc hbc)
        go_ret
        exact ⟨by simp [*], hbw.trans (hbc.mono (by omega))⟩
    · rw [(bool_of meetsB_yes).2 (fun h => hb h.1.2)]
      have hb' : filledB g t = false := by simpa using hb
      go_enter Try.func47, Try.ntmps47
      have hbc := Below.refl W.heap.size W
      go_wp2_with ((try rw [← HW.out]); (first | with_reducible refine wpList_on hbc ?_ | with_reducible refine wp_on hbc (by kernel_rfl) (by kernel_rfl) ?_); (repeat (go_big_quiet_step (first | exact regrown_is (by assumption) (filled_b _ _ _) | exact Calls.regrown_of (filled_b _ _ _) | exact Calls.regrown_of (end_b _ _ _ (by assumption))))); with_reducible refine wpQuiet_nil ?_; intro wc hbc)
      go_ret
      exact ⟨by simp [*], hbw.trans (hbc.mono (by omega))⟩
  · rw [(bool_of meetsB_yes).2 (fun h => ha h.1.1)]
    have ha' : filledB f s = false := by simpa using ha
    go_enter Try.func47, Try.ntmps47
    have hbc := Below.refl W.heap.size W
    go_wp2_with ((try rw [← HW.out]); (first | with_reducible refine wpList_on hbc ?_ | with_reducible refine wp_on hbc (by kernel_rfl) (by kernel_rfl) ?_); (repeat (go_big_quiet_step (first | exact regrown_is (by assumption) (filled_b _ _ _) | exact Calls.regrown_of (filled_b _ _ _) | exact Calls.regrown_of (end_b _ _ _ (by assumption))))); with_reducible refine wpQuiet_nil ?_; intro wc hbc)
    go_ret
    exact ⟨by simp [*], hbw.trans (hbc.mono (by omega))⟩

theorem rmeets_b (f s g t : Int) (w : World) :
    Calls Try.prog 50 #[.agg #[.int .i64 f, .int .i64 s], .agg #[.int .i64 g, .int .i64 t]] w fun e w' => e = .returned (.bool (meetsB f s g t)) ∧ Below w.heap.size w w' := by
  obtain ⟨W, HW, hbw, hsz, k0, k1, k2, k3⟩ := two_boxes w (.int .i64 f) (.int .i64 s) (.int .i64 g) (.int .i64 t) 36 36
  rw [meetsB_has]
  by_cases ha : filledB f s = true
  · have ha2 : hasB f s f = true := by rw [hasB_own]; exact ha
    by_cases hb : filledB g t = true
    · have hb2 : hasB g t g = true := by rw [hasB_own]; exact hb
      by_cases h1 : hasB f s g = true
      · rw [ha, hb, h1]
        go_enter Try.func50, Try.ntmps50
        have hbc := Below.refl W.heap.size W
        go_wp2_with ((try rw [← HW.out]); (first | with_reducible refine wpList_on hbc ?_ | with_reducible refine wp_on hbc (by kernel_rfl) (by kernel_rfl) ?_); (repeat (go_big_quiet_step (first | exact regrown_is (by assumption) (rhas_b _ _ _ _) | exact Calls.regrown_of (rhas_b _ _ _ _)))); with_reducible refine wpQuiet_nil ?_; intro wc hbc)
        go_ret
        exact ⟨by simp, hbw.trans (hbc.mono (by omega))⟩
      · have h1' : hasB f s g = false := by simpa using h1
        rw [ha, hb, h1']
        go_enter Try.func50, Try.ntmps50
        have hbc := Below.refl W.heap.size W
        go_wp2_with ((try rw [← HW.out]); (first | with_reducible refine wpList_on hbc ?_ | with_reducible refine wp_on hbc (by kernel_rfl) (by kernel_rfl) ?_); (repeat (go_big_quiet_step (first | exact regrown_is (by assumption) (rhas_b _ _ _ _) | exact Calls.regrown_of (rhas_b _ _ _ _)))); with_reducible refine wpQuiet_nil ?_; intro wc hbc)
        go_ret
        exact ⟨by simp, hbw.trans (hbc.mono (by omega))⟩
    · have hb' : filledB g t = false := by simpa using hb
      have hb2 : hasB g t g = false := by rw [hasB_own]; exact hb'
      rw [ha, hb']
      go_enter Try.func50, Try.ntmps50
      have hbc := Below.refl W.heap.size W
      go_wp2_with ((try rw [← HW.out]); (first | with_reducible refine wpList_on hbc ?_ | with_reducible refine wp_on hbc (by kernel_rfl) (by kernel_rfl) ?_); (repeat (go_big_quiet_step (first | exact regrown_is (by assumption) (rhas_b _ _ _ _) | exact Calls.regrown_of (rhas_b _ _ _ _)))); with_reducible refine wpQuiet_nil ?_; intro wc hbc)
      go_ret
      exact ⟨by simp, hbw.trans (hbc.mono (by omega))⟩
  · have ha' : filledB f s = false := by simpa using ha
    have ha2 : hasB f s f = false := by rw [hasB_own]; exact ha'
    rw [ha']
    go_enter Try.func50, Try.ntmps50
    have hbc := Below.refl W.heap.size W
    go_wp2_with ((try rw [← HW.out]); (first | with_reducible refine wpList_on hbc ?_ | with_reducible refine wp_on hbc (by kernel_rfl) (by kernel_rfl) ?_); (repeat (go_big_quiet_step (first | exact regrown_is (by assumption) (rhas_b _ _ _ _) | exact Calls.regrown_of (rhas_b _ _ _ _)))); with_reducible refine wpQuiet_nil ?_; intro wc hbc)
    go_ret
    exact ⟨by simp, hbw.trans (hbc.mono (by omega))⟩

theorem inB_no {f s g t : Int} (h : filledB f s = true) (h1 : ¬ (rightB g t = true ∧ g ≤ f ∧ f + s ≤ g + t)) : inB f s g t = false :=
  (bool_of inB_yes).2 (fun k => h1 (k h))

theorem rin_b (f s g t : Int) (w : World) :
    Calls Try.prog 27 #[.agg #[.int .i64 f, .int .i64 s], .agg #[.int .i64 g, .int .i64 t]] w fun e w' => e = .returned (.bool (inB f s g t)) ∧ Below w.heap.size w w' := by
  obtain ⟨W, HW, hbw, hsz, k0, k1, k2, k3⟩ := two_boxes w (.int .i64 f) (.int .i64 s) (.int .i64 g) (.int .i64 t) 36 36
  by_cases ha : filledB f s = true
  · have ha2 : hasB f s f = true := by rw [hasB_own]; exact ha
    obtain ⟨⟨a1, a2, a3, a4⟩, a5⟩ := filledB_yes.1 ha
    by_cases hb : rightB g t = true
    · obtain ⟨b1, b2, b3, b4⟩ := rightB_yes.1 hb
      by_cases h1 : g ≤ f
      · rw [show inB f s g t = decide (f + s ≤ g + t) by unfold inB; simp [ha, hb, h1]]
        go_enter Try.func27, Try.ntmps27
        have hbc := Below.refl W.heap.size W
        go_wp2_with ((try rw [← HW.out]); (first | with_reducible refine wpList_on hbc ?_ | with_reducible refine wp_on hbc (by kernel_rfl) (by kernel_rfl) ?_); (repeat (go_big_quiet_step (first | exact regrown_is (by assumption) (rhas_b _ _ _ _) | exact Calls.regrown_of (rhas_b _ _ _ _) | exact regrown_is (by assumption) (rright_b _ _ _) | exact Calls.regrown_of (rright_b _ _ _)))); with_reducible refine wpQuiet_nil ?_; intro wc hbc)
        go_ret
        exact ⟨by simp, hbw.trans (hbc.mono (by omega))⟩
      · rw [inB_no ha (fun k => h1 k.2.1)]
        have h1' : decide (g ≤ f) = false := by simpa using h1
        go_enter Try.func27, Try.ntmps27
        have hbc := Below.refl W.heap.size W
        go_wp2_with ((try rw [← HW.out]); (first | with_reducible refine wpList_on hbc ?_ | with_reducible refine wp_on hbc (by kernel_rfl) (by kernel_rfl) ?_); (repeat (go_big_quiet_step (first | exact regrown_is (by assumption) (rhas_b _ _ _ _) | exact Calls.regrown_of (rhas_b _ _ _ _) | exact regrown_is (by assumption) (rright_b _ _ _) | exact Calls.regrown_of (rright_b _ _ _)))); with_reducible refine wpQuiet_nil ?_; intro wc hbc)
        go_ret
        exact ⟨by simp, hbw.trans (hbc.mono (by omega))⟩
    · rw [inB_no ha (fun k => hb k.1)]
      have hb' : rightB g t = false := by simpa using hb
      go_enter Try.func27, Try.ntmps27
      have hbc := Below.refl W.heap.size W
      go_wp2_with ((try rw [← HW.out]); (first | with_reducible refine wpList_on hbc ?_ | with_reducible refine wp_on hbc (by kernel_rfl) (by kernel_rfl) ?_); (repeat (go_big_quiet_step (first | exact regrown_is (by assumption) (rhas_b _ _ _ _) | exact Calls.regrown_of (rhas_b _ _ _ _) | exact regrown_is (by assumption) (rright_b _ _ _) | exact Calls.regrown_of (rright_b _ _ _)))); with_reducible refine wpQuiet_nil ?_; intro wc hbc)
      go_ret
      exact ⟨by simp, hbw.trans (hbc.mono (by omega))⟩
  · have ha' : filledB f s = false := by simpa using ha
    have ha2 : hasB f s f = false := by rw [hasB_own]; exact ha'
    rw [inB_yes.2 (fun h => absurd h ha)]
    go_enter Try.func27, Try.ntmps27
    have hbc := Below.refl W.heap.size W
    go_wp2_with ((try rw [← HW.out]); (first | with_reducible refine wpList_on hbc ?_ | with_reducible refine wp_on hbc (by kernel_rfl) (by kernel_rfl) ?_); (repeat (go_big_quiet_step (first | exact regrown_is (by assumption) (rhas_b _ _ _ _) | exact Calls.regrown_of (rhas_b _ _ _ _) | exact regrown_is (by assumption) (rright_b _ _ _) | exact Calls.regrown_of (rright_b _ _ _)))); with_reducible refine wpQuiet_nil ?_; intro wc hbc)
    go_ret
    exact ⟨by simp, hbw.trans (hbc.mono (by omega))⟩
end One
end Go.Proofs.Ytjnmgofkdimdaaa
