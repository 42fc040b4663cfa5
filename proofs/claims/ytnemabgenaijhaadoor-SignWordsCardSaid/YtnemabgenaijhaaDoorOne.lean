/- The functions of layer 1, and the document's own answers beside them, each as a contract: what it answers, in plain numbers; of what was there before the call nothing turns. No condition but those in the statements. -/
import Derived.Test.YtnemabgenaijhaaDoorOnePure
import Derived.Test.YtnemabgenaijhaaDoorProg
import Derived.IntWalk
namespace Go.Proofs.YtnemabgenaijhaaDoor
namespace One
open Go.RowKit Go.Sort
set_option linter.unusedVariables false
set_option linter.unusedSimpArgs false

theorem right_b (f s : Int) (w : World) :
    Calls Tryd.prog 63 #[.agg #[.int .i64 f, .int .i64 s]] w fun e w' => e = .returned (.bool (rightB f s)) ∧ Below w.heap.size w w' := by
  by_cases h1 : 0 ≤ f
  · by_cases h2 : f ≤ 2147483647
    · by_cases h3 : 0 ≤ s
      · by_cases h4 : s ≤ 2147483647 - f
        · rw [rightB_yes.2 ⟨h1, h2, h3, by omega⟩]
          go_enter Tryd.func63, Tryd.ntmps63
          go_wp2
          go_ret
          exact ⟨rfl, (Below.refl _ _).alloc (Nat.le_refl _) _⟩
        · rw [rightB_no.2 (by omega)]
          go_enter Tryd.func63, Tryd.ntmps63
          go_wp2
          go_ret
          exact ⟨rfl, (Below.refl _ _).alloc (Nat.le_refl _) _⟩
      · rw [rightB_no.2 (by omega)]
        go_enter Tryd.func63, Tryd.ntmps63
        go_wp2
        go_ret
        exact ⟨rfl, (Below.refl _ _).alloc (Nat.le_refl _) _⟩
    · rw [rightB_no.2 (by omega)]
      go_enter Tryd.func63, Tryd.ntmps63
      go_wp2
      go_ret
      exact ⟨rfl, (Below.refl _ _).alloc (Nat.le_refl _) _⟩
  · rw [rightB_no.2 (by omega)]
    go_enter Tryd.func63, Tryd.ntmps63
    go_wp2
    go_ret
    exact ⟨rfl, (Below.refl _ _).alloc (Nat.le_refl _) _⟩

theorem rright_b (f s : Int) (w : World) :
    Calls Tryd.prog 50 #[.agg #[.int .i64 f, .int .i64 s]] w fun e w' => e = .returned (.bool (rightB f s)) ∧ Below w.heap.size w w' := by
  by_cases h1 : 0 ≤ f
  · by_cases h2 : f ≤ 2147483647
    · by_cases h3 : 0 ≤ s
      · by_cases h5 : s ≤ 2147483647
        · by_cases h4 : f + s ≤ 2147483647
          · rw [rightB_yes.2 ⟨h1, h2, h3, by omega⟩]
            go_enter Tryd.func50, Tryd.ntmps50
            go_wp2
            go_ret
            exact ⟨rfl, (Below.refl _ _).alloc (Nat.le_refl _) _⟩
          · rw [rightB_no.2 (by omega)]
            go_enter Tryd.func50, Tryd.ntmps50
            go_wp2
            go_ret
            exact ⟨rfl, (Below.refl _ _).alloc (Nat.le_refl _) _⟩
        · rw [rightB_no.2 (by omega)]
          go_enter Tryd.func50, Tryd.ntmps50
          go_wp2
          go_ret
          exact ⟨rfl, (Below.refl _ _).alloc (Nat.le_refl _) _⟩
      · rw [rightB_no.2 (by omega)]
        go_enter Tryd.func50, Tryd.ntmps50
        go_wp2
        go_ret
        exact ⟨rfl, (Below.refl _ _).alloc (Nat.le_refl _) _⟩
    · rw [rightB_no.2 (by omega)]
      go_enter Tryd.func50, Tryd.ntmps50
      go_wp2
      go_ret
      exact ⟨rfl, (Below.refl _ _).alloc (Nat.le_refl _) _⟩
  · rw [rightB_no.2 (by omega)]
    go_enter Tryd.func50, Tryd.ntmps50
    go_wp2
    go_ret
    exact ⟨rfl, (Below.refl _ _).alloc (Nat.le_refl _) _⟩

theorem end_b (f s : Int) (w : World) (h : rightB f s = true) :
    Calls Tryd.prog 64 #[.agg #[.int .i64 f, .int .i64 s]] w fun e w' => e = .returned (.int .i64 (f + s)) ∧ Below w.heap.size w w' := by
  obtain ⟨h1, h2, h3, h4⟩ := rightB_yes.1 h
  clear h
  go_enter Tryd.func64, Tryd.ntmps64
  go_wp2
  go_ret
  exact ⟨rfl, (Below.refl _ _).alloc (Nat.le_refl _) _⟩

theorem has_b (f s x : Int) (w : World) :
    Calls Tryd.prog 55 #[.agg #[.int .i64 f, .int .i64 s], .int .i64 x] w fun e w' => e = .returned (.bool (hasB f s x)) ∧ Below w.heap.size w w' := by
  obtain ⟨W, HW, hbw, hsz, k0, k1⟩ := one_box w (.int .i64 f) (.int .i64 s) 75
  by_cases hr : rightB f s = true
  · by_cases h0 : f ≤ x
    · rw [show hasB f s x = decide (x < f + s) by unfold hasB; simp [hr, h0]]
      go_enter Tryd.func55, Tryd.ntmps55
      have hbc := Below.refl W.heap.size W
      go_wp2_with ((try rw [← HW.out]); (first | with_reducible refine wpList_on hbc ?_ | with_reducible refine wp_on hbc (by kernel_rfl) (by kernel_rfl) ?_); (repeat (go_big_quiet_step (first | exact regrown_is (by assumption) (right_b _ _ _) | exact Calls.regrown_of (right_b _ _ _) | exact Calls.regrown_of (end_b _ _ _ (by assumption))))); with_reducible refine wpQuiet_nil ?_; intro wc hbc)
      go_ret
      exact ⟨by simp [*], hbw.trans (hbc.mono (by omega))⟩
    · rw [(bool_of hasB_yes).2 (by omega)]
      have h0' : decide (f ≤ x) = false := by simpa using h0
      go_enter Tryd.func55, Tryd.ntmps55
      have hbc := Below.refl W.heap.size W
      go_wp2_with ((try rw [← HW.out]); (first | with_reducible refine wpList_on hbc ?_ | with_reducible refine wp_on hbc (by kernel_rfl) (by kernel_rfl) ?_); (repeat (go_big_quiet_step (first | exact regrown_is (by assumption) (right_b _ _ _) | exact Calls.regrown_of (right_b _ _ _) | exact Calls.regrown_of (end_b _ _ _ (by assumption))))); with_reducible refine wpQuiet_nil ?_; intro wc hbc)
      go_ret
      exact ⟨by simp [*], hbw.trans (hbc.mono (by omega))⟩
  · have hr' : rightB f s = false := by simpa using hr
    rw [show hasB f s x = false by unfold hasB; simp [hr']]
    go_enter Tryd.func55, Tryd.ntmps55
    have hbc := Below.refl W.heap.size W
    go_wp2_with ((try rw [← HW.out]); (first | with_reducible refine wpList_on hbc ?_ | with_reducible refine wp_on hbc (by kernel_rfl) (by kernel_rfl) ?_); (repeat (go_big_quiet_step (first | exact regrown_is (by assumption) (right_b _ _ _) | exact Calls.regrown_of (right_b _ _ _) | exact Calls.regrown_of (end_b _ _ _ (by assumption))))); with_reducible refine wpQuiet_nil ?_; intro wc hbc)
    go_ret
    exact ⟨by simp [*], hbw.trans (hbc.mono (by omega))⟩

theorem rhas_b (f s x : Int) (w : World) :
    Calls Tryd.prog 30 #[.agg #[.int .i64 f, .int .i64 s], .int .i64 x] w fun e w' => e = .returned (.bool (hasB f s x)) ∧ Below w.heap.size w w' := by
  obtain ⟨W, HW, hbw, hsz, k0, k1⟩ := one_box w (.int .i64 f) (.int .i64 s) 75
  by_cases hr : rightB f s = true
  · have hb := rightB_yes.1 hr
    by_cases h0 : f ≤ x
    · by_cases h2 : x ≤ 2147483647
      · rw [show hasB f s x = decide (x - f < s) by rw [Bool.eq_iff_iff, hasB_yes, decide_eq_true_iff]; omega]
        obtain ⟨b1, b2, b3, b4⟩ := hb
        go_enter Tryd.func30, Tryd.ntmps30
        have hbc := Below.refl W.heap.size W
        go_wp2_with ((try rw [← HW.out]); (first | with_reducible refine wpList_on hbc ?_ | with_reducible refine wp_on hbc (by kernel_rfl) (by kernel_rfl) ?_); (repeat (go_big_quiet_step (first | exact regrown_is (by assumption) (rright_b _ _ _) | exact Calls.regrown_of (rright_b _ _ _)))); with_reducible refine wpQuiet_nil ?_; intro wc hbc)
        go_ret
        exact ⟨by simp, hbw.trans (hbc.mono (by omega))⟩
      · rw [(bool_of hasB_yes).2 (by omega)]
        have h2' : decide (x ≤ 2147483647) = false := by simpa using h2
        clear hb
        go_enter Tryd.func30, Tryd.ntmps30
        have hbc := Below.refl W.heap.size W
        go_wp2_with ((try rw [← HW.out]); (first | with_reducible refine wpList_on hbc ?_ | with_reducible refine wp_on hbc (by kernel_rfl) (by kernel_rfl) ?_); (repeat (go_big_quiet_step (first | exact regrown_is (by assumption) (rright_b _ _ _) | exact Calls.regrown_of (rright_b _ _ _)))); with_reducible refine wpQuiet_nil ?_; intro wc hbc)
        go_ret
        exact ⟨by simp [*], hbw.trans (hbc.mono (by omega))⟩
    · rw [(bool_of hasB_yes).2 (by omega)]
      have h0' : decide (f ≤ x) = false := by simpa using h0
      clear hb
      go_enter Tryd.func30, Tryd.ntmps30
      have hbc := Below.refl W.heap.size W
      go_wp2_with ((try rw [← HW.out]); (first | with_reducible refine wpList_on hbc ?_ | with_reducible refine wp_on hbc (by kernel_rfl) (by kernel_rfl) ?_); (repeat (go_big_quiet_step (first | exact regrown_is (by assumption) (rright_b _ _ _) | exact Calls.regrown_of (rright_b _ _ _)))); with_reducible refine wpQuiet_nil ?_; intro wc hbc)
      go_ret
      exact ⟨by simp [*], hbw.trans (hbc.mono (by omega))⟩
  · have hr' : rightB f s = false := by simpa using hr
    rw [show hasB f s x = false by unfold hasB; simp [hr']]
    go_enter Tryd.func30, Tryd.ntmps30
    have hbc := Below.refl W.heap.size W
    go_wp2_with ((try rw [← HW.out]); (first | with_reducible refine wpList_on hbc ?_ | with_reducible refine wp_on hbc (by kernel_rfl) (by kernel_rfl) ?_); (repeat (go_big_quiet_step (first | exact regrown_is (by assumption) (rright_b _ _ _) | exact Calls.regrown_of (rright_b _ _ _)))); with_reducible refine wpQuiet_nil ?_; intro wc hbc)
    go_ret
    exact ⟨by simp [*], hbw.trans (hbc.mono (by omega))⟩

theorem inB_no {f s g t : Int} (h : filledB f s = true) (h1 : ¬ (rightB g t = true ∧ g ≤ f ∧ f + s ≤ g + t)) : inB f s g t = false :=
  (bool_of inB_yes).2 (fun k => h1 (k h))

end One
end Go.Proofs.YtnemabgenaijhaaDoor
