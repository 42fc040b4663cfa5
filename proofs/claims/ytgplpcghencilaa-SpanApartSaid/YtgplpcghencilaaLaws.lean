/- The statements of layer 1 that speak of single spans and pairs: their Go functions answer true, and turn nothing that was there. No condition. -/
import Derived.Test.YtgplpcghencilaaWalks
namespace Go.Proofs.Ytgplpcghencilaa
open Go.RowKit Go.Sort

set_option maxHeartbeats 800000 in
theorem wakes_b (w : World) : Calls Try.prog 9 #[] w fun e w' => e = .returned (.bool true) ∧ Below w.heap.size w w' := by
  obtain ⟨W, HW, hbw, hsz, k0, k1⟩ := one_box w (.int .i64 3) (.int .i64 2) 23
  have e1 : hasB 3 2 3 = true := by decide
  have e2 : hasB 3 2 4 = true := by decide
  have e3 : hasB 3 2 5 = false := by decide
  have e4 : meetsB 3 2 4 1 = true := by decide
  have e5 : meetsB 3 2 5 9 = false := by decide
  go_enter Try.func9, Try.ntmps9
  have hbc := Below.refl W.heap.size W
  go_wp2_with ((try rw [← HW.out]); (first | with_reducible refine wpList_on hbc ?_ | with_reducible refine wp_on hbc (by kernel_rfl) (by kernel_rfl) ?_); (repeat (go_big_quiet_step (first | exact regrown_is (by assumption) (has_b _ _ _ _) | exact Calls.regrown_of (has_b _ _ _ _) | exact regrown_is (by assumption) (meets_b _ _ _ _ _) | exact Calls.regrown_of (meets_b _ _ _ _ _)))); with_reducible refine wpQuiet_nil ?_; intro wc hbc)
  go_ret
  exact ⟨by simp, hbw.trans (hbc.mono (by omega))⟩

set_option maxHeartbeats 800000 in
theorem spanHas_walk (f s x : Int) (w : World) : Calls Try.prog 3 #[.agg #[.int .i64 f, .int .i64 s], .int .i64 x] w fun e w' => e = .returned (.bool true) ∧ Below w.heap.size w w' := by
  obtain ⟨W, HW, hbw, hsz, k0, k1⟩ := one_box w (.int .i64 f) (.int .i64 s) 23
  go_enter Try.func3, Try.ntmps3
  have hbc := Below.refl W.heap.size W
  go_wp2_with ((try rw [← HW.out]); (first | with_reducible refine wpList_on hbc ?_ | with_reducible refine wp_on hbc (by kernel_rfl) (by kernel_rfl) ?_); (repeat (go_big_quiet_step (first | exact regrown_is (by assumption) (wakes_b _) | exact Calls.regrown_of (wakes_b _) | exact regrown_is (by assumption) (right_b _ _ _) | exact Calls.regrown_of (right_b _ _ _) | exact regrown_is (by assumption) (rright_b _ _ _) | exact Calls.regrown_of (rright_b _ _ _) | exact regrown_is (by assumption) (has_b _ _ _ _) | exact Calls.regrown_of (has_b _ _ _ _) | exact regrown_is (by assumption) (rhas_b _ _ _ _) | exact Calls.regrown_of (rhas_b _ _ _ _)))); with_reducible refine wpQuiet_nil ?_; intro wc hbc)
  go_ret
  exact ⟨by simp, hbw.trans (hbc.mono (by omega))⟩

set_option maxHeartbeats 800000 in
theorem spanMeets_walk (f s g t : Int) (w : World) : Calls Try.prog 4 #[.agg #[.int .i64 f, .int .i64 s], .agg #[.int .i64 g, .int .i64 t]] w fun e w' => e = .returned (.bool true) ∧ Below w.heap.size w w' := by
  obtain ⟨W, HW, hbw, hsz, k0, k1, k2, k3⟩ := two_boxes w (.int .i64 f) (.int .i64 s) (.int .i64 g) (.int .i64 t) 23 23
  have e1 : inB f s f s = true := inB_self f s
  have e2 : Hid (meetsB g t f s = meetsB f s g t) := meetsB_symm g t f s
  go_enter Try.func4, Try.ntmps4
  have hbc := Below.refl W.heap.size W
  go_wp2_with ((try rw [← HW.out]); (first | with_reducible refine wpList_on hbc ?_ | with_reducible refine wp_on hbc (by kernel_rfl) (by kernel_rfl) ?_); (repeat (go_big_quiet_step (first | exact regrown_is (by assumption) (wakes_b _) | exact Calls.regrown_of (wakes_b _) | exact regrown_is (by assumption) (meets_b _ _ _ _ _) | exact Calls.regrown_of (meets_b _ _ _ _ _) | exact regrown_is (by assumption) (rmeets_b _ _ _ _ _) | exact Calls.regrown_of (rmeets_b _ _ _ _ _) | exact regrown_is (by assumption) (in_b _ _ _ _ _) | exact Calls.regrown_of (in_b _ _ _ _ _) | exact regrown_is (by assumption) (rin_b _ _ _ _ _) | exact Calls.regrown_of (rin_b _ _ _ _ _)))); with_reducible refine wpQuiet_nil ?_; intro wc hbc)
  go_ret
  exact ⟨by simp, hbw.trans (hbc.mono (by omega))⟩
end Go.Proofs.Ytgplpcghencilaa
