/- SpanMoves's walk. No condition. -/
import Derived.Test.YtgplpcghencilaaLaws
import Derived.RegionTactic
import Derived.BigRegion
import Derived.Outline
import Derived.Lib.Hide
import Derived.OpenShut
namespace Go.Proofs.Ytgplpcghencilaa
open Go.RowKit Go.Sort

theorem shift_right {f s d : Int} (h0 : 0 ≤ d) (h1 : d ≤ 65535) (hr : rightB f s = true) (h : f + s ≤ 1073741824) : rightB (f + d) s = true := by
  have := rightB_yes.1 hr; rw [rightB_yes]; omega
theorem shift_meets {f s g t d : Int} (h0 : 0 ≤ d) (h1 : d ≤ 65535) (ha : rightB f s = true) (hb : rightB g t = true) (h : f + s ≤ 1073741824) (k : g + t ≤ 1073741824) : meetsB (f + d) s (g + d) t = meetsB f s g t := by
  have := rightB_yes.1 ha; have := rightB_yes.1 hb
  rw [Bool.eq_iff_iff, meetsB_yes, meetsB_yes]; simp only [filledB_yes]; omega
theorem shift_in {f s g t d : Int} (h0 : 0 ≤ d) (h1 : d ≤ 65535) (ha : rightB f s = true) (hb : rightB g t = true) (h : f + s ≤ 1073741824) (k : g + t ≤ 1073741824) : inB (f + d) s (g + d) t = inB f s g t := by
  have := rightB_yes.1 ha; have := rightB_yes.1 hb
  rw [Bool.eq_iff_iff, inB_yes, inB_yes]; simp only [filledB_yes, rightB_yes]; constructor <;> (intro hh hf; have := hh (by omega); omega)
theorem shift_has {f s d : Int} (h0 : 0 ≤ d) (h1 : d ≤ 65535) (ha : rightB f s = true) (h : f + s ≤ 1073741824) : hasB (f + d) s (f + d) = hasB f s f := by
  have := rightB_yes.1 ha
  rw [Bool.eq_iff_iff, hasB_yes, hasB_yes]; omega

set_option maxHeartbeats 800000 in
theorem spanMoves_no (f s g t d : Int) (w : World) (hd0 : 0 ≤ d) (hd1 : d ≤ 65535) (h : ¬ (rightB f s = true ∧ rightB g t = true ∧ f + s ≤ 1073741824 ∧ g + t ≤ 1073741824)) :
    Calls Try.prog 7 #[.agg #[.int .i64 f, .int .i64 s], .agg #[.int .i64 g, .int .i64 t], .int .u16 d] w fun e w' => e = .returned (.bool true) ∧ Below w.heap.size w w' := by
  obtain ⟨W, HW, hbw, hsz, k0, k1, k2, k3⟩ := two_boxes w (.int .i64 f) (.int .i64 s) (.int .i64 g) (.int .i64 t) 23 23
  by_cases ha : rightB f s = true
  · obtain ⟨a1, a2, a3, a4⟩ := rightB_yes.1 ha
    by_cases hb : rightB g t = true
    · obtain ⟨b1, b2, b3, b4⟩ := rightB_yes.1 hb
      by_cases h1 : f + s ≤ 1073741824
      · have h2 : 1073741824 < g + t := by have : ¬ g + t ≤ 1073741824 := fun k => h ⟨ha, hb, h1, k⟩; omega
        have h1' : ¬ 1073741824 < f + s := by omega
        clear h
        go_enter Try.func7, Try.ntmps7
        have hbc := Below.refl W.heap.size W
        go_wp2_with ((try rw [← HW.out]); (first | with_reducible refine wpList_on hbc ?_ | with_reducible refine wp_on hbc (by kernel_rfl) (by kernel_rfl) ?_); (repeat (go_big_quiet_step (first | exact regrown_is (by assumption) (wakes_b _) | exact Calls.regrown_of (wakes_b _) | exact regrown_is (by assumption) (rright_b _ _ _) | exact Calls.regrown_of (rright_b _ _ _)))); with_reducible refine wpQuiet_nil ?_; intro wc hbc)
        go_ret
        exact ⟨by simp, hbw.trans (hbc.mono (by omega))⟩
      · have h2 : 1073741824 < f + s := by omega
        clear h
        go_enter Try.func7, Try.ntmps7
        have hbc := Below.refl W.heap.size W
        go_wp2_with ((try rw [← HW.out]); (first | with_reducible refine wpList_on hbc ?_ | with_reducible refine wp_on hbc (by kernel_rfl) (by kernel_rfl) ?_); (repeat (go_big_quiet_step (first | exact regrown_is (by assumption) (wakes_b _) | exact Calls.regrown_of (wakes_b _) | exact regrown_is (by assumption) (rright_b _ _ _) | exact Calls.regrown_of (rright_b _ _ _)))); with_reducible refine wpQuiet_nil ?_; intro wc hbc)
        go_ret
        exact ⟨by simp, hbw.trans (hbc.mono (by omega))⟩
    · have hb' : rightB g t = false := by simpa using hb
      clear h
      go_enter Try.func7, Try.ntmps7
      have hbc := Below.refl W.heap.size W
      go_wp2_with ((try rw [← HW.out]); (first | with_reducible refine wpList_on hbc ?_ | with_reducible refine wp_on hbc (by kernel_rfl) (by kernel_rfl) ?_); (repeat (go_big_quiet_step (first | exact regrown_is (by assumption) (wakes_b _) | exact Calls.regrown_of (wakes_b _) | exact regrown_is (by assumption) (rright_b _ _ _) | exact Calls.regrown_of (rright_b _ _ _)))); with_reducible refine wpQuiet_nil ?_; intro wc hbc)
      go_ret
      exact ⟨by simp, hbw.trans (hbc.mono (by omega))⟩
  · have ha' : rightB f s = false := by simpa using ha
    clear h
    go_enter Try.func7, Try.ntmps7
    have hbc := Below.refl W.heap.size W
    go_wp2_with ((try rw [← HW.out]); (first | with_reducible refine wpList_on hbc ?_ | with_reducible refine wp_on hbc (by kernel_rfl) (by kernel_rfl) ?_); (repeat (go_big_quiet_step (first | exact regrown_is (by assumption) (wakes_b _) | exact Calls.regrown_of (wakes_b _) | exact regrown_is (by assumption) (rright_b _ _ _) | exact Calls.regrown_of (rright_b _ _ _)))); with_reducible refine wpQuiet_nil ?_; intro wc hbc)
    go_ret
    exact ⟨by simp, hbw.trans (hbc.mono (by omega))⟩

set_option maxHeartbeats 800000 in
theorem spanMoves_yes (f s g t d : Int) (w : World) (hd0 : 0 ≤ d) (hd1 : d ≤ 65535) (ha : rightB f s = true) (hb : rightB g t = true) (h1 : f + s ≤ 1073741824) (h2 : g + t ≤ 1073741824) :
    Calls Try.prog 7 #[.agg #[.int .i64 f, .int .i64 s], .agg #[.int .i64 g, .int .i64 t], .int .u16 d] w fun e w' => e = .returned (.bool true) ∧ Below w.heap.size w w' := by
  obtain ⟨W, HW, hbw, hsz, k0, k1, k2, k3⟩ := two_boxes w (.int .i64 f) (.int .i64 s) (.int .i64 g) (.int .i64 t) 23 23
  obtain ⟨a1, a2, a3, a4⟩ := rightB_yes.1 ha
  obtain ⟨b1, b2, b3, b4⟩ := rightB_yes.1 hb
  have h1' : ¬ 1073741824 < f + s := by omega
  have h2' : ¬ 1073741824 < g + t := by omega
  go_enter Try.func7, Try.ntmps7
  have hbc := Below.refl W.heap.size W
  go_wp2_with ((try rw [← HW.out]); (first | with_reducible refine wpList_on hbc ?_ | with_reducible refine wp_on hbc (by kernel_rfl) (by kernel_rfl) ?_); (repeat (go_big_quiet_step (first | exact regrown_is (by assumption) (wakes_b _) | exact Calls.regrown_of (wakes_b _) | exact regrown_is (by assumption) (rright_b _ _ _) | exact Calls.regrown_of (rright_b _ _ _)))); with_reducible refine wpQuiet_nil ?_; intro wc hbc)
  have c0 := cell_of (cell_on k0 hbc)
  have c1 := cell_of (cell_on k1 hbc)
  have c2 := cell_of (cell_on k2 hbc)
  have c3 := cell_of (cell_on k3 hbc)
  have hsc := hbc.size
  have z0 : w.heap.size < wc.heap.size := by omega
  have z1 : w.heap.size + 1 < wc.heap.size := by omega
  clear k0 k1 k2 k3 HW
  have m1 := shift_meets hd0 hd1 ha hb h1 h2
  have m2 := shift_in hd0 hd1 ha hb h1 h2
  have m3 := shift_has hd0 hd1 ha h1
  have M1 := Lib.hid m1; have M2 := Lib.hid m2; have M3 := Lib.hid m3
  clear m1 m2 m3
  go_region
  · obtain ⟨V, HV, hbv, hsv, j0, j1, j2, j3⟩ := two_boxes wc (.int .i64 (f + d)) (.int .i64 s) (.int .i64 (g + d)) (.int .i64 t) 23 23
    have i0 := fun p : Regrown => cell_regrown ((hbv.cell (p := ⟨w.heap.size, 0, none⟩) z0).trans c0) p.d p.os
    have i1 := fun p : Regrown => cell_regrown ((hbv.cell (p := ⟨w.heap.size, 1, none⟩) z0).trans c1) p.d p.os
    have i2 := fun p : Regrown => cell_regrown ((hbv.cell (p := ⟨w.heap.size + 1, 0, none⟩) z1).trans c2) p.d p.os
    have i3 := fun p : Regrown => cell_regrown ((hbv.cell (p := ⟨w.heap.size + 1, 1, none⟩) z1).trans c3) p.d p.os
    clear c0 c1 c2 c3
    rw [← HV.out]
    have hbd : Below V.heap.size V V.drew := (Below.refl _ _).drew
    have hfin : Below w.heap.size w V := (hbw.trans (hbc.mono (by omega))).trans (hbv.mono (by omega))
    have m1 := M1.out; have m2 := M2.out; have m3 := M3.out
    go_wp2_with ((first | with_reducible refine wpList_on hbd ?_ | with_reducible refine wp_on hbd (by kernel_rfl) (by kernel_rfl) ?_); (repeat (go_big_quiet_step (first | exact regrown_is (by assumption) (meets_b _ _ _ _ _) | exact Calls.regrown_of (meets_b _ _ _ _ _) | exact regrown_is (by assumption) (in_b _ _ _ _ _) | exact Calls.regrown_of (in_b _ _ _ _ _) | exact regrown_is (by assumption) (has_b _ _ _ _) | exact Calls.regrown_of (has_b _ _ _ _)))); with_reducible refine wpQuiet_nil ?_; intro wc hbd)
    go_ret
    exact ⟨by simp, hfin.trans (hbd.mono (by omega))⟩
  · obtain ⟨V, HV, hbv, hsv, j0, j1, j2, j3⟩ := two_boxes wc (.int .i64 (g + d)) (.int .i64 t) (.int .i64 (f + d)) (.int .i64 s) 23 23
    have i0 := fun p : Regrown => cell_regrown ((hbv.cell (p := ⟨w.heap.size, 0, none⟩) z0).trans c0) p.d p.os
    have i1 := fun p : Regrown => cell_regrown ((hbv.cell (p := ⟨w.heap.size, 1, none⟩) z0).trans c1) p.d p.os
    have i2 := fun p : Regrown => cell_regrown ((hbv.cell (p := ⟨w.heap.size + 1, 0, none⟩) z1).trans c2) p.d p.os
    have i3 := fun p : Regrown => cell_regrown ((hbv.cell (p := ⟨w.heap.size + 1, 1, none⟩) z1).trans c3) p.d p.os
    clear c0 c1 c2 c3
    rw [← HV.out]
    have hbd : Below V.heap.size V V.drew := (Below.refl _ _).drew
    have hfin : Below w.heap.size w V := (hbw.trans (hbc.mono (by omega))).trans (hbv.mono (by omega))
    have m1 := M1.out; have m2 := M2.out; have m3 := M3.out
    go_wp2_with ((first | with_reducible refine wpList_on hbd ?_ | with_reducible refine wp_on hbd (by kernel_rfl) (by kernel_rfl) ?_); (repeat (go_big_quiet_step (first | exact regrown_is (by assumption) (meets_b _ _ _ _ _) | exact Calls.regrown_of (meets_b _ _ _ _ _) | exact regrown_is (by assumption) (in_b _ _ _ _ _) | exact Calls.regrown_of (in_b _ _ _ _ _) | exact regrown_is (by assumption) (has_b _ _ _ _) | exact Calls.regrown_of (has_b _ _ _ _)))); with_reducible refine wpQuiet_nil ?_; intro wc hbd)
    go_ret
    exact ⟨by simp, hfin.trans (hbd.mono (by omega))⟩

theorem spanMoves_walk (f s g t d : Int) (w : World) (wd : (Lit.int .u16 d).wf = true) :
    Calls Try.prog 7 #[.agg #[.int .i64 f, .int .i64 s], .agg #[.int .i64 g, .int .i64 t], .int .u16 d] w fun e w' => e = .returned (.bool true) ∧ Below w.heap.size w w' := by
  have hd := bounds_u16 wd
  by_cases h : rightB f s = true ∧ rightB g t = true ∧ f + s ≤ 1073741824 ∧ g + t ≤ 1073741824
  · exact spanMoves_yes f s g t d w hd.1 hd.2 h.1 h.2.1 h.2.2.1 h.2.2.2
  · exact spanMoves_no f s g t d w hd.1 hd.2 h
end Go.Proofs.Ytgplpcghencilaa
