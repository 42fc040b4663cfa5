/- SpanShares's walk. No condition. -/
import Derived.Test.YtgplpcghencilaaAll
namespace Go.Proofs.Ytgplpcghencilaa
open Go.RowKit Go.Sort

theorem segs_any (f s g t : Int) (hr : rightB f s = true) : (segs (f, s)).any (fun x => hasB g t x) = meetsB f s g t := by
  obtain ⟨r1, r2, r3, r4⟩ := rightB_yes.1 hr
  rw [Bool.eq_iff_iff, List.any_eq_true, meetsB_yes]
  simp only [segs, hr, if_true, List.mem_map, List.mem_range, filledB_yes]
  constructor
  · rintro ⟨x, ⟨k, hk, rfl⟩, hx⟩
    obtain ⟨h1, h2, h3⟩ := hasB_yes.1 hx
    omega
  · rintro ⟨⟨h1, h2⟩, h3, h4⟩
    by_cases h : f ≤ g
    · refine ⟨g, ⟨(g - f).toNat, by omega, by omega⟩, hasB_yes.2 (by omega)⟩
    · refine ⟨f, ⟨0, by omega, by simp⟩, hasB_yes.2 (by omega)⟩
theorem segs_all (f s g t : Int) (hr : rightB f s = true) : (segs (f, s)).all (fun x => hasB g t x) = inB f s g t := by
  obtain ⟨r1, r2, r3, r4⟩ := rightB_yes.1 hr
  rw [Bool.eq_iff_iff, List.all_eq_true, inB_yes]
  simp only [segs, hr, if_true, List.mem_map, List.mem_range, filledB_yes]
  constructor
  · rintro h ⟨_, hs⟩
    obtain ⟨h1, h2, h3⟩ := hasB_yes.1 (h f ⟨0, by omega, by simp⟩)
    obtain ⟨_, h4, h5⟩ := hasB_yes.1 (h (f + (s - 1)) ⟨(s - 1).toNat, by omega, by omega⟩)
    exact ⟨rightB_yes.2 h1, by omega, by omega⟩
  · rintro h x ⟨k, hk, rfl⟩
    obtain ⟨h1, h2, h3⟩ := h ⟨⟨r1, r2, r3, r4⟩, by omega⟩
    exact hasB_yes.2 ⟨rightB_yes.1 h1, by omega, by omega⟩
theorem any_meets (f s g t : Int) : (segs (f, s)).any (fun x => hasB g t x) = meetsB f s g t := by
  cases hr : rightB f s
  · simp [segs, hr, meetsB, filledB]
  · exact segs_any f s g t hr
theorem all_in (f s g t : Int) : (segs (f, s)).all (fun x => hasB g t x) = inB f s g t := by
  cases hr : rightB f s
  · simp [segs, hr, inB, filledB]
  · exact segs_all f s g t hr

set_option maxHeartbeats 800000 in
theorem spanShares_big (f s g t : Int) (w : World) (ha : rightB f s = true) (h2 : 200 < s) : Calls Try.prog 8 #[.agg #[.int .i64 f, .int .i64 s], .agg #[.int .i64 g, .int .i64 t]] w fun e w' => e = .returned (.bool true) ∧ Below w.heap.size w w' := by
  obtain ⟨W, HW, hbw, hsz, k0, k1, k2, k3⟩ := two_boxes w (.int .i64 f) (.int .i64 s) (.int .i64 g) (.int .i64 t) 23 23
  go_enter Try.func8, Try.ntmps8
  have hbc := Below.refl W.heap.size W
  go_wp2_with ((try rw [← HW.out]); (first | with_reducible refine wpList_on hbc ?_ | with_reducible refine wp_on hbc (by kernel_rfl) (by kernel_rfl) ?_); (repeat (go_big_quiet_step (first | exact regrown_is (by assumption) (wakes_b _) | exact Calls.regrown_of (wakes_b _) | exact regrown_is (by assumption) (rright_b _ _ _) | exact Calls.regrown_of (rright_b _ _ _)))); with_reducible refine wpQuiet_nil ?_; intro wc hbc)
  go_ret
  exact ⟨by simp, hbw.trans (hbc.mono (by omega))⟩

theorem all_one (f s : Int) : allOf [(f, s)] = segs (f, s) := by simp [allOf]
theorem segs_len (f s : Int) (h : rightB f s = true → s ≤ 200) : (segs (f, s)).length ≤ 200 := by
  by_cases hr : rightB f s = true
  · have := h hr; simp [segs, hr]; omega
  · simp [segs, hr]
theorem any_next (l : List Int) (p : Int → Bool) (k : Nat) (h : k < l.length) : (l.take (k + 1)).any p = ((l.take k).any p || p (l.getD k 0)) := by
  rw [List.take_succ_eq_append_getElem h, List.any_append]; simp [List.getD_eq_getElem?_getD, h]
theorem all_next (l : List Int) (p : Int → Bool) (k : Nat) (h : k < l.length) : (l.take (k + 1)).all p = ((l.take k).all p && p (l.getD k 0)) := by
  rw [List.take_succ_eq_append_getElem h, List.all_append]; simp [List.getD_eq_getElem?_getD, h]

set_option maxHeartbeats 3200000 in
theorem spanShares_small (f s g t : Int) (w : World) (h2 : rightB f s = true → s ≤ 200) (b : Bool) (hr : rightB f s = b) (h3 : b = true → decide (200 < s) = false) : Calls Try.prog 8 #[.agg #[.int .i64 f, .int .i64 s], .agg #[.int .i64 g, .int .i64 t]] w fun e w' => e = .returned (.bool true) ∧ Below w.heap.size w w' := by
  obtain ⟨W, HW, hbw, hsz, k0, k1, k2, k3⟩ := two_boxes w (.int .i64 f) (.int .i64 s) (.int .i64 g) (.int .i64 t) 23 23
  have hlen := segs_len f s h2
  have hone := Lib.hid (all_one f s)
  have H2 := Lib.hid h2
  clear h2
  go_enter Try.func8, Try.ntmps8
  have hbc := Below.refl W.heap.size W
  have HSZ := Lib.hid hsz
  cases b
  all_goals first | (replace h3 := h3 rfl) | (clear h3)
  all_goals
    go_wp2_with (first | (go_at_call 20; refine (rall_b [(f, s)] (some ⟨wc.heap.size, 0, none⟩) 1 _ (by simp) ?_ ?_).mono ?_) | ((try rw [← HW.out]); (first | with_reducible refine wpList_on hbc ?_ | with_reducible refine wp_on hbc (by kernel_rfl) (by kernel_rfl) ?_); (repeat (go_big_quiet_step (first | exact regrown_is (by assumption) (wakes_b _) | exact Calls.regrown_of (wakes_b _) | exact regrown_is (by assumption) (rright_b _ _ _) | exact Calls.regrown_of (rright_b _ _ _)))); with_reducible refine wpQuiet_nil ?_; intro wc hbc; have c0 := cell_of (cell_on k0 hbc); have c1 := cell_of (cell_on k1 hbc)))
    · intro _
      exact ⟨wc.heap.size, 0, rfl, by simp, fun i hi => by
        have : i = 0 := by simp at hi; omega
        subst this
        simp⟩
    · rw [hone.out]; omega
    intro e V hg
    obtain ⟨A, cc, rfl, hcl, hcm, hrow, hbx⟩ := hg.row
    rw [hone.out] at hcl hrow ⊢
    clear hg hone
    have hWV : Below W.heap.size W V := (hbc.alloc hbc.size _).trans (hbx.mono (by have := hbc.size; simp; omega))
    have j0 := cell_on k0 hWV
    have j1 := cell_on k1 hWV
    have j2 := cell_on k2 hWV
    have j3 := cell_on k3 hWV
    have hVV := Below.refl V.heap.size V
    have HA := Lib.hid (any_meets f s g t)
    have HI := Lib.hid (all_in f s g t)
    clear k0 k1 k2 k3 hbx hbc c0 c1 HW
    go_wp2
    go_loopw [5, 6, 23] (fun so ev ix wr => ∃ (k : Nat) (sb eb : Bool), k ≤ (segs (f, s)).length ∧ ix = .int .i64 k ∧ so = .bool sb ∧ ev = .bool eb ∧ sb = ((segs (f, s)).take k).any (fun x => hasB g t x) ∧ eb = ((segs (f, s)).take k).all (fun x => hasB g t x) ∧ Below V.heap.size V wr) (fun _ _ ix _ => (segs (f, s)).length - (intOf ix).toNat)
    case atStart => exact ⟨0, false, true, Nat.zero_le _, rfl, rfl, rfl, rfl, rfl, hVV⟩
    case round =>
      clear hVV
      obtain ⟨k, sb, eb, hk, rfl, rfl, rfl, hsb, heb, hbc⟩ := hrel
      by_cases hlt : k < (segs (f, s)).length
      · obtain ⟨bb, oo, rfl, hbo, hcells⟩ := hrow (by omega)
        have hc0 := hcells k hlt
        have ha1 := any_next _ (fun x => hasB g t x) k hlt
        have ha2 := all_next _ (fun x => hasB g t x) k hlt
        rw [← hsb] at ha1
        rw [← heb] at ha2
        obtain ⟨x, hx⟩ : ∃ x, x = (segs (f, s)).getD k 0 := ⟨_, rfl⟩
        rw [← hx] at hc0 ha1 ha2
        have j4 := fun p : Regrown => cell_regrown hc0 p.d p.os
        clear hc0
        obtain ⟨hb, hhb⟩ : ∃ b, hasB g t x = b := ⟨_, rfl⟩
        simp only [hhb] at ha1 ha2
        have HS := Lib.hid ha1; have HE := Lib.hid ha2
        clear hsb heb ha1 ha2 hx hcells hrow
        cases sb <;> cases eb <;> cases hb
        all_goals
          go_wp2_with ((first | with_reducible refine wpList_on hbc ?_); (repeat (go_big_quiet_step (first | exact regrown_is (by assumption) (has_b _ _ _ _) | exact Calls.regrown_of (has_b _ _ _ _)))); with_reducible refine wpQuiet_nil ?_; intro wc hbc)
          go_roundw
          case rel => exact ⟨k + 1, _, _, by omega, by go_num, rfl, rfl, by rw [HS.out]; rfl, by rw [HE.out]; rfl, hbc⟩
          case measure => simp [intOf]; omega
      · have hkk : k = (segs (f, s)).length := by omega
        rw [hkk, List.take_length, HA.out] at hsb
        rw [hkk, List.take_length, HI.out] at heb
        have hs1 := hsb.symm; have he1 := heb.symm
        clear hsb heb hkk
        cases sb <;> cases eb
        all_goals
          go_wp2_with ((first | with_reducible refine wpList_on hbc ?_ | with_reducible refine wp_on hbc (by kernel_rfl) (by kernel_rfl) ?_); (repeat (go_big_quiet_step (first | exact regrown_is (by assumption) (meets_b _ _ _ _ _) | exact Calls.regrown_of (meets_b _ _ _ _ _) | exact regrown_is (by assumption) (in_b _ _ _ _ _) | exact Calls.regrown_of (in_b _ _ _ _ _)))); with_reducible refine wpQuiet_nil ?_; intro wc hbc)
          go_ret
          exact ⟨by simp, hbw.trans ((hWV.mono (by have := HSZ.out; omega)).trans (hbc.mono (by have := hWV.size; have := HSZ.out; omega)))⟩

theorem spanShares_walk (f s g t : Int) (w : World) : Calls Try.prog 8 #[.agg #[.int .i64 f, .int .i64 s], .agg #[.int .i64 g, .int .i64 t]] w fun e w' => e = .returned (.bool true) ∧ Below w.heap.size w w' := by
  by_cases h : rightB f s = true ∧ 200 < s
  · exact spanShares_big f s g t w h.1 h.2
  · exact spanShares_small f s g t w (fun hr => by have : ¬ 200 < s := fun k => h ⟨hr, k⟩; omega) _ rfl (fun hr => by have : ¬ 200 < s := fun k => h ⟨hr, k⟩; simpa using this)
end Go.Proofs.Ytgplpcghencilaa
