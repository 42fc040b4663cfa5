/- Tick, as a contract. No condition but those in the statements. -/
import Derived.Test.YtfpcldkgcifciaaCorE
import Derived.BigQuiet
import Derived.IntWalk
import Derived.BigRegion
import Derived.OpenShut
namespace Go.Proofs.Ytfpcldkgcifciaa
open Go.RowKit Go.Sort Go.ChangeShapes Go.WideShapes
set_option linter.unusedVariables false
set_option linter.unusedSimpArgs false

set_option linter.unusedVariables false
set_option linter.unusedSimpArgs false

set_option maxRecDepth 100000 in
set_option maxHeartbeats 4000000 in
theorem tick_b (c : Cfg) (x : CfgAt) (b : Nat) (s t : Int) (w : World) (h : ClkAt w b c x s) (hc : CfgFr c) (ht : t = s + 1) (h0 : 0 ≤ s) (h1 : s ≤ 1099511627775) : Calls Try.prog 14 #[.pointer (some ⟨b, 0, none⟩)] w (Ticks15 w b c x t) := by
  obtain ⟨i0, hi0, hz0, hz1, hz2⟩ := info_parts Try.infoI
  have hix0 := frame_at0 c.len0 c.len1 x.aa x.ba c.win0.length c.win1.length x.ac x.bc
  have hix1 := frame_at1 c.len0 c.len1 x.aa x.ba c.win0.length c.win1.length x.ac x.bc
  have c4 : w.cell? ⟨b, 4, none⟩ = some (.int .i64 s) := cell_blk h.blk (i := 4) rfl
  have f4 := h.frozen 4
  have hlt := h.lt
  obtain ⟨Z, HZ⟩ : ∃ u, Hid (u = w.setCell ⟨b, 4, none⟩ (.int .i64 t)) := ⟨_, rfl⟩
  have hK1 : ClkAt Z b c x t := by rw [HZ.out]; exact h.tick t
  have HZO : Hid (Only (fun k => k = b) w Z) := Lib.hid (by rw [HZ.out]; exact Only.setCell w ⟨b, 4, none⟩ _)
  have HZS : Hid (Z.heap.size = w.heap.size) := Lib.hid (by rw [HZ.out]; simp [World.setCell])
  have HK1 := Lib.hid hK1
  have d0 : Z.cell? ⟨b, 0, none⟩ = some (.int .i64 c.len0) := cell_blk hK1.blk (i := 0) rfl
  have d1 : Z.cell? ⟨b, 1, none⟩ = some (.slice x.aa c.win0.length x.ac) := cell_blk hK1.blk (i := 1) rfl
  have d2 : Z.cell? ⟨b, 2, none⟩ = some (.int .i64 c.len1) := cell_blk hK1.blk (i := 2) rfl
  have d3 : Z.cell? ⟨b, 3, none⟩ = some (.slice x.ba c.win1.length x.bc) := cell_blk hK1.blk (i := 3) rfl
  have hsum := IntWalk.i64_in (s + 1) (by omega)
  have HT := Lib.hid ht
  clear h hK1 hlt
  subst ht
  go_enter Try.func14, Try.ntmps14
  go_wp2_with (rw [← HZ.out])
  clear c4 f4 d0 d1 d2 d3
  obtain ⟨t, ht⟩ : ∃ t, t = s + 1 := ⟨_, rfl⟩
  rw [← ht] at HZ HK1 ⊢
  have HT2 := Lib.hid ht
  clear HT hsum HZ ht
  go_loopw [3, 19] (fun v ix wr => ∃ k : Nat, k ≤ 2 ∧ ix = .int .i64 k ∧ OwnsOff wr Z.heap.size 3 1 v (entUp c t k).length (icells (entUp c t k)) ∧ Below Z.heap.size Z wr) (fun _ ix _ => (2 - intOf ix).toNat)
  case atStart => exact ⟨0, by omega, rfl, OwnsOff.nil _ _ _ _, Below.refl _ _⟩
  case round =>
    obtain ⟨k, hk, rfl, hown, hbc⟩ := hrel
    rcases (show k = 0 ∨ k = 1 ∨ k = 2 by omega) with rfl | rfl | rfl
    · have hle := entUp_len c t 0
      obtain ⟨ys, hys⟩ : ∃ ys, entUp c t 0 = ys := ⟨_, rfl⟩
      have HYS := Lib.hid hys
      rw [hys] at hown hle
      clear hys
      obtain ⟨wa, hwa⟩ : ∃ u, Hid (u = wr.alloc (.cells #[.int .i64 c.len0, .slice x.aa c.win0.length x.ac] 26)) := ⟨_, rfl⟩
      have hba : Below wr.heap.size wr wa := by rw [hwa.out]; exact (Below.refl _ _).alloc (Nat.le_refl _) _
      have hxa : wa.heap[wr.heap.size]? = some (.cells #[.int .i64 c.len0, .slice x.aa c.win0.length x.ac] 26 (0, 0)) := by rw [hwa.out]; exact heap_alloc_new _ _
      have hwa2 := hbc.trans (hba.mono hbc.size)
      have hk := HK1.out.later hwa2
      have a0 : ∀ p : Regrown, (grow (redrawn wa p.d) p.os).cell? ⟨wr.heap.size, 0, none⟩ = some (.int .i64 c.len0) := fun p => cell_regrown (cell_blk hxa (i := 0) rfl) p.d p.os
      have a1 : ∀ p : Regrown, (grow (redrawn wa p.d) p.os).cell? ⟨wr.heap.size, 1, none⟩ = some (.slice x.aa c.win0.length x.ac) := fun p => cell_regrown (cell_blk hxa (i := 1) rfl) p.d p.os
      have k4 : ∀ p : Regrown, (grow (redrawn wa p.d) p.os).cell? ⟨b, 4, none⟩ = some (.int .i64 t) := fun p => cell_regrown (cell_blk hk.blk (i := 4) rfl) p.d p.os
      have hbq := Below.refl wa.heap.size wa
      have HB2 := Lib.hid hwa2
      have hown := hown.keptB hba
      cases ho : atO entB c.len0 c.win0 t with
      | none =>
        have HA := Lib.hid (fun d os => Calls.regrown_of (at_ent_no c.len0 c.win0 x.aa x.ac t (grow (redrawn wa d) os) ((hk.fin0 hc).later (below_regrown wa d os)) ho))
        have HN := Lib.hid ((entUp_1n ho).trans HYS.out)
        have HOW := Lib.hid hown
        clear ho hbc hown hba hxa hwa2 hk
        go_wp2_with (first | (rw [← hwa.out]) | ((first | with_reducible refine wpList_on hbq ?_ | with_reducible refine wp_on hbq (by kernel_rfl) (by kernel_rfl) ?_); (repeat (go_big_quiet_step (with_reducible exact HA.out _ _))); with_reducible refine wpQuiet_nil ?_; intro wc hbq))
        go_roundw
        case rel => exact ⟨1, by omega, rfl, by rw [HN.out]; exact HOW.out.keptB hbq, HB2.out.trans (hbq.mono HB2.out.size)⟩
        case measure => simp [intOf]
      | some q =>
        have HA := Lib.hid (fun d os => Calls.regrown_of (at_ent_yes c.len0 c.win0 x.aa x.ac t q (grow (redrawn wa d) os) ((hk.fin0 hc).later (below_regrown wa d os)) ho))
        have HN := Lib.hid ((entUp_1s ho).trans (by rw [HYS.out] : entUp c t 0 ++ [q] = ys ++ [q]))
        have HOW := Lib.hid hown
        clear ho hbc hba hxa hwa2 hk hown
        go_wp2_with (first | (rw [← hwa.out]) | ((first | with_reducible refine wpList_on hbq ?_ | with_reducible refine wp_on hbq (by kernel_rfl) (by kernel_rfl) ?_); (repeat (go_big_quiet_step (with_reducible exact HA.out _ _))); with_reducible refine wpQuiet_nil ?_; intro wc hbq) | (at_builtin; refine wpList_append_off _ rfl _ _ 35 rfl Z.heap.size 3 i0 (.int .i64 0) 1 8 Try.underlying35 hi0 hz0 hz1 hz2 rfl (by decide) _ _ _ rfl ((HOW.out.keptB hbq).keptB ((Below.refl _ _).alloc (Nat.le_refl _) _)) ⟨_, 0, none⟩ 1 1 [.int .i64 q] rfl rfl (news_new _ _ _) (by simp [Value.oneCell']) (by unfold maxLen; omega) (by omega) (by have := HB2.out.size; have := hbq.size; simp; omega) ?_))
        intro v' w6 hown' hgrow _
        have hwc := HB2.out.trans (hbq.mono HB2.out.size)
        have hb6 := Lib.hid ((hwc.alloc hwc.size _).grown hgrow (by have := hwc.size; simp; omega) (fun i e => ((HOW.out.keptB hbq).lt i e).1))
        have hown3 : OwnsOff w6 Z.heap.size 3 1 v' (ys ++ [q]).length (icells (ys ++ [q])) := by rw [List.length_append, icells_app]; exact hown'
        have H3 := Lib.hid hown3
        clear hown' hgrow hown3 hwc a0 a1 k4
        go_wp2
        go_roundw
        case rel => exact ⟨1, by omega, rfl, by rw [HN.out]; exact H3.out, hb6.out⟩
        case measure => simp [intOf]
    · have hle := entUp_len c t 1
      obtain ⟨ys, hys⟩ : ∃ ys, entUp c t 1 = ys := ⟨_, rfl⟩
      have HYS := Lib.hid hys
      rw [hys] at hown hle
      clear hys
      obtain ⟨wa, hwa⟩ : ∃ u, Hid (u = wr.alloc (.cells #[.int .i64 c.len1, .slice x.ba c.win1.length x.bc] 26)) := ⟨_, rfl⟩
      have hba : Below wr.heap.size wr wa := by rw [hwa.out]; exact (Below.refl _ _).alloc (Nat.le_refl _) _
      have hxa : wa.heap[wr.heap.size]? = some (.cells #[.int .i64 c.len1, .slice x.ba c.win1.length x.bc] 26 (0, 0)) := by rw [hwa.out]; exact heap_alloc_new _ _
      have hwa2 := hbc.trans (hba.mono hbc.size)
      have hk := HK1.out.later hwa2
      have a0 : ∀ p : Regrown, (grow (redrawn wa p.d) p.os).cell? ⟨wr.heap.size, 0, none⟩ = some (.int .i64 c.len1) := fun p => cell_regrown (cell_blk hxa (i := 0) rfl) p.d p.os
      have a1 : ∀ p : Regrown, (grow (redrawn wa p.d) p.os).cell? ⟨wr.heap.size, 1, none⟩ = some (.slice x.ba c.win1.length x.bc) := fun p => cell_regrown (cell_blk hxa (i := 1) rfl) p.d p.os
      have k4 : ∀ p : Regrown, (grow (redrawn wa p.d) p.os).cell? ⟨b, 4, none⟩ = some (.int .i64 t) := fun p => cell_regrown (cell_blk hk.blk (i := 4) rfl) p.d p.os
      have hbq := Below.refl wa.heap.size wa
      have HB2 := Lib.hid hwa2
      have hown := hown.keptB hba
      cases ho : atO entB c.len1 c.win1 t with
      | none =>
        have HA := Lib.hid (fun d os => Calls.regrown_of (at_ent_no c.len1 c.win1 x.ba x.bc t (grow (redrawn wa d) os) ((hk.fin1 hc).later (below_regrown wa d os)) ho))
        have HN := Lib.hid ((entUp_2n ho).trans HYS.out)
        have HOW := Lib.hid hown
        clear ho hbc hown hba hxa hwa2 hk
        go_wp2_with (first | (rw [← hwa.out]) | ((first | with_reducible refine wpList_on hbq ?_ | with_reducible refine wp_on hbq (by kernel_rfl) (by kernel_rfl) ?_); (repeat (go_big_quiet_step (with_reducible exact HA.out _ _))); with_reducible refine wpQuiet_nil ?_; intro wc hbq))
        go_roundw
        case rel => exact ⟨2, by omega, rfl, by rw [HN.out]; exact HOW.out.keptB hbq, HB2.out.trans (hbq.mono HB2.out.size)⟩
        case measure => simp [intOf]
      | some q =>
        have HA := Lib.hid (fun d os => Calls.regrown_of (at_ent_yes c.len1 c.win1 x.ba x.bc t q (grow (redrawn wa d) os) ((hk.fin1 hc).later (below_regrown wa d os)) ho))
        have HN := Lib.hid ((entUp_2s ho).trans (by rw [HYS.out] : entUp c t 1 ++ [q] = ys ++ [q]))
        have HOW := Lib.hid hown
        clear ho hbc hba hxa hwa2 hk hown
        go_wp2_with (first | (rw [← hwa.out]) | ((first | with_reducible refine wpList_on hbq ?_ | with_reducible refine wp_on hbq (by kernel_rfl) (by kernel_rfl) ?_); (repeat (go_big_quiet_step (with_reducible exact HA.out _ _))); with_reducible refine wpQuiet_nil ?_; intro wc hbq) | (at_builtin; refine wpList_append_off _ rfl _ _ 35 rfl Z.heap.size 3 i0 (.int .i64 0) 1 8 Try.underlying35 hi0 hz0 hz1 hz2 rfl (by decide) _ _ _ rfl ((HOW.out.keptB hbq).keptB ((Below.refl _ _).alloc (Nat.le_refl _) _)) ⟨_, 0, none⟩ 1 1 [.int .i64 q] rfl rfl (news_new _ _ _) (by simp [Value.oneCell']) (by unfold maxLen; omega) (by omega) (by have := HB2.out.size; have := hbq.size; simp; omega) ?_))
        intro v' w6 hown' hgrow _
        have hwc := HB2.out.trans (hbq.mono HB2.out.size)
        have hb6 := Lib.hid ((hwc.alloc hwc.size _).grown hgrow (by have := hwc.size; simp; omega) (fun i e => ((HOW.out.keptB hbq).lt i e).1))
        have hown3 : OwnsOff w6 Z.heap.size 3 1 v' (ys ++ [q]).length (icells (ys ++ [q])) := by rw [List.length_append, icells_app]; exact hown'
        have H3 := Lib.hid hown3
        clear hown' hgrow hown3 hwc a0 a1 k4
        go_wp2
        go_roundw
        case rel => exact ⟨2, by omega, rfl, by rw [HN.out]; exact H3.out, hb6.out⟩
        case measure => simp [intOf]
    · have H3 := Lib.hid hown
      have HBC := Lib.hid hbc
      clear hown hbc
      go_wp2
      go_ret
      rw [← HT2.out]
      exact ⟨_, rfl, by rw [← HZS.out]; exact H3.out, HK1.out.later HBC.out, HZO.out.trans (Only.of_below HBC.out)⟩
end Go.Proofs.Ytfpcldkgcifciaa
