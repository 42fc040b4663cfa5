/- The document's windows at defect 15, second frame, as contracts. No condition but those in the statements. -/
import Derived.Test.YtfpcldkgcifciaaRefA
import Derived.BigQuiet
namespace Go.Proofs.Ytfpcldkgcifciaa
open Go.RowKit Go.Sort Go.ChangeShapes Go.WideShapes
set_option linter.unusedVariables false
set_option linter.unusedSimpArgs false

set_option maxRecDepth 100000 in
set_option maxHeartbeats 8000000 in
theorem rwins1_15 (parts chans : List (List Int)) (len0 : Int) (win0 : List (List Int)) (len1 : Int) (win1 : List (List Int)) (pa : Option Addr) (pc : Nat) (ca : Option Addr) (cc : Nat) (aa : Option Addr) (ac : Nat) (ba : Option Addr) (bc : Nat) (w : World) (hp : RowN [.i64, .i64] w w.heap.size pa parts) (hpw : wfR [.i64, .i64] parts) (hpl : parts.length ≤ 1000000) (hc : RowN [.i64, .i64, .i64, .i64, .i64, .i64, .u32] w w.heap.size ca chans) (hcw : wfR [.i64, .i64, .i64, .i64, .i64, .i64, .u32] chans) (hcl : chans.length ≤ 1000000) (h0 : RowN [.i64, .i64, .i64] w w.heap.size aa win0) (h0w : wfR [.i64, .i64, .i64] win0) (h0l : win0.length ≤ 1000000) (h1 : RowN [.i64, .i64, .i64] w w.heap.size ba win1) (h1w : wfR [.i64, .i64, .i64] win1) (h1l : win1.length ≤ 1000000) (hl1 : (Lit.int .i64 len1).wf = true) : Calls Try.prog 31 #[.agg #[.slice pa parts.length pc, .slice ca chans.length cc, .int .i64 len0, .slice aa win0.length ac, .int .i64 len1, .slice ba win1.length bc], .int .i64 1, .int .i64 15] w fun e w' => e = .returned (.bool (winsB (⟨parts, chans, len0, win0, len1, win1⟩ : Cfg) 1 len1 win1 15)) ∧ Below w.heap.size w w' := by
  obtain ⟨W, HW, hB, -, bx⟩ := one_cbox w ⟨parts, chans, len0, win0, len1, win1⟩ ⟨pa, pc, ca, cc, aa, ac, ba, bc⟩ 29
  have HB := Lib.hid hB
  have hp := hp.later hB; have hc := hc.later hB; have h0 := h0.later hB; have h1 := h1.later hB
  clear hB
  go_enter Try.func31, Try.ntmps31
  go_wp2
  go_loopw [8] (fun ix wr => ∃ i : Nat, i ≤ win1.length ∧ ix = .int .i64 i ∧ scan i (fun i => win15 len1 (row win1 i)) = false ∧ Below W.heap.size W wr) (fun ix _ => win1.length - (intOf ix).toNat)
  case atStart => exact ⟨0, Nat.zero_le _, rfl, rfl, (by rw [← HW.out]; exact Below.refl _ _)⟩
  case round =>
    obtain ⟨i, hi, rfl, ht, hbc⟩ := hrel
    have HT := Lib.hid ht
    obtain ⟨c0, c1, c2, c3, c4, c5⟩ := bx _ hbc
    clear ht
    by_cases hlt : i < win1.length
    · obtain ⟨b, o, x0, x1, x2, e0, _, e1, ⟨hw0, hw1, hw2⟩, k0⟩ := h1.at3 h1w hlt
      subst e0
      have k0 := k0 _ hbc
      obtain ⟨p0, k0⟩ := k0
      obtain ⟨p1, p2⟩ := k0
      have E1 := Lib.hid e1
      clear e1
      obtain ⟨wa, hwa⟩ : ∃ u, Hid (u = wr.alloc (.cells #[.int .i64 x0, .int .i64 x1, .int .i64 x2] 49)) := ⟨_, rfl⟩
      have hba : Below wr.heap.size wr wa := by rw [hwa.out]; exact (Below.refl _ _).alloc (Nat.le_refl _) _
      have hxa : wa.heap[wr.heap.size]? = some (.cells #[.int .i64 x0, .int .i64 x1, .int .i64 x2] 49 (0, 0)) := by rw [hwa.out]; exact heap_alloc_new _ _
      have hwb := hbc.trans (hba.mono hbc.size)
      have hla : wr.heap.size < wa.heap.size := (Array.getElem?_eq_some_iff.1 hxa).1
      have a0 : ∀ p : Regrown, (grow (redrawn wa p.d) p.os).cell? ⟨wr.heap.size, 0, none⟩ = some (.int .i64 x0) := fun p => cell_regrown (cell_blk hxa rfl) p.d p.os
      have a1 : ∀ p : Regrown, (grow (redrawn wa p.d) p.os).cell? ⟨wr.heap.size, 1, none⟩ = some (.int .i64 x1) := fun p => cell_regrown (cell_blk hxa rfl) p.d p.os
      have a2 : ∀ p : Regrown, (grow (redrawn wa p.d) p.os).cell? ⟨wr.heap.size, 2, none⟩ = some (.int .i64 x2) := fun p => cell_regrown (cell_blk hxa rfl) p.d p.os
      have g0 : ∀ p : Regrown, (grow (redrawn wa p.d) p.os).cell? ⟨w.heap.size, 0, none⟩ = some (.slice pa parts.length pc) := fun p => ((bx.on hwb) _ (below_regrown wa p.d p.os)).1
      have g1 : ∀ p : Regrown, (grow (redrawn wa p.d) p.os).cell? ⟨w.heap.size, 1, none⟩ = some (.slice ca chans.length cc) := fun p => ((bx.on hwb) _ (below_regrown wa p.d p.os)).2.1
      have g2 : ∀ p : Regrown, (grow (redrawn wa p.d) p.os).cell? ⟨w.heap.size, 2, none⟩ = some (.int .i64 len0) := fun p => ((bx.on hwb) _ (below_regrown wa p.d p.os)).2.2.1
      have g3 : ∀ p : Regrown, (grow (redrawn wa p.d) p.os).cell? ⟨w.heap.size, 3, none⟩ = some (.slice aa win0.length ac) := fun p => ((bx.on hwb) _ (below_regrown wa p.d p.os)).2.2.2.1
      have g4 : ∀ p : Regrown, (grow (redrawn wa p.d) p.os).cell? ⟨w.heap.size, 4, none⟩ = some (.int .i64 len1) := fun p => ((bx.on hwb) _ (below_regrown wa p.d p.os)).2.2.2.2.1
      have g5 : ∀ p : Regrown, (grow (redrawn wa p.d) p.os).cell? ⟨w.heap.size, 5, none⟩ = some (.slice (some ⟨b, o, none⟩) win1.length bc) := fun p => ((bx.on hwb) _ (below_regrown wa p.d p.os)).2.2.2.2.2
      have HWB := Lib.hid hwb
      have hbq := Below.refl wa.heap.size wa
      obtain ⟨u0, u1⟩ := bounds_i64 hl1
      obtain ⟨s0, s1⟩ := bounds_i64 hw1
      obtain ⟨t0, t1⟩ := bounds_i64 hw2
      clear hwb hxa hba
      by_cases h1 : x1 < 0
      · go_wp2_with (rw [← hwa.out])
        (with_reducible refine wp_on hbq (by kernel_rfl) (by kernel_rfl) ?_); (repeat (go_big_quiet_step (fail))); (first | with_reducible refine wpQuiet_nil ?_ | refine wpQuiet_nil ?_); intro wq hbq
        have hwc := HWB.out.trans (hbq.mono HWB.out.size)
        have HX := Lib.hid (show winsB (⟨parts, chans, len0, win0, len1, win1⟩ : Cfg) 1 len1 win1 15 = true from scan_hit (f := (fun i => win15 len1 (row win1 i))) hlt (show win15 len1 (row win1 i) = true by rw [row_at E1.out]; exact (show decide (x1 < 0 ∨ x2 < 1 ∨ len1 < x1 ∨ len1 - x1 < x2) = true from decide_eq_true (by omega))))
        go_wp2
        go_ret
        exact ⟨by rw [HX.out]; rfl, HB.out.trans (hwc.mono HB.out.size)⟩
      · have h1d : decide (x1 < 0) = false := decide_eq_false h1
        by_cases h2 : x2 < 1
        · go_wp2_with (rw [← hwa.out])
          (with_reducible refine wp_on hbq (by kernel_rfl) (by kernel_rfl) ?_); (repeat (go_big_quiet_step (fail))); (first | with_reducible refine wpQuiet_nil ?_ | refine wpQuiet_nil ?_); intro wq hbq
          have hwc := HWB.out.trans (hbq.mono HWB.out.size)
          have HX := Lib.hid (show winsB (⟨parts, chans, len0, win0, len1, win1⟩ : Cfg) 1 len1 win1 15 = true from scan_hit (f := (fun i => win15 len1 (row win1 i))) hlt (show win15 len1 (row win1 i) = true by rw [row_at E1.out]; exact (show decide (x1 < 0 ∨ x2 < 1 ∨ len1 < x1 ∨ len1 - x1 < x2) = true from decide_eq_true (by omega))))
          go_wp2
          go_ret
          exact ⟨by rw [HX.out]; rfl, HB.out.trans (hwc.mono HB.out.size)⟩
        · have h2d : decide (x2 < 1) = false := decide_eq_false h2
          by_cases h3 : len1 < x1
          · go_wp2_with (rw [← hwa.out])
            (with_reducible refine wp_on hbq (by kernel_rfl) (by kernel_rfl) ?_); (repeat (go_big_quiet_step (fail))); (first | with_reducible refine wpQuiet_nil ?_ | refine wpQuiet_nil ?_); intro wq hbq
            have hwc := HWB.out.trans (hbq.mono HWB.out.size)
            have HX := Lib.hid (show winsB (⟨parts, chans, len0, win0, len1, win1⟩ : Cfg) 1 len1 win1 15 = true from scan_hit (f := (fun i => win15 len1 (row win1 i))) hlt (show win15 len1 (row win1 i) = true by rw [row_at E1.out]; exact (show decide (x1 < 0 ∨ x2 < 1 ∨ len1 < x1 ∨ len1 - x1 < x2) = true from decide_eq_true (by omega))))
            go_wp2
            go_ret
            exact ⟨by rw [HX.out]; rfl, HB.out.trans (hwc.mono HB.out.size)⟩
          · have h3d : decide (len1 < x1) = false := decide_eq_false h3
            by_cases h4 : len1 - x1 < x2
            · go_wp2_with (rw [← hwa.out])
              (with_reducible refine wp_on hbq (by kernel_rfl) (by kernel_rfl) ?_); (repeat (go_big_quiet_step (fail))); (first | with_reducible refine wpQuiet_nil ?_ | refine wpQuiet_nil ?_); intro wq hbq
              have hwc := HWB.out.trans (hbq.mono HWB.out.size)
              have HX := Lib.hid (show winsB (⟨parts, chans, len0, win0, len1, win1⟩ : Cfg) 1 len1 win1 15 = true from scan_hit (f := (fun i => win15 len1 (row win1 i))) hlt (show win15 len1 (row win1 i) = true by rw [row_at E1.out]; exact (show decide (x1 < 0 ∨ x2 < 1 ∨ len1 < x1 ∨ len1 - x1 < x2) = true from decide_eq_true (by omega))))
              go_wp2
              go_ret
              exact ⟨by rw [HX.out]; rfl, HB.out.trans (hwc.mono HB.out.size)⟩
            · have h4d : decide (len1 - x1 < x2) = false := decide_eq_false h4
              go_wp2_with (rw [← hwa.out])
              (with_reducible refine wp_on hbq (by kernel_rfl) (by kernel_rfl) ?_); (repeat (go_big_quiet_step (fail))); (first | with_reducible refine wpQuiet_nil ?_ | refine wpQuiet_nil ?_); intro wq hbq
              go_wp2_with fail
              (with_reducible refine wp_on hbq (by kernel_rfl) (by kernel_rfl) ?_); (repeat (go_big_quiet_step (fail))); (first | with_reducible refine wpQuiet_nil ?_ | refine wpQuiet_nil ?_); intro wq hbq
              have hwc := HWB.out.trans (hbq.mono HWB.out.size)
              have HX := Lib.hid (show scan (i + 1) (fun i => win15 len1 (row win1 i)) = false from scan_next HT.out (show win15 len1 (row win1 i) = false by rw [row_at E1.out]; exact (show decide (x1 < 0 ∨ x2 < 1 ∨ len1 < x1 ∨ len1 - x1 < x2) = false from decide_eq_false (by omega))))
              go_wp2
              go_roundw
              case rel => exact ⟨i + 1, by omega, by go_num, HX.out, hwc⟩
              case measure => simp [intOf]; omega
    · have HS := Lib.hid (show winsB (⟨parts, chans, len0, win0, len1, win1⟩ : Cfg) 1 len1 win1 15 = false by have h := HT.out; rw [show i = win1.length by omega] at h; exact h)
      clear HT
      go_wp2
      go_ret
      exact ⟨by rw [HS.out]; rfl, HB.out.trans (hbc.mono HB.out.size)⟩
end Go.Proofs.Ytfpcldkgcifciaa
