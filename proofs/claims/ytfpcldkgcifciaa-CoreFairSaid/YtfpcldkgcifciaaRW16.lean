/- The document's windows at defect 16, as contracts. No condition but those in the statements. -/
import Derived.Test.YtfpcldkgcifciaaRefA
import Derived.BigQuiet
namespace Go.Proofs.Ytfpcldkgcifciaa
open Go.RowKit Go.Sort Go.ChangeShapes Go.WideShapes
set_option linter.unusedVariables false
set_option linter.unusedSimpArgs false

theorem word_q (n : Int) (b : Bool) (w : World) (h : wordB n = b) {d : Nat} {os : Array Obj} : Calls Try.prog 35 #[.int .i64 n] (grow (redrawn w d) os) fun e w'' => e = .returned (.bool b) ∧ ∃ p : Regrown, w'' = grow (redrawn w p.d) p.os := by
  subst h
  exact (word_b n _).mono fun _ _ hh => ⟨hh.1, ⟨⟨d, os⟩, hh.2.symm⟩⟩

set_option maxRecDepth 100000 in
set_option maxHeartbeats 8000000 in
theorem rwins0_16 (parts chans : List (List Int)) (len0 : Int) (win0 : List (List Int)) (len1 : Int) (win1 : List (List Int)) (pa : Option Addr) (pc : Nat) (ca : Option Addr) (cc : Nat) (aa : Option Addr) (ac : Nat) (ba : Option Addr) (bc : Nat) (w : World) (hp : RowN [.i64, .i64] w w.heap.size pa parts) (hpw : wfR [.i64, .i64] parts) (hpl : parts.length ≤ 1000000) (hc : RowN [.i64, .i64, .i64, .i64, .i64, .i64, .u32] w w.heap.size ca chans) (hcw : wfR [.i64, .i64, .i64, .i64, .i64, .i64, .u32] chans) (hcl : chans.length ≤ 1000000) (h0 : RowN [.i64, .i64, .i64] w w.heap.size aa win0) (h0w : wfR [.i64, .i64, .i64] win0) (h0l : win0.length ≤ 1000000) (h1 : RowN [.i64, .i64, .i64] w w.heap.size ba win1) (h1w : wfR [.i64, .i64, .i64] win1) (h1l : win1.length ≤ 1000000) : Calls Try.prog 31 #[.agg #[.slice pa parts.length pc, .slice ca chans.length cc, .int .i64 len0, .slice aa win0.length ac, .int .i64 len1, .slice ba win1.length bc], .int .i64 0, .int .i64 16] w fun e w' => e = .returned (.bool (winsB (⟨parts, chans, len0, win0, len1, win1⟩ : Cfg) 0 len0 win0 16)) ∧ Below w.heap.size w w' := by
  obtain ⟨W, HW, hB, -, bx⟩ := one_cbox w ⟨parts, chans, len0, win0, len1, win1⟩ ⟨pa, pc, ca, cc, aa, ac, ba, bc⟩ 29
  have HB := Lib.hid hB
  have hp := hp.later hB; have hc := hc.later hB; have h0 := h0.later hB; have h1 := h1.later hB
  clear hB
  go_enter Try.func31, Try.ntmps31
  go_wp2
  go_loopw [8] (fun ix wr => ∃ i : Nat, i ≤ win0.length ∧ ix = .int .i64 i ∧ scan i (fun i => decide (0 < i) && win16 (row win0 (i - 1)) (row win0 i)) = false ∧ Below W.heap.size W wr) (fun ix _ => win0.length - (intOf ix).toNat)
  case atStart => exact ⟨0, Nat.zero_le _, rfl, rfl, (by rw [← HW.out]; exact Below.refl _ _)⟩
  case round =>
    obtain ⟨i, hi, rfl, ht, hbc⟩ := hrel
    have HT := Lib.hid ht
    obtain ⟨c0, c1, c2, c3, c4, c5⟩ := bx _ hbc
    clear ht
    by_cases hlt : i < win0.length
    · obtain ⟨b, o, x0, x1, x2, e0, _, e1, ⟨hw0, hw1, hw2⟩, k0⟩ := h0.at3 h0w hlt
      subst e0
      have hrow := h0
      have k0 := k0 _ hbc
      obtain ⟨p0, k0⟩ := k0
      obtain ⟨p1, p2⟩ := k0
      have E1 := Lib.hid e1
      clear e1
      by_cases hi0 : i = 0
      · have e1 : ¬ (0 < i) := by omega
        have e2 : decide (0 < i) = false := decide_eq_false e1
        have HI0 := Lib.hid hi0
        clear hi0
        obtain ⟨wa, hwa⟩ : ∃ u, Hid (u = wr.alloc (.cells #[.int .i64 x0, .int .i64 x1, .int .i64 x2] 49)) := ⟨_, rfl⟩
        have hba : Below wr.heap.size wr wa := by rw [hwa.out]; exact (Below.refl _ _).alloc (Nat.le_refl _) _
        have hxa : wa.heap[wr.heap.size]? = some (.cells #[.int .i64 x0, .int .i64 x1, .int .i64 x2] 49 (0, 0)) := by rw [hwa.out]; exact heap_alloc_new _ _
        have hwb := hbc.trans (hba.mono hbc.size)
        have hla : wr.heap.size < wa.heap.size := (Array.getElem?_eq_some_iff.1 hxa).1
        have HWB := Lib.hid hwb
        have hbq := Below.refl wa.heap.size wa
        have a0 : ∀ p : Regrown, (grow (redrawn wa p.d) p.os).cell? ⟨wr.heap.size, 0, none⟩ = some (.int .i64 x0) := fun p => cell_regrown (cell_blk hxa rfl) p.d p.os
        have a1 : ∀ p : Regrown, (grow (redrawn wa p.d) p.os).cell? ⟨wr.heap.size, 1, none⟩ = some (.int .i64 x1) := fun p => cell_regrown (cell_blk hxa rfl) p.d p.os
        have a2 : ∀ p : Regrown, (grow (redrawn wa p.d) p.os).cell? ⟨wr.heap.size, 2, none⟩ = some (.int .i64 x2) := fun p => cell_regrown (cell_blk hxa rfl) p.d p.os
        clear hba hwb hxa
        go_wp2_with (rw [← hwa.out])
        (with_reducible refine wp_on hbq (by kernel_rfl) (by kernel_rfl) ?_); (repeat (go_big_quiet_step (fail))); (first | with_reducible refine wpQuiet_nil ?_ | refine wpQuiet_nil ?_); intro wq hbq
        go_wp2_with fail
        (with_reducible refine wp_on hbq (by kernel_rfl) (by kernel_rfl) ?_); (repeat (go_big_quiet_step ((go_at_call 35; exact word_q _ _ _ (by assumption))))); (first | with_reducible refine wpQuiet_nil ?_ | refine wpQuiet_nil ?_); intro wq hbq
        have hwc := HWB.out.trans (hbq.mono HWB.out.size)
        have HX := Lib.hid (show scan (i + 1) (fun i => decide (0 < i) && win16 (row win0 (i - 1)) (row win0 i)) = false from scan_next HT.out (by have h := HI0.out; subst h; rfl))
        go_wp2
        go_roundw
        case rel => exact ⟨i + 1, by omega, by go_num, HX.out, hwc⟩
        case measure => simp [intOf]; omega
      · have HI0 := Lib.hid (show 0 < i by omega)
        obtain ⟨j, hij⟩ : ∃ j, i - 1 = j := ⟨_, rfl⟩
        have hj : j < win0.length := by omega
        have e2 : (i : Int) - 1 = (j : Int) := by omega
        have HIJ := Lib.hid hij
        obtain ⟨b', o', y0, y1, y2, f0, _, f1, _, r0⟩ := hrow.at3 h0w hj
        cases f0
        have F1 := Lib.hid f1
        obtain ⟨wa, hwa⟩ : ∃ u, Hid (u = wr.alloc (.cells #[.int .i64 x0, .int .i64 x1, .int .i64 x2] 49)) := ⟨_, rfl⟩
        have hba : Below wr.heap.size wr wa := by rw [hwa.out]; exact (Below.refl _ _).alloc (Nat.le_refl _) _
        have hxa : wa.heap[wr.heap.size]? = some (.cells #[.int .i64 x0, .int .i64 x1, .int .i64 x2] 49 (0, 0)) := by rw [hwa.out]; exact heap_alloc_new _ _
        have hwb := hbc.trans (hba.mono hbc.size)
        have hla : wr.heap.size < wa.heap.size := (Array.getElem?_eq_some_iff.1 hxa).1
        have HWB := Lib.hid hwb
        have hbq := Below.refl wa.heap.size wa
        have a0 : ∀ p : Regrown, (grow (redrawn wa p.d) p.os).cell? ⟨wr.heap.size, 0, none⟩ = some (.int .i64 x0) := fun p => cell_regrown (cell_blk hxa rfl) p.d p.os
        have a1 : ∀ p : Regrown, (grow (redrawn wa p.d) p.os).cell? ⟨wr.heap.size, 1, none⟩ = some (.int .i64 x1) := fun p => cell_regrown (cell_blk hxa rfl) p.d p.os
        have a2 : ∀ p : Regrown, (grow (redrawn wa p.d) p.os).cell? ⟨wr.heap.size, 2, none⟩ = some (.int .i64 x2) := fun p => cell_regrown (cell_blk hxa rfl) p.d p.os
        clear hba hwb hxa
        have g1 : ∀ p : Regrown, (grow (redrawn wa p.d) p.os).cell? ⟨b, o + j * 3 + 1, none⟩ = some (.int .i64 y1) := fun p => (r0 _ (HWB.out.trans ((below_regrown wa p.d p.os).mono HWB.out.size))).2.1
        have g2 : ∀ p : Regrown, (grow (redrawn wa p.d) p.os).cell? ⟨b, o + j * 3 + 2, none⟩ = some (.int .i64 y2) := fun p => (r0 _ (HWB.out.trans ((below_regrown wa p.d p.os).mono HWB.out.size))).2.2
        have e1 : 0 < i := by omega
        have e4 : (j : Int) < (win0.length : Int) := by omega
        have e5 : (0 : Int) ≤ (j : Int) := by omega
        clear f1 r0 hij
        by_cases h1 : wordB x1 = true
        · by_cases h2 : wordB y1 = true
          · by_cases h3 : wordB y2 = true
            · have hy1 := of_decide_eq_true h2
              have hy2 := of_decide_eq_true h3
              obtain ⟨m0, m1⟩ := hy1
              obtain ⟨m2, m3⟩ := hy2
              have hsum := IntWalk.i64_in (y1 + y2) (by omega)
              by_cases h4 : x1 < y1 + y2
              · go_wp2_with (rw [← hwa.out])
                (with_reducible refine wp_on hbq (by kernel_rfl) (by kernel_rfl) ?_); (repeat (go_big_quiet_step (fail))); (first | with_reducible refine wpQuiet_nil ?_ | refine wpQuiet_nil ?_); intro wq hbq
                go_wp2_with fail
                (with_reducible refine wp_on hbq (by kernel_rfl) (by kernel_rfl) ?_); (repeat (go_big_quiet_step ((go_at_call 35; exact word_q _ _ _ (by assumption))))); (first | with_reducible refine wpQuiet_nil ?_ | refine wpQuiet_nil ?_); intro wq hbq
                have hwc := HWB.out.trans (hbq.mono HWB.out.size)
                have HX := Lib.hid (show winsB (⟨parts, chans, len0, win0, len1, win1⟩ : Cfg) 0 len0 win0 16 = true from scan_hit (f := (fun i => decide (0 < i) && win16 (row win0 (i - 1)) (row win0 i))) hlt (show (decide (0 < i) && win16 (row win0 (i - 1)) (row win0 i)) = true by rw [HIJ.out, row_at E1.out, row_at F1.out]; exact (show (decide (0 < i) && (wordB x1 && wordB y1 && wordB y2 && decide (x1 < y1 + y2))) = true by rw [decide_eq_true HI0.out, h1, h2, h3, decide_eq_true h4]; rfl)))
                go_wp2
                go_ret
                exact ⟨by rw [HX.out]; rfl, HB.out.trans (hwc.mono HB.out.size)⟩
              · have h4d : decide (x1 < y1 + y2) = false := decide_eq_false h4
                go_wp2_with (rw [← hwa.out])
                (with_reducible refine wp_on hbq (by kernel_rfl) (by kernel_rfl) ?_); (repeat (go_big_quiet_step (fail))); (first | with_reducible refine wpQuiet_nil ?_ | refine wpQuiet_nil ?_); intro wq hbq
                go_wp2_with fail
                (with_reducible refine wp_on hbq (by kernel_rfl) (by kernel_rfl) ?_); (repeat (go_big_quiet_step ((go_at_call 35; exact word_q _ _ _ (by assumption))))); (first | with_reducible refine wpQuiet_nil ?_ | refine wpQuiet_nil ?_); intro wq hbq
                have hwc := HWB.out.trans (hbq.mono HWB.out.size)
                have HX := Lib.hid (show scan (i + 1) (fun i => decide (0 < i) && win16 (row win0 (i - 1)) (row win0 i)) = false from scan_next HT.out (show (decide (0 < i) && win16 (row win0 (i - 1)) (row win0 i)) = false by rw [HIJ.out, row_at E1.out, row_at F1.out]; exact (show (decide (0 < i) && (wordB x1 && wordB y1 && wordB y2 && decide (x1 < y1 + y2))) = false by rw [decide_eq_true HI0.out, h1, h2, h3, decide_eq_false (show ¬ (x1 < y1 + y2) by omega)]; simp)))
                go_wp2
                go_roundw
                case rel => exact ⟨i + 1, by omega, by go_num, HX.out, hwc⟩
                case measure => simp [intOf]; omega
            · have h3 : wordB y2 = false := by simpa using h3
              go_wp2_with (rw [← hwa.out])
              (with_reducible refine wp_on hbq (by kernel_rfl) (by kernel_rfl) ?_); (repeat (go_big_quiet_step (fail))); (first | with_reducible refine wpQuiet_nil ?_ | refine wpQuiet_nil ?_); intro wq hbq
              go_wp2_with fail
              (with_reducible refine wp_on hbq (by kernel_rfl) (by kernel_rfl) ?_); (repeat (go_big_quiet_step ((go_at_call 35; exact word_q _ _ _ (by assumption))))); (first | with_reducible refine wpQuiet_nil ?_ | refine wpQuiet_nil ?_); intro wq hbq
              have hwc := HWB.out.trans (hbq.mono HWB.out.size)
              have HX := Lib.hid (show scan (i + 1) (fun i => decide (0 < i) && win16 (row win0 (i - 1)) (row win0 i)) = false from scan_next HT.out (show (decide (0 < i) && win16 (row win0 (i - 1)) (row win0 i)) = false by rw [HIJ.out, row_at E1.out, row_at F1.out]; exact (show (decide (0 < i) && (wordB x1 && wordB y1 && wordB y2 && decide (x1 < y1 + y2))) = false by rw [decide_eq_true HI0.out, h1, h2, h3]; simp)))
              go_wp2
              go_roundw
              case rel => exact ⟨i + 1, by omega, by go_num, HX.out, hwc⟩
              case measure => simp [intOf]; omega
          · have h2 : wordB y1 = false := by simpa using h2
            go_wp2_with (rw [← hwa.out])
            (with_reducible refine wp_on hbq (by kernel_rfl) (by kernel_rfl) ?_); (repeat (go_big_quiet_step (fail))); (first | with_reducible refine wpQuiet_nil ?_ | refine wpQuiet_nil ?_); intro wq hbq
            go_wp2_with fail
            (with_reducible refine wp_on hbq (by kernel_rfl) (by kernel_rfl) ?_); (repeat (go_big_quiet_step ((go_at_call 35; exact word_q _ _ _ (by assumption))))); (first | with_reducible refine wpQuiet_nil ?_ | refine wpQuiet_nil ?_); intro wq hbq
            have hwc := HWB.out.trans (hbq.mono HWB.out.size)
            have HX := Lib.hid (show scan (i + 1) (fun i => decide (0 < i) && win16 (row win0 (i - 1)) (row win0 i)) = false from scan_next HT.out (show (decide (0 < i) && win16 (row win0 (i - 1)) (row win0 i)) = false by rw [HIJ.out, row_at E1.out, row_at F1.out]; exact (show (decide (0 < i) && (wordB x1 && wordB y1 && wordB y2 && decide (x1 < y1 + y2))) = false by rw [decide_eq_true HI0.out, h1, h2]; simp)))
            go_wp2
            go_roundw
            case rel => exact ⟨i + 1, by omega, by go_num, HX.out, hwc⟩
            case measure => simp [intOf]; omega
        · have h1 : wordB x1 = false := by simpa using h1
          go_wp2_with (rw [← hwa.out])
          (with_reducible refine wp_on hbq (by kernel_rfl) (by kernel_rfl) ?_); (repeat (go_big_quiet_step (fail))); (first | with_reducible refine wpQuiet_nil ?_ | refine wpQuiet_nil ?_); intro wq hbq
          go_wp2_with fail
          (with_reducible refine wp_on hbq (by kernel_rfl) (by kernel_rfl) ?_); (repeat (go_big_quiet_step ((go_at_call 35; exact word_q _ _ _ (by assumption))))); (first | with_reducible refine wpQuiet_nil ?_ | refine wpQuiet_nil ?_); intro wq hbq
          have hwc := HWB.out.trans (hbq.mono HWB.out.size)
          have HX := Lib.hid (show scan (i + 1) (fun i => decide (0 < i) && win16 (row win0 (i - 1)) (row win0 i)) = false from scan_next HT.out (show (decide (0 < i) && win16 (row win0 (i - 1)) (row win0 i)) = false by rw [HIJ.out, row_at E1.out, row_at F1.out]; exact (show (decide (0 < i) && (wordB x1 && wordB y1 && wordB y2 && decide (x1 < y1 + y2))) = false by rw [decide_eq_true HI0.out, h1]; simp)))
          go_wp2
          go_roundw
          case rel => exact ⟨i + 1, by omega, by go_num, HX.out, hwc⟩
          case measure => simp [intOf]; omega
    · have HS := Lib.hid (show winsB (⟨parts, chans, len0, win0, len1, win1⟩ : Cfg) 0 len0 win0 16 = false by have h := HT.out; rw [show i = win0.length by omega] at h; exact h)
      clear HT
      go_wp2
      go_ret
      exact ⟨by rw [HS.out]; rfl, HB.out.trans (hbc.mono HB.out.size)⟩

set_option maxRecDepth 100000 in
set_option maxHeartbeats 8000000 in
theorem rwins1_16 (parts chans : List (List Int)) (len0 : Int) (win0 : List (List Int)) (len1 : Int) (win1 : List (List Int)) (pa : Option Addr) (pc : Nat) (ca : Option Addr) (cc : Nat) (aa : Option Addr) (ac : Nat) (ba : Option Addr) (bc : Nat) (w : World) (hp : RowN [.i64, .i64] w w.heap.size pa parts) (hpw : wfR [.i64, .i64] parts) (hpl : parts.length ≤ 1000000) (hc : RowN [.i64, .i64, .i64, .i64, .i64, .i64, .u32] w w.heap.size ca chans) (hcw : wfR [.i64, .i64, .i64, .i64, .i64, .i64, .u32] chans) (hcl : chans.length ≤ 1000000) (h0 : RowN [.i64, .i64, .i64] w w.heap.size aa win0) (h0w : wfR [.i64, .i64, .i64] win0) (h0l : win0.length ≤ 1000000) (h1 : RowN [.i64, .i64, .i64] w w.heap.size ba win1) (h1w : wfR [.i64, .i64, .i64] win1) (h1l : win1.length ≤ 1000000) : Calls Try.prog 31 #[.agg #[.slice pa parts.length pc, .slice ca chans.length cc, .int .i64 len0, .slice aa win0.length ac, .int .i64 len1, .slice ba win1.length bc], .int .i64 1, .int .i64 16] w fun e w' => e = .returned (.bool (winsB (⟨parts, chans, len0, win0, len1, win1⟩ : Cfg) 1 len1 win1 16)) ∧ Below w.heap.size w w' := by
  obtain ⟨W, HW, hB, -, bx⟩ := one_cbox w ⟨parts, chans, len0, win0, len1, win1⟩ ⟨pa, pc, ca, cc, aa, ac, ba, bc⟩ 29
  have HB := Lib.hid hB
  have hp := hp.later hB; have hc := hc.later hB; have h0 := h0.later hB; have h1 := h1.later hB
  clear hB
  go_enter Try.func31, Try.ntmps31
  go_wp2
  go_loopw [8] (fun ix wr => ∃ i : Nat, i ≤ win1.length ∧ ix = .int .i64 i ∧ scan i (fun i => decide (0 < i) && win16 (row win1 (i - 1)) (row win1 i)) = false ∧ Below W.heap.size W wr) (fun ix _ => win1.length - (intOf ix).toNat)
  case atStart => exact ⟨0, Nat.zero_le _, rfl, rfl, (by rw [← HW.out]; exact Below.refl _ _)⟩
  case round =>
    obtain ⟨i, hi, rfl, ht, hbc⟩ := hrel
    have HT := Lib.hid ht
    obtain ⟨c0, c1, c2, c3, c4, c5⟩ := bx _ hbc
    clear ht
    by_cases hlt : i < win1.length
    · obtain ⟨b, o, x0, x1, x2, e0, _, e1, ⟨hw0, hw1, hw2⟩, k0⟩ := h1.at3 h1w hlt
      subst e0
      have hrow := h1
      have k0 := k0 _ hbc
      obtain ⟨p0, k0⟩ := k0
      obtain ⟨p1, p2⟩ := k0
      have E1 := Lib.hid e1
      clear e1
      by_cases hi0 : i = 0
      · have e1 : ¬ (0 < i) := by omega
        have e2 : decide (0 < i) = false := decide_eq_false e1
        have HI0 := Lib.hid hi0
        clear hi0
        obtain ⟨wa, hwa⟩ : ∃ u, Hid (u = wr.alloc (.cells #[.int .i64 x0, .int .i64 x1, .int .i64 x2] 49)) := ⟨_, rfl⟩
        have hba : Below wr.heap.size wr wa := by rw [hwa.out]; exact (Below.refl _ _).alloc (Nat.le_refl _) _
        have hxa : wa.heap[wr.heap.size]? = some (.cells #[.int .i64 x0, .int .i64 x1, .int .i64 x2] 49 (0, 0)) := by rw [hwa.out]; exact heap_alloc_new _ _
        have hwb := hbc.trans (hba.mono hbc.size)
        have hla : wr.heap.size < wa.heap.size := (Array.getElem?_eq_some_iff.1 hxa).1
        have HWB := Lib.hid hwb
        have hbq := Below.refl wa.heap.size wa
        have a0 : ∀ p : Regrown, (grow (redrawn wa p.d) p.os).cell? ⟨wr.heap.size, 0, none⟩ = some (.int .i64 x0) := fun p => cell_regrown (cell_blk hxa rfl) p.d p.os
        have a1 : ∀ p : Regrown, (grow (redrawn wa p.d) p.os).cell? ⟨wr.heap.size, 1, none⟩ = some (.int .i64 x1) := fun p => cell_regrown (cell_blk hxa rfl) p.d p.os
        have a2 : ∀ p : Regrown, (grow (redrawn wa p.d) p.os).cell? ⟨wr.heap.size, 2, none⟩ = some (.int .i64 x2) := fun p => cell_regrown (cell_blk hxa rfl) p.d p.os
        clear hba hwb hxa
        go_wp2_with (rw [← hwa.out])
        (with_reducible refine wp_on hbq (by kernel_rfl) (by kernel_rfl) ?_); (repeat (go_big_quiet_step (fail))); (first | with_reducible refine wpQuiet_nil ?_ | refine wpQuiet_nil ?_); intro wq hbq
        go_wp2_with fail
        (with_reducible refine wp_on hbq (by kernel_rfl) (by kernel_rfl) ?_); (repeat (go_big_quiet_step ((go_at_call 35; exact word_q _ _ _ (by assumption))))); (first | with_reducible refine wpQuiet_nil ?_ | refine wpQuiet_nil ?_); intro wq hbq
        have hwc := HWB.out.trans (hbq.mono HWB.out.size)
        have HX := Lib.hid (show scan (i + 1) (fun i => decide (0 < i) && win16 (row win1 (i - 1)) (row win1 i)) = false from scan_next HT.out (by have h := HI0.out; subst h; rfl))
        go_wp2
        go_roundw
        case rel => exact ⟨i + 1, by omega, by go_num, HX.out, hwc⟩
        case measure => simp [intOf]; omega
      · have HI0 := Lib.hid (show 0 < i by omega)
        obtain ⟨j, hij⟩ : ∃ j, i - 1 = j := ⟨_, rfl⟩
        have hj : j < win1.length := by omega
        have e2 : (i : Int) - 1 = (j : Int) := by omega
        have HIJ := Lib.hid hij
        obtain ⟨b', o', y0, y1, y2, f0, _, f1, _, r0⟩ := hrow.at3 h1w hj
        cases f0
        have F1 := Lib.hid f1
        obtain ⟨wa, hwa⟩ : ∃ u, Hid (u = wr.alloc (.cells #[.int .i64 x0, .int .i64 x1, .int .i64 x2] 49)) := ⟨_, rfl⟩
        have hba : Below wr.heap.size wr wa := by rw [hwa.out]; exact (Below.refl _ _).alloc (Nat.le_refl _) _
        have hxa : wa.heap[wr.heap.size]? = some (.cells #[.int .i64 x0, .int .i64 x1, .int .i64 x2] 49 (0, 0)) := by rw [hwa.out]; exact heap_alloc_new _ _
        have hwb := hbc.trans (hba.mono hbc.size)
        have hla : wr.heap.size < wa.heap.size := (Array.getElem?_eq_some_iff.1 hxa).1
        have HWB := Lib.hid hwb
        have hbq := Below.refl wa.heap.size wa
        have a0 : ∀ p : Regrown, (grow (redrawn wa p.d) p.os).cell? ⟨wr.heap.size, 0, none⟩ = some (.int .i64 x0) := fun p => cell_regrown (cell_blk hxa rfl) p.d p.os
        have a1 : ∀ p : Regrown, (grow (redrawn wa p.d) p.os).cell? ⟨wr.heap.size, 1, none⟩ = some (.int .i64 x1) := fun p => cell_regrown (cell_blk hxa rfl) p.d p.os
        have a2 : ∀ p : Regrown, (grow (redrawn wa p.d) p.os).cell? ⟨wr.heap.size, 2, none⟩ = some (.int .i64 x2) := fun p => cell_regrown (cell_blk hxa rfl) p.d p.os
        clear hba hwb hxa
        have g1 : ∀ p : Regrown, (grow (redrawn wa p.d) p.os).cell? ⟨b, o + j * 3 + 1, none⟩ = some (.int .i64 y1) := fun p => (r0 _ (HWB.out.trans ((below_regrown wa p.d p.os).mono HWB.out.size))).2.1
        have g2 : ∀ p : Regrown, (grow (redrawn wa p.d) p.os).cell? ⟨b, o + j * 3 + 2, none⟩ = some (.int .i64 y2) := fun p => (r0 _ (HWB.out.trans ((below_regrown wa p.d p.os).mono HWB.out.size))).2.2
        have e1 : 0 < i := by omega
        have e4 : (j : Int) < (win1.length : Int) := by omega
        have e5 : (0 : Int) ≤ (j : Int) := by omega
        clear f1 r0 hij
        by_cases h1 : wordB x1 = true
        · by_cases h2 : wordB y1 = true
          · by_cases h3 : wordB y2 = true
            · have hy1 := of_decide_eq_true h2
              have hy2 := of_decide_eq_true h3
              obtain ⟨m0, m1⟩ := hy1
              obtain ⟨m2, m3⟩ := hy2
              have hsum := IntWalk.i64_in (y1 + y2) (by omega)
              by_cases h4 : x1 < y1 + y2
              · go_wp2_with (rw [← hwa.out])
                (with_reducible refine wp_on hbq (by kernel_rfl) (by kernel_rfl) ?_); (repeat (go_big_quiet_step (fail))); (first | with_reducible refine wpQuiet_nil ?_ | refine wpQuiet_nil ?_); intro wq hbq
                go_wp2_with fail
                (with_reducible refine wp_on hbq (by kernel_rfl) (by kernel_rfl) ?_); (repeat (go_big_quiet_step ((go_at_call 35; exact word_q _ _ _ (by assumption))))); (first | with_reducible refine wpQuiet_nil ?_ | refine wpQuiet_nil ?_); intro wq hbq
                have hwc := HWB.out.trans (hbq.mono HWB.out.size)
                have HX := Lib.hid (show winsB (⟨parts, chans, len0, win0, len1, win1⟩ : Cfg) 1 len1 win1 16 = true from scan_hit (f := (fun i => decide (0 < i) && win16 (row win1 (i - 1)) (row win1 i))) hlt (show (decide (0 < i) && win16 (row win1 (i - 1)) (row win1 i)) = true by rw [HIJ.out, row_at E1.out, row_at F1.out]; exact (show (decide (0 < i) && (wordB x1 && wordB y1 && wordB y2 && decide (x1 < y1 + y2))) = true by rw [decide_eq_true HI0.out, h1, h2, h3, decide_eq_true h4]; rfl)))
                go_wp2
                go_ret
                exact ⟨by rw [HX.out]; rfl, HB.out.trans (hwc.mono HB.out.size)⟩
              · have h4d : decide (x1 < y1 + y2) = false := decide_eq_false h4
                go_wp2_with (rw [← hwa.out])
                (with_reducible refine wp_on hbq (by kernel_rfl) (by kernel_rfl) ?_); (repeat (go_big_quiet_step (fail))); (first | with_reducible refine wpQuiet_nil ?_ | refine wpQuiet_nil ?_); intro wq hbq
                go_wp2_with fail
                (with_reducible refine wp_on hbq (by kernel_rfl) (by kernel_rfl) ?_); (repeat (go_big_quiet_step ((go_at_call 35; exact word_q _ _ _ (by assumption))))); (first | with_reducible refine wpQuiet_nil ?_ | refine wpQuiet_nil ?_); intro wq hbq
                have hwc := HWB.out.trans (hbq.mono HWB.out.size)
                have HX := Lib.hid (show scan (i + 1) (fun i => decide (0 < i) && win16 (row win1 (i - 1)) (row win1 i)) = false from scan_next HT.out (show (decide (0 < i) && win16 (row win1 (i - 1)) (row win1 i)) = false by rw [HIJ.out, row_at E1.out, row_at F1.out]; exact (show (decide (0 < i) && (wordB x1 && wordB y1 && wordB y2 && decide (x1 < y1 + y2))) = false by rw [decide_eq_true HI0.out, h1, h2, h3, decide_eq_false (show ¬ (x1 < y1 + y2) by omega)]; simp)))
                go_wp2
                go_roundw
                case rel => exact ⟨i + 1, by omega, by go_num, HX.out, hwc⟩
                case measure => simp [intOf]; omega
            · have h3 : wordB y2 = false := by simpa using h3
              go_wp2_with (rw [← hwa.out])
              (with_reducible refine wp_on hbq (by kernel_rfl) (by kernel_rfl) ?_); (repeat (go_big_quiet_step (fail))); (first | with_reducible refine wpQuiet_nil ?_ | refine wpQuiet_nil ?_); intro wq hbq
              go_wp2_with fail
              (with_reducible refine wp_on hbq (by kernel_rfl) (by kernel_rfl) ?_); (repeat (go_big_quiet_step ((go_at_call 35; exact word_q _ _ _ (by assumption))))); (first | with_reducible refine wpQuiet_nil ?_ | refine wpQuiet_nil ?_); intro wq hbq
              have hwc := HWB.out.trans (hbq.mono HWB.out.size)
              have HX := Lib.hid (show scan (i + 1) (fun i => decide (0 < i) && win16 (row win1 (i - 1)) (row win1 i)) = false from scan_next HT.out (show (decide (0 < i) && win16 (row win1 (i - 1)) (row win1 i)) = false by rw [HIJ.out, row_at E1.out, row_at F1.out]; exact (show (decide (0 < i) && (wordB x1 && wordB y1 && wordB y2 && decide (x1 < y1 + y2))) = false by rw [decide_eq_true HI0.out, h1, h2, h3]; simp)))
              go_wp2
              go_roundw
              case rel => exact ⟨i + 1, by omega, by go_num, HX.out, hwc⟩
              case measure => simp [intOf]; omega
          · have h2 : wordB y1 = false := by simpa using h2
            go_wp2_with (rw [← hwa.out])
            (with_reducible refine wp_on hbq (by kernel_rfl) (by kernel_rfl) ?_); (repeat (go_big_quiet_step (fail))); (first | with_reducible refine wpQuiet_nil ?_ | refine wpQuiet_nil ?_); intro wq hbq
            go_wp2_with fail
            (with_reducible refine wp_on hbq (by kernel_rfl) (by kernel_rfl) ?_); (repeat (go_big_quiet_step ((go_at_call 35; exact word_q _ _ _ (by assumption))))); (first | with_reducible refine wpQuiet_nil ?_ | refine wpQuiet_nil ?_); intro wq hbq
            have hwc := HWB.out.trans (hbq.mono HWB.out.size)
            have HX := Lib.hid (show scan (i + 1) (fun i => decide (0 < i) && win16 (row win1 (i - 1)) (row win1 i)) = false from scan_next HT.out (show (decide (0 < i) && win16 (row win1 (i - 1)) (row win1 i)) = false by rw [HIJ.out, row_at E1.out, row_at F1.out]; exact (show (decide (0 < i) && (wordB x1 && wordB y1 && wordB y2 && decide (x1 < y1 + y2))) = false by rw [decide_eq_true HI0.out, h1, h2]; simp)))
            go_wp2
            go_roundw
            case rel => exact ⟨i + 1, by omega, by go_num, HX.out, hwc⟩
            case measure => simp [intOf]; omega
        · have h1 : wordB x1 = false := by simpa using h1
          go_wp2_with (rw [← hwa.out])
          (with_reducible refine wp_on hbq (by kernel_rfl) (by kernel_rfl) ?_); (repeat (go_big_quiet_step (fail))); (first | with_reducible refine wpQuiet_nil ?_ | refine wpQuiet_nil ?_); intro wq hbq
          go_wp2_with fail
          (with_reducible refine wp_on hbq (by kernel_rfl) (by kernel_rfl) ?_); (repeat (go_big_quiet_step ((go_at_call 35; exact word_q _ _ _ (by assumption))))); (first | with_reducible refine wpQuiet_nil ?_ | refine wpQuiet_nil ?_); intro wq hbq
          have hwc := HWB.out.trans (hbq.mono HWB.out.size)
          have HX := Lib.hid (show scan (i + 1) (fun i => decide (0 < i) && win16 (row win1 (i - 1)) (row win1 i)) = false from scan_next HT.out (show (decide (0 < i) && win16 (row win1 (i - 1)) (row win1 i)) = false by rw [HIJ.out, row_at E1.out, row_at F1.out]; exact (show (decide (0 < i) && (wordB x1 && wordB y1 && wordB y2 && decide (x1 < y1 + y2))) = false by rw [decide_eq_true HI0.out, h1]; simp)))
          go_wp2
          go_roundw
          case rel => exact ⟨i + 1, by omega, by go_num, HX.out, hwc⟩
          case measure => simp [intOf]; omega
    · have HS := Lib.hid (show winsB (⟨parts, chans, len0, win0, len1, win1⟩ : Cfg) 1 len1 win1 16 = false by have h := HT.out; rw [show i = win1.length by omega] at h; exact h)
      clear HT
      go_wp2
      go_ret
      exact ⟨by rw [HS.out]; rfl, HB.out.trans (hbc.mono HB.out.size)⟩
end Go.Proofs.Ytfpcldkgcifciaa
