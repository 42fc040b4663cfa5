/- overlapping, as a contract. No condition but those in the statements. -/
import Derived.Test.YtmhpcgcloojfbaaGreatDoorFrames
import Derived.BigQuiet
import Derived.IntWalk
import Derived.BigRegion
import Derived.OpenShut
namespace Go.Proofs.YtmhpcgcloojfbaaGreatDoor
open Go.RowKit Go.Sort Go.ChangeShapes Go.WideShapes
set_option linter.unusedVariables false
set_option linter.unusedSimpArgs false

theorem fit_b (n : Int) (w : World) (h1 : -9223372036854775808 ≤ n) (h2 : n ≤ 9223372036854775807) :
    Calls Tryz.prog 185 #[.int .i64 n] w fun e w' => e = .returned (.bool (wordB n)) ∧ w = w' := by
  by_cases h0 : 0 ≤ n
  · by_cases h3 : n ≤ 4294967295
    · go_enter Tryz.func185, Tryz.ntmps185
      go_wp2
      go_ret
      exact ⟨by simp [wordB, h0, h3], rfl⟩
    · go_enter Tryz.func185, Tryz.ntmps185
      go_wp2
      go_ret
      exact ⟨by simp [wordB, h0, h3], rfl⟩
  · have e : ¬ (IntKind.u64.wrap n ≤ 4294967295) := by rw [IntKind.wrap_u64]; omega
    have e2 : wordB n = false := by unfold wordB; exact decide_eq_false (fun h => h0 h.1)
    rw [e2]
    go_enter Tryz.func185, Tryz.ntmps185
    go_wp2
    go_ret
    exact ⟨rfl, rfl⟩
theorem fit_is (n : Int) (b : Bool) (w : World) (h1 : -9223372036854775808 ≤ n) (h2 : n ≤ 9223372036854775807) (h : wordB n = b) : Calls Tryz.prog 185 #[.int .i64 n] w fun e w' => e = .returned (.bool b) ∧ w = w' := by subst h; exact fit_b n w h1 h2

set_option maxRecDepth 100000 in
set_option maxHeartbeats 4000000 in
theorem frame16_b (len : Int) (win : List (List Int)) (A : Option Addr) (c : Nat) (w : World) (hr : RowN [.i64, .i64, .i64] w w.heap.size A win) (wl : wfR [.i64, .i64, .i64] win) (hl : win.length ≤ 1000000) (hlen : (Lit.int .i64 len).wf = true) : Calls Tryz.prog 173 #[.agg #[.int .i64 len, .slice A win.length c]] w fun e w' => e = .returned (.bool (frameB 16 len win)) ∧ Below w.heap.size w w' := by
  obtain ⟨W, HW, hB, hWs, bx⟩ := fbox_new w len A win.length c 26
  have HB := Lib.hid hB
  have hr := (hr.below hB).more hB.size
  clear hB
  go_enter Tryz.func173, Tryz.ntmps173
  go_wp2
  go_loopw [3] (fun ix wr => ∃ j : Nat, j ≤ win.length ∧ ix = .int .i64 ((j : Int) + 1) ∧ scan (j + 1) (fun i => decide (0 < i) && win16 (row win (i - 1)) (row win i)) = false ∧ Below W.heap.size W wr) (fun ix _ => win.length + 1 - (intOf ix).toNat)
  case atStart => exact ⟨0, Nat.zero_le _, rfl, rfl, (by rw [← HW.out]; exact Below.refl _ _)⟩
  case round =>
    obtain ⟨j, hj, rfl, ht, hbc⟩ := hrel
    have HT := Lib.hid ht
    obtain ⟨c0, c1⟩ := bx _ hbc
    clear ht
    by_cases hlt : j + 1 < win.length
    · have hlt0 : j < win.length := by omega
      obtain ⟨b, o, x0, x1, x2, e0, hbw, e1, ⟨hw0, hw1, hw2⟩, k0⟩ := hr.at3 wl hlt
      obtain ⟨b', o', y0, y1, y2, e0', _, f1, ⟨hv0, hv1, hv2⟩, r0⟩ := hr.at3 wl hlt0
      subst e0
      cases e0'
      have k0 := k0 _ hbc
      have r0 := r0 _ hbc
      obtain ⟨p0, k0⟩ := k0
      obtain ⟨p1, p2⟩ := k0
      obtain ⟨q0, q1, q2⟩ := r0
      have E1 := Lib.hid e1; have F1 := Lib.hid f1
      obtain ⟨s0, s1⟩ := bounds_i64 hw1
      obtain ⟨t0, t1⟩ := bounds_i64 hv1
      obtain ⟨m0, m1⟩ := bounds_i64 hv2
      have g1 : (j : Int) + 1 < (win.length : Int) := by omega
      have g2 : (j : Int) < (win.length : Int) := by omega
      have g3 : (0 : Int) ≤ (j : Int) := by omega
      have g4 : (0 : Int) ≤ (j : Int) + 1 := by omega
      have hbl : b < wr.heap.size := Nat.lt_of_lt_of_le hbw hbc.size
      have hwl : w.heap.size < wr.heap.size := Nat.lt_of_lt_of_le hWs hbc.size
      clear e1 f1
      clear k0 r0
      go_wp2
      go_region
      obtain ⟨wa, hwa⟩ : ∃ u, Hid (u = (wr.alloc (.cells #[.int .i64 y0, .int .i64 y1, .int .i64 y2] 104)).drew) := ⟨_, rfl⟩
      have hba : Below wr.heap.size wr wa := by rw [hwa.out]; exact ((Below.refl _ _).alloc (Nat.le_refl _) _).drew
      have hxa : wa.heap[wr.heap.size]? = some (.cells #[.int .i64 y0, .int .i64 y1, .int .i64 y2] 104 (0, 0)) := by rw [hwa.out]; exact heap_alloc_new _ _
      have HWB := Lib.hid (hbc.trans (hba.mono hbc.size))
      have a0 := cell_blk hxa (i := 0) rfl
      have a1 := cell_blk hxa (i := 1) rfl
      have a2 := cell_blk hxa (i := 2) rfl
      rw [← hwa.out]
      clear hba hxa p0 p1 p2 q0 q1 q2 c0 c1 bx hr hbc
      by_cases h1 : wordB y1 = true
      · by_cases h2 : wordB y2 = true
        · by_cases h3 : wordB x1 = true
          · have hy1 := of_decide_eq_true h1
            have hy2 := of_decide_eq_true h2
            have hy3 := of_decide_eq_true h3
            obtain ⟨m2, m3⟩ := hy1
            obtain ⟨m4, m5⟩ := hy2
            obtain ⟨m6, m7⟩ := hy3
            have hsub := IntWalk.i64_in (x1 - y1) (by omega)
            by_cases h4 : x1 - y1 < y2
            · have HX := Lib.hid (show frameB 16 len win = true from scan_hit (f := (fun i => decide (0 < i) && win16 (row win (i - 1)) (row win i))) hlt (show (decide (0 < j + 1) && win16 (row win (j + 1 - 1)) (row win (j + 1))) = true by rw [Nat.add_sub_cancel, row_at E1.out, row_at F1.out]; exact (show (decide (0 < j + 1) && (wordB x1 && wordB y1 && wordB y2 && decide (x1 < y1 + y2))) = true by rw [decide_eq_true (show 0 < j + 1 by omega), h1, h2, h3, decide_eq_true (show (x1 < y1 + y2) by omega)]; simp)))
              go_wp2_with (go_at_call 185; ((with_reducible refine (fit_is _ _ _ (by assumption) (by assumption) (by assumption)).mono ?_); rintro e w5 ⟨rfl, rfl⟩))
              go_ret
              exact ⟨by rw [HX.out]; rfl, HB.out.trans (HWB.out.mono HB.out.size)⟩
            · have h4d : decide (x1 - y1 < y2) = false := decide_eq_false h4
              have HX := Lib.hid (show scan (j + 1 + 1) (fun i => decide (0 < i) && win16 (row win (i - 1)) (row win i)) = false from scan_next HT.out (show (decide (0 < j + 1) && win16 (row win (j + 1 - 1)) (row win (j + 1))) = false by rw [Nat.add_sub_cancel, row_at E1.out, row_at F1.out]; exact (show (decide (0 < j + 1) && (wordB x1 && wordB y1 && wordB y2 && decide (x1 < y1 + y2))) = false by rw [decide_eq_true (show 0 < j + 1 by omega), h1, h2, h3, decide_eq_false (show ¬ (x1 < y1 + y2) by omega)]; simp)))
              go_wp2_with (go_at_call 185; ((with_reducible refine (fit_is _ _ _ (by assumption) (by assumption) (by assumption)).mono ?_); rintro e w5 ⟨rfl, rfl⟩))
              go_roundw
              case rel => exact ⟨j + 1, by omega, by go_num, HX.out, HWB.out⟩
              case measure => simp [intOf]; omega
          · have h3 : wordB x1 = false := by simpa using h3
            have HX := Lib.hid (show scan (j + 1 + 1) (fun i => decide (0 < i) && win16 (row win (i - 1)) (row win i)) = false from scan_next HT.out (show (decide (0 < j + 1) && win16 (row win (j + 1 - 1)) (row win (j + 1))) = false by rw [Nat.add_sub_cancel, row_at E1.out, row_at F1.out]; exact (show (decide (0 < j + 1) && (wordB x1 && wordB y1 && wordB y2 && decide (x1 < y1 + y2))) = false by rw [decide_eq_true (show 0 < j + 1 by omega), h1, h2, h3]; simp)))
            go_wp2_with (go_at_call 185; ((with_reducible refine (fit_is _ _ _ (by assumption) (by assumption) (by assumption)).mono ?_); rintro e w5 ⟨rfl, rfl⟩))
            go_roundw
            case rel => exact ⟨j + 1, by omega, by go_num, HX.out, HWB.out⟩
            case measure => simp [intOf]; omega
        · have h2 : wordB y2 = false := by simpa using h2
          have HX := Lib.hid (show scan (j + 1 + 1) (fun i => decide (0 < i) && win16 (row win (i - 1)) (row win i)) = false from scan_next HT.out (show (decide (0 < j + 1) && win16 (row win (j + 1 - 1)) (row win (j + 1))) = false by rw [Nat.add_sub_cancel, row_at E1.out, row_at F1.out]; exact (show (decide (0 < j + 1) && (wordB x1 && wordB y1 && wordB y2 && decide (x1 < y1 + y2))) = false by rw [decide_eq_true (show 0 < j + 1 by omega), h1, h2]; simp)))
          go_wp2_with (go_at_call 185; ((with_reducible refine (fit_is _ _ _ (by assumption) (by assumption) (by assumption)).mono ?_); rintro e w5 ⟨rfl, rfl⟩))
          go_roundw
          case rel => exact ⟨j + 1, by omega, by go_num, HX.out, HWB.out⟩
          case measure => simp [intOf]; omega
      · have h1 : wordB y1 = false := by simpa using h1
        have HX := Lib.hid (show scan (j + 1 + 1) (fun i => decide (0 < i) && win16 (row win (i - 1)) (row win i)) = false from scan_next HT.out (show (decide (0 < j + 1) && win16 (row win (j + 1 - 1)) (row win (j + 1))) = false by rw [Nat.add_sub_cancel, row_at E1.out, row_at F1.out]; exact (show (decide (0 < j + 1) && (wordB x1 && wordB y1 && wordB y2 && decide (x1 < y1 + y2))) = false by rw [decide_eq_true (show 0 < j + 1 by omega), h1]; simp)))
        go_wp2_with (go_at_call 185; ((with_reducible refine (fit_is _ _ _ (by assumption) (by assumption) (by assumption)).mono ?_); rintro e w5 ⟨rfl, rfl⟩))
        go_roundw
        case rel => exact ⟨j + 1, by omega, by go_num, HX.out, HWB.out⟩
        case measure => simp [intOf]; omega
    · have HS := Lib.hid (show frameB 16 len win = false from scan_false.2 (fun i hi => scan_false.1 HT.out i (by omega)))
      have g1 : ¬ (j : Int) + 1 < (win.length : Int) := by omega
      clear HT
      go_wp2
      go_ret
      exact ⟨by rw [HS.out]; rfl, HB.out.trans (hbc.mono HB.out.size)⟩
end Go.Proofs.YtmhpcgcloojfbaaGreatDoor
