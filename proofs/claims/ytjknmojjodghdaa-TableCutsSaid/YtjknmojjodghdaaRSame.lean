/- The document's Same, as a contract. No condition but those in the statements. -/
import Derived.Test.YtjknmojjodghdaaEqual
namespace Go.Proofs.Ytjknmojjodghdaa
open Go.RowKit Go.Sort
set_option linter.unusedVariables false
set_option linter.unusedSimpArgs false

section
variable {parts parts' chans chans' win0 win0' win1 win1' : List (List Int)} {len0 len0' len1 len1' : Int}
theorem ne_parts (h : parts ≠ parts') : decide ((⟨parts, chans, len0, win0, len1, win1⟩ : Cfg) = ⟨parts', chans', len0', win0', len1', win1'⟩) = false := decide_eq_false (fun e => h (by injection e))
theorem ne_chans (h : chans ≠ chans') : decide ((⟨parts, chans, len0, win0, len1, win1⟩ : Cfg) = ⟨parts', chans', len0', win0', len1', win1'⟩) = false := decide_eq_false (fun e => h (by injection e))
theorem ne_win0 (h : win0 ≠ win0') : decide ((⟨parts, chans, len0, win0, len1, win1⟩ : Cfg) = ⟨parts', chans', len0', win0', len1', win1'⟩) = false := decide_eq_false (fun e => h (by injection e))
theorem ne_win1 (h : win1 ≠ win1') : decide ((⟨parts, chans, len0, win0, len1, win1⟩ : Cfg) = ⟨parts', chans', len0', win0', len1', win1'⟩) = false := decide_eq_false (fun e => h (by injection e))
theorem ne_len0 (h : len0 ≠ len0') : decide ((⟨parts, chans, len0, win0, len1, win1⟩ : Cfg) = ⟨parts', chans', len0', win0', len1', win1'⟩) = false := decide_eq_false (fun e => h (by injection e))
theorem ne_len1 (h : len1 ≠ len1') : decide ((⟨parts, chans, len0, win0, len1, win1⟩ : Cfg) = ⟨parts', chans', len0', win0', len1', win1'⟩) = false := decide_eq_false (fun e => h (by injection e))
theorem ne_win0l (h : win0.length ≠ win0'.length) : decide ((⟨parts, chans, len0, win0, len1, win1⟩ : Cfg) = ⟨parts', chans', len0', win0', len1', win1'⟩) = false := ne_win0 (fun e => h (by rw [e]))
theorem ne_win1l (h : win1.length ≠ win1'.length) : decide ((⟨parts, chans, len0, win0, len1, win1⟩ : Cfg) = ⟨parts', chans', len0', win0', len1', win1'⟩) = false := ne_win1 (fun e => h (by rw [e]))
/-- The first frames are the same. -/
def SameUpto (len0 : Int) (win0 : List (List Int)) (len1 : Int) (win1 : List (List Int)) (len0' : Int) (win0' : List (List Int)) (len1' : Int) (win1' : List (List Int)) (j : Int) : Prop := (0 < j → len0 = len0' ∧ win0 = win0') ∧ (1 < j → len1 = len1' ∧ win1 = win1')
end

set_option maxRecDepth 100000 in
set_option maxHeartbeats 8000000 in
theorem rsame_plain (parts chans : List (List Int)) (len0 : Int) (win0 : List (List Int)) (len1 : Int) (win1 : List (List Int)) (pa : Option Addr) (pc : Nat) (ca : Option Addr) (cc : Nat) (aa : Option Addr) (ac : Nat) (ba : Option Addr) (bc : Nat) (parts' chans' : List (List Int)) (len0' : Int) (win0' : List (List Int)) (len1' : Int) (win1' : List (List Int)) (pa' : Option Addr) (pc' : Nat) (ca' : Option Addr) (cc' : Nat) (aa' : Option Addr) (ac' : Nat) (ba' : Option Addr) (bc' : Nat) (w : World) (hxp : RowN [.i64, .i64] w w.heap.size pa parts) (hxc : RowN [.i64, .i64, .i64, .i64, .i64, .i64, .u32] w w.heap.size ca chans) (hx0 : RowN [.i64, .i64, .i64] w w.heap.size aa win0) (hx1 : RowN [.i64, .i64, .i64] w w.heap.size ba win1) (hxpw : wfR [.i64, .i64] parts) (hxcw : wfR [.i64, .i64, .i64, .i64, .i64, .i64, .u32] chans) (hx0w : wfR [.i64, .i64, .i64] win0) (hx1w : wfR [.i64, .i64, .i64] win1) (hxpl : parts.length ≤ 1000000) (hxcl : chans.length ≤ 1000000) (hx0l : win0.length ≤ 1000000) (hx1l : win1.length ≤ 1000000) (hyp : RowN [.i64, .i64] w w.heap.size pa' parts') (hyc : RowN [.i64, .i64, .i64, .i64, .i64, .i64, .u32] w w.heap.size ca' chans') (hy0 : RowN [.i64, .i64, .i64] w w.heap.size aa' win0') (hy1 : RowN [.i64, .i64, .i64] w w.heap.size ba' win1') (hypw : wfR [.i64, .i64] parts') (hycw : wfR [.i64, .i64, .i64, .i64, .i64, .i64, .u32] chans') (hy0w : wfR [.i64, .i64, .i64] win0') (hy1w : wfR [.i64, .i64, .i64] win1') (hypl : parts'.length ≤ 1000000) (hycl : chans'.length ≤ 1000000) (hy0l : win0'.length ≤ 1000000) (hy1l : win1'.length ≤ 1000000) :
    Calls Try.prog 11 #[.agg #[.slice pa parts.length pc, .slice ca chans.length cc, .int .i64 len0, .slice aa win0.length ac, .int .i64 len1, .slice ba win1.length bc], .agg #[.slice pa' parts'.length pc', .slice ca' chans'.length cc', .int .i64 len0', .slice aa' win0'.length ac', .int .i64 len1', .slice ba' win1'.length bc']] w fun e w' => e = .returned (.bool (decide ((⟨parts, chans, len0, win0, len1, win1⟩ : Cfg) = ⟨parts', chans', len0', win0', len1', win1'⟩))) ∧ Below w.heap.size w w' := by
  obtain ⟨W, HW, hB, _, bx, by_⟩ := two_cboxes w ⟨parts, chans, len0, win0, len1, win1⟩ ⟨parts', chans', len0', win0', len1', win1'⟩ ⟨pa, pc, ca, cc, aa, ac, ba, bc⟩ ⟨pa', pc', ca', cc', aa', ac', ba', bc'⟩ 31
  have c0 : ∀ p : Regrown, (grow (redrawn W p.d) p.os).cell? ⟨w.heap.size, 0, none⟩ = some (.slice pa parts.length pc) := fun p => (bx _ (below_regrown W p.d p.os)).1
  have c1 : ∀ p : Regrown, (grow (redrawn W p.d) p.os).cell? ⟨w.heap.size, 1, none⟩ = some (.slice ca chans.length cc) := fun p => (bx _ (below_regrown W p.d p.os)).2.1
  have c2 : ∀ p : Regrown, (grow (redrawn W p.d) p.os).cell? ⟨w.heap.size, 2, none⟩ = some (.int .i64 len0) := fun p => (bx _ (below_regrown W p.d p.os)).2.2.1
  have c3 : ∀ p : Regrown, (grow (redrawn W p.d) p.os).cell? ⟨w.heap.size, 3, none⟩ = some (.slice aa win0.length ac) := fun p => (bx _ (below_regrown W p.d p.os)).2.2.2.1
  have c4 : ∀ p : Regrown, (grow (redrawn W p.d) p.os).cell? ⟨w.heap.size, 4, none⟩ = some (.int .i64 len1) := fun p => (bx _ (below_regrown W p.d p.os)).2.2.2.2.1
  have c5 : ∀ p : Regrown, (grow (redrawn W p.d) p.os).cell? ⟨w.heap.size, 5, none⟩ = some (.slice ba win1.length bc) := fun p => (bx _ (below_regrown W p.d p.os)).2.2.2.2.2
  have d0 : ∀ p : Regrown, (grow (redrawn W p.d) p.os).cell? ⟨w.heap.size + 1, 0, none⟩ = some (.slice pa' parts'.length pc') := fun p => (by_ _ (below_regrown W p.d p.os)).1
  have d1 : ∀ p : Regrown, (grow (redrawn W p.d) p.os).cell? ⟨w.heap.size + 1, 1, none⟩ = some (.slice ca' chans'.length cc') := fun p => (by_ _ (below_regrown W p.d p.os)).2.1
  have d2 : ∀ p : Regrown, (grow (redrawn W p.d) p.os).cell? ⟨w.heap.size + 1, 2, none⟩ = some (.int .i64 len0') := fun p => (by_ _ (below_regrown W p.d p.os)).2.2.1
  have d3 : ∀ p : Regrown, (grow (redrawn W p.d) p.os).cell? ⟨w.heap.size + 1, 3, none⟩ = some (.slice aa' win0'.length ac') := fun p => (by_ _ (below_regrown W p.d p.os)).2.2.2.1
  have d4 : ∀ p : Regrown, (grow (redrawn W p.d) p.os).cell? ⟨w.heap.size + 1, 4, none⟩ = some (.int .i64 len1') := fun p => (by_ _ (below_regrown W p.d p.os)).2.2.2.2.1
  have d5 : ∀ p : Regrown, (grow (redrawn W p.d) p.os).cell? ⟨w.heap.size + 1, 5, none⟩ = some (.slice ba' win1'.length bc') := fun p => (by_ _ (below_regrown W p.d p.os)).2.2.2.2.2
  have HB := Lib.hid hB
  have hxp := hxp.later hB
  have hxc := hxc.later hB
  have hx0 := hx0.later hB
  have hx1 := hx1.later hB
  have hyp := hyp.later hB
  have hyc := hyc.later hB
  have hy0 := hy0.later hB
  have hy1 := hy1.later hB
  have hbc := Below.refl W.heap.size W
  clear hB bx by_
  by_cases hp : parts.length = parts'.length
  · have HP := Lib.hid hp
    have g1 : ((parts.length : Int) != (parts'.length : Int)) = false := by simp [hp]
    clear hp
    by_cases hc : chans.length = chans'.length
    · have HC := Lib.hid hc
      have g2 : ((chans.length : Int) != (chans'.length : Int)) = false := by simp [hc]
      clear hc
      go_enter Try.func11, Try.ntmps11
      go_wp2_with ((try rw [← HW.out]); (first | with_reducible refine wpList_on hbc ?_ | with_reducible refine wp_on hbc (by kernel_rfl) (by kernel_rfl) ?_); (repeat (first | go_big_quiet_step (fail))); with_reducible refine wpQuiet_nil ?_; intro wc hbc)
      go_loopw [5] (fun ix wr => ∃ k : Nat, k ≤ parts.length ∧ ix = .int .i64 k ∧ parts.take k = parts'.take k ∧ Below W.heap.size W wr) (fun ix _ => parts.length - (intOf ix).toNat)
      case atStart => exact ⟨0, Nat.zero_le _, by first | rfl | go_num, rfl, hbc⟩
      case round =>
        obtain ⟨k, hk, rfl, htk, hbc⟩ := hrel
        have HT := Lib.hid htk
        clear htk
        by_cases hlt : k < parts.length
        · have hlt2 : k < parts'.length := by have := HP.out; omega
          obtain ⟨b, o, x0, x1, e0, _, e1, _, k0⟩ := hxp.at2 hxpw hlt
          obtain ⟨b', o', y0, y1, e0', _, e2, _, k1⟩ := hyp.at2 hypw hlt2
          subst e0 e0'
          obtain ⟨p0, p1⟩ := k0 _ (Below.refl _ _)
          obtain ⟨q0, q1⟩ := k1 _ (Below.refl _ _)
          have p0 : ∀ p : Regrown, (grow (redrawn W p.d) p.os).cell? ⟨b, o + k * 2, none⟩ = some (.int .i64 x0) := fun p => cell_regrown p0 p.d p.os
          have p1 : ∀ p : Regrown, (grow (redrawn W p.d) p.os).cell? ⟨b, o + k * 2 + 1, none⟩ = some (.int .i64 x1) := fun p => cell_regrown p1 p.d p.os
          have q0 : ∀ p : Regrown, (grow (redrawn W p.d) p.os).cell? ⟨b', o' + k * 2, none⟩ = some (.int .i64 y0) := fun p => cell_regrown q0 p.d p.os
          have q1 : ∀ p : Regrown, (grow (redrawn W p.d) p.os).cell? ⟨b', o' + k * 2 + 1, none⟩ = some (.int .i64 y1) := fun p => cell_regrown q1 p.d p.os
          have E1 := Lib.hid e1; have E2 := Lib.hid e2
          clear e1 e2 k0 k1
          by_cases he : [x0, x1] = [y0, y1]
          · have HE := Lib.hid he; have HQ := Lib.hid (eq2 x0 x1 y0 y1 true (decide_eq_true he))
            clear he
            go_wp2_with ((try rw [← HW.out]); (first | with_reducible refine wpList_on hbc ?_ | with_reducible refine wp_on hbc (by kernel_rfl) (by kernel_rfl) ?_); (repeat (first | (go_big_quiet_want; (first | refine quiet_neqT 55 _ _ _ rfl _ _ rfl rfl HQ.out (by kernel_rfl) ?_ | refine quiet_neqF 55 _ _ _ rfl _ _ rfl rfl HQ.out (by kernel_rfl) ?_); go_big_quiet_on) | go_big_quiet_step (fail))); with_reducible refine wpQuiet_nil ?_; intro wc hbc)
            go_roundw
            case rel => exact ⟨k + 1, by omega, by go_num, take_sameL E1.out (by rw [E2.out, HE.out]) HT.out, hbc⟩
            case measure => simp [intOf]; omega
          · have HE := Lib.hid he; have HQ := Lib.hid (eq2 x0 x1 y0 y1 false (decide_eq_false he))
            clear he
            go_wp2_with ((try rw [← HW.out]); (first | with_reducible refine wpList_on hbc ?_ | with_reducible refine wp_on hbc (by kernel_rfl) (by kernel_rfl) ?_); (repeat (first | (go_big_quiet_want; (first | refine quiet_neqT 55 _ _ _ rfl _ _ rfl rfl HQ.out (by kernel_rfl) ?_ | refine quiet_neqF 55 _ _ _ rfl _ _ rfl rfl HQ.out (by kernel_rfl) ?_); go_big_quiet_on) | go_big_quiet_step (fail))); with_reducible refine wpQuiet_nil ?_; intro wc hbc)
            go_ret
            exact ⟨by rw [ne_parts (get_sameL E1.out E2.out HE.out)]; rfl, HB.out.trans (hbc.mono HB.out.size)⟩
        · have HS_parts := Lib.hid (show parts = parts' by have h := HT.out; rw [show k = parts.length by omega, List.take_length, List.take_of_length_le (by have := HP.out; omega)] at h; exact h)
          clear HT
          go_wp2_with ((try rw [← HW.out]); (first | with_reducible refine wpList_on hbc ?_ | with_reducible refine wp_on hbc (by kernel_rfl) (by kernel_rfl) ?_); (repeat (first | go_big_quiet_step (fail))); with_reducible refine wpQuiet_nil ?_; intro wc hbc)
          go_loopw [6] (fun ix wr => ∃ k : Nat, k ≤ chans.length ∧ ix = .int .i64 k ∧ chans.take k = chans'.take k ∧ Below W.heap.size W wr) (fun ix _ => chans.length - (intOf ix).toNat)
          case atStart => exact ⟨0, Nat.zero_le _, by first | rfl | go_num, rfl, hbc⟩
          case round =>
            obtain ⟨k, hk, rfl, htk, hbc⟩ := hrel
            have HT := Lib.hid htk
            clear htk
            by_cases hlt : k < chans.length
            · have hlt2 : k < chans'.length := by have := HC.out; omega
              obtain ⟨b, o, x0, x1, x2, x3, x4, x5, x6, e0, _, e1, _, k0⟩ := hxc.at7 hxcw hlt
              obtain ⟨b', o', y0, y1, y2, y3, y4, y5, y6, e0', _, e2, _, k1⟩ := hyc.at7 hycw hlt2
              subst e0 e0'
              obtain ⟨p0, p1, p2, p3, p4, p5, p6⟩ := k0 _ (Below.refl _ _)
              obtain ⟨q0, q1, q2, q3, q4, q5, q6⟩ := k1 _ (Below.refl _ _)
              have p0 : ∀ p : Regrown, (grow (redrawn W p.d) p.os).cell? ⟨b, o + k * 7, none⟩ = some (.int .i64 x0) := fun p => cell_regrown p0 p.d p.os
              have p1 : ∀ p : Regrown, (grow (redrawn W p.d) p.os).cell? ⟨b, o + k * 7 + 1, none⟩ = some (.int .i64 x1) := fun p => cell_regrown p1 p.d p.os
              have p2 : ∀ p : Regrown, (grow (redrawn W p.d) p.os).cell? ⟨b, o + k * 7 + 2, none⟩ = some (.int .i64 x2) := fun p => cell_regrown p2 p.d p.os
              have p3 : ∀ p : Regrown, (grow (redrawn W p.d) p.os).cell? ⟨b, o + k * 7 + 3, none⟩ = some (.int .i64 x3) := fun p => cell_regrown p3 p.d p.os
              have p4 : ∀ p : Regrown, (grow (redrawn W p.d) p.os).cell? ⟨b, o + k * 7 + 4, none⟩ = some (.int .i64 x4) := fun p => cell_regrown p4 p.d p.os
              have p5 : ∀ p : Regrown, (grow (redrawn W p.d) p.os).cell? ⟨b, o + k * 7 + 5, none⟩ = some (.int .i64 x5) := fun p => cell_regrown p5 p.d p.os
              have p6 : ∀ p : Regrown, (grow (redrawn W p.d) p.os).cell? ⟨b, o + k * 7 + 6, none⟩ = some (.int .u32 x6) := fun p => cell_regrown p6 p.d p.os
              have q0 : ∀ p : Regrown, (grow (redrawn W p.d) p.os).cell? ⟨b', o' + k * 7, none⟩ = some (.int .i64 y0) := fun p => cell_regrown q0 p.d p.os
              have q1 : ∀ p : Regrown, (grow (redrawn W p.d) p.os).cell? ⟨b', o' + k * 7 + 1, none⟩ = some (.int .i64 y1) := fun p => cell_regrown q1 p.d p.os
              have q2 : ∀ p : Regrown, (grow (redrawn W p.d) p.os).cell? ⟨b', o' + k * 7 + 2, none⟩ = some (.int .i64 y2) := fun p => cell_regrown q2 p.d p.os
              have q3 : ∀ p : Regrown, (grow (redrawn W p.d) p.os).cell? ⟨b', o' + k * 7 + 3, none⟩ = some (.int .i64 y3) := fun p => cell_regrown q3 p.d p.os
              have q4 : ∀ p : Regrown, (grow (redrawn W p.d) p.os).cell? ⟨b', o' + k * 7 + 4, none⟩ = some (.int .i64 y4) := fun p => cell_regrown q4 p.d p.os
              have q5 : ∀ p : Regrown, (grow (redrawn W p.d) p.os).cell? ⟨b', o' + k * 7 + 5, none⟩ = some (.int .i64 y5) := fun p => cell_regrown q5 p.d p.os
              have q6 : ∀ p : Regrown, (grow (redrawn W p.d) p.os).cell? ⟨b', o' + k * 7 + 6, none⟩ = some (.int .u32 y6) := fun p => cell_regrown q6 p.d p.os
              have E1 := Lib.hid e1; have E2 := Lib.hid e2
              clear e1 e2 k0 k1
              by_cases he : [x0, x1, x2, x3, x4, x5, x6] = [y0, y1, y2, y3, y4, y5, y6]
              · have HE := Lib.hid he; have HQ := Lib.hid (eq7 x0 x1 x2 x3 x4 x5 x6 y0 y1 y2 y3 y4 y5 y6 true (decide_eq_true he))
                clear he
                go_wp2_with ((try rw [← HW.out]); (first | with_reducible refine wpList_on hbc ?_ | with_reducible refine wp_on hbc (by kernel_rfl) (by kernel_rfl) ?_); (repeat (first | (go_big_quiet_want; (first | refine quiet_neqT 59 _ _ _ rfl _ _ rfl rfl HQ.out (by kernel_rfl) ?_ | refine quiet_neqF 59 _ _ _ rfl _ _ rfl rfl HQ.out (by kernel_rfl) ?_); go_big_quiet_on) | go_big_quiet_step (fail))); with_reducible refine wpQuiet_nil ?_; intro wc hbc)
                go_roundw
                case rel => exact ⟨k + 1, by omega, by go_num, take_sameL E1.out (by rw [E2.out, HE.out]) HT.out, hbc⟩
                case measure => simp [intOf]; omega
              · have HE := Lib.hid he; have HQ := Lib.hid (eq7 x0 x1 x2 x3 x4 x5 x6 y0 y1 y2 y3 y4 y5 y6 false (decide_eq_false he))
                clear he
                go_wp2_with ((try rw [← HW.out]); (first | with_reducible refine wpList_on hbc ?_ | with_reducible refine wp_on hbc (by kernel_rfl) (by kernel_rfl) ?_); (repeat (first | (go_big_quiet_want; (first | refine quiet_neqT 59 _ _ _ rfl _ _ rfl rfl HQ.out (by kernel_rfl) ?_ | refine quiet_neqF 59 _ _ _ rfl _ _ rfl rfl HQ.out (by kernel_rfl) ?_); go_big_quiet_on) | go_big_quiet_step (fail))); with_reducible refine wpQuiet_nil ?_; intro wc hbc)
                go_ret
                exact ⟨by rw [ne_chans (get_sameL E1.out E2.out HE.out)]; rfl, HB.out.trans (hbc.mono HB.out.size)⟩
            · have HS_chans := Lib.hid (show chans = chans' by have h := HT.out; rw [show k = chans.length by omega, List.take_length, List.take_of_length_le (by have := HC.out; omega)] at h; exact h)
              clear HT
              go_wp2_with ((try rw [← HW.out]); (first | with_reducible refine wpList_on hbc ?_ | with_reducible refine wp_on hbc (by kernel_rfl) (by kernel_rfl) ?_); (repeat (first | go_big_quiet_step (fail))); with_reducible refine wpQuiet_nil ?_; intro wc hbc)
              go_loopw [7] (fun ix wr => ∃ j : Int, 0 ≤ j ∧ j ≤ 2 ∧ ix = .int .i64 j ∧ SameUpto len0 win0 len1 win1 len0' win0' len1' win1' j ∧ Below W.heap.size W wr) (fun ix _ => (2 - intOf ix).toNat)
              case atStart => exact ⟨0, by omega, by omega, rfl, ⟨fun h => by omega, fun h => by omega⟩, hbc⟩
              case round =>
                obtain ⟨j, hj0, hj2, rfl, hu, hbc⟩ := hrel
                have HU := Lib.hid hu
                clear hu
                rcases (show j = 0 ∨ j = 1 ∨ j = 2 by omega) with hj | hj | hj
                · subst hj
                  by_cases hlen : len0 = len0'
                  · have HL := Lib.hid hlen
                    have g1 : (len0 != len0') = false := by simp [hlen]
                    clear hlen
                    by_cases hn : win0.length = win0'.length
                    · have HN := Lib.hid hn
                      have g2 : ((win0.length : Int) != (win0'.length : Int)) = false := by simp [hn]
                      clear hn
                      go_wp2_with ((try rw [← HW.out]); (first | with_reducible refine wpList_on hbc ?_ | with_reducible refine wp_on hbc (by kernel_rfl) (by kernel_rfl) ?_); (repeat (first | go_big_quiet_step (fail))); with_reducible refine wpQuiet_nil ?_; intro wc hbc)
                      go_loopw [8] (fun ix wr => ∃ k : Nat, k ≤ win0.length ∧ ix = .int .i64 k ∧ win0.take k = win0'.take k ∧ Below W.heap.size W wr) (fun ix _ => win0.length - (intOf ix).toNat)
                      case atStart => exact ⟨0, Nat.zero_le _, by first | rfl | go_num, rfl, hbc⟩
                      case round =>
                        obtain ⟨k, hk, rfl, htk, hbc⟩ := hrel
                        have HT := Lib.hid htk
                        clear htk
                        by_cases hlt : k < win0.length
                        · have hlt2 : k < win0'.length := by have := HN.out; omega
                          obtain ⟨b, o, x0, x1, x2, e0, _, e1, _, k0⟩ := hx0.at3 hx0w hlt
                          obtain ⟨b', o', y0, y1, y2, e0', _, e2, _, k1⟩ := hy0.at3 hy0w hlt2
                          subst e0 e0'
                          obtain ⟨p0, p1, p2⟩ := k0 _ (Below.refl _ _)
                          obtain ⟨q0, q1, q2⟩ := k1 _ (Below.refl _ _)
                          have p0 : ∀ p : Regrown, (grow (redrawn W p.d) p.os).cell? ⟨b, o + k * 3, none⟩ = some (.int .i64 x0) := fun p => cell_regrown p0 p.d p.os
                          have p1 : ∀ p : Regrown, (grow (redrawn W p.d) p.os).cell? ⟨b, o + k * 3 + 1, none⟩ = some (.int .i64 x1) := fun p => cell_regrown p1 p.d p.os
                          have p2 : ∀ p : Regrown, (grow (redrawn W p.d) p.os).cell? ⟨b, o + k * 3 + 2, none⟩ = some (.int .i64 x2) := fun p => cell_regrown p2 p.d p.os
                          have q0 : ∀ p : Regrown, (grow (redrawn W p.d) p.os).cell? ⟨b', o' + k * 3, none⟩ = some (.int .i64 y0) := fun p => cell_regrown q0 p.d p.os
                          have q1 : ∀ p : Regrown, (grow (redrawn W p.d) p.os).cell? ⟨b', o' + k * 3 + 1, none⟩ = some (.int .i64 y1) := fun p => cell_regrown q1 p.d p.os
                          have q2 : ∀ p : Regrown, (grow (redrawn W p.d) p.os).cell? ⟨b', o' + k * 3 + 2, none⟩ = some (.int .i64 y2) := fun p => cell_regrown q2 p.d p.os
                          have E1 := Lib.hid e1; have E2 := Lib.hid e2
                          clear e1 e2 k0 k1
                          by_cases he : [x0, x1, x2] = [y0, y1, y2]
                          · have HE := Lib.hid he; have HQ := Lib.hid (eq3 x0 x1 x2 y0 y1 y2 true (decide_eq_true he))
                            clear he
                            go_wp2_with ((try rw [← HW.out]); (first | with_reducible refine wpList_on hbc ?_ | with_reducible refine wp_on hbc (by kernel_rfl) (by kernel_rfl) ?_); (repeat (first | (go_big_quiet_want; (first | refine quiet_neqT 51 _ _ _ rfl _ _ rfl rfl HQ.out (by kernel_rfl) ?_ | refine quiet_neqF 51 _ _ _ rfl _ _ rfl rfl HQ.out (by kernel_rfl) ?_); go_big_quiet_on) | go_big_quiet_step (fail))); with_reducible refine wpQuiet_nil ?_; intro wc hbc)
                            go_roundw
                            case rel => exact ⟨k + 1, by omega, by go_num, take_sameL E1.out (by rw [E2.out, HE.out]) HT.out, hbc⟩
                            case measure => simp [intOf]; omega
                          · have HE := Lib.hid he; have HQ := Lib.hid (eq3 x0 x1 x2 y0 y1 y2 false (decide_eq_false he))
                            clear he
                            go_wp2_with ((try rw [← HW.out]); (first | with_reducible refine wpList_on hbc ?_ | with_reducible refine wp_on hbc (by kernel_rfl) (by kernel_rfl) ?_); (repeat (first | (go_big_quiet_want; (first | refine quiet_neqT 51 _ _ _ rfl _ _ rfl rfl HQ.out (by kernel_rfl) ?_ | refine quiet_neqF 51 _ _ _ rfl _ _ rfl rfl HQ.out (by kernel_rfl) ?_); go_big_quiet_on) | go_big_quiet_step (fail))); with_reducible refine wpQuiet_nil ?_; intro wc hbc)
                            go_ret
                            exact ⟨by rw [ne_win0 (get_sameL E1.out E2.out HE.out)]; rfl, HB.out.trans (hbc.mono HB.out.size)⟩
                        · have HS_win0 := Lib.hid (show win0 = win0' by have h := HT.out; rw [show k = win0.length by omega, List.take_length, List.take_of_length_le (by have := HN.out; omega)] at h; exact h)
                          clear HT
                          go_wp2_with ((try rw [← HW.out]); (first | with_reducible refine wpList_on hbc ?_ | with_reducible refine wp_on hbc (by kernel_rfl) (by kernel_rfl) ?_); (repeat (first | go_big_quiet_step (fail))); with_reducible refine wpQuiet_nil ?_; intro wc hbc)
                          go_roundw
                          case rel => exact ⟨1, by omega, by omega, rfl, ⟨fun _ => ⟨HL.out, HS_win0.out⟩, fun h => by omega⟩, hbc⟩
                          case measure => simp [intOf]
                    · have g2 : ((win0.length : Int) != (win0'.length : Int)) = true := by simp; omega
                      have HN := Lib.hid (ne_win0l hn (parts := parts) (parts' := parts') (chans := chans) (chans' := chans') (len0 := len0) (len0' := len0') (len1 := len1) (len1' := len1') (win1 := win1) (win1' := win1'))
                      clear hn
                      go_wp2_with ((try rw [← HW.out]); (first | with_reducible refine wpList_on hbc ?_ | with_reducible refine wp_on hbc (by kernel_rfl) (by kernel_rfl) ?_); (repeat (first | go_big_quiet_step (fail))); with_reducible refine wpQuiet_nil ?_; intro wc hbc)
                      go_ret
                      exact ⟨by rw [HN.out]; rfl, HB.out.trans (hbc.mono HB.out.size)⟩
                  · have g1 : (len0 != len0') = true := by simp [hlen]
                    have HN := Lib.hid (ne_len0 hlen (parts := parts) (parts' := parts') (chans := chans) (chans' := chans') (win0 := win0) (win0' := win0') (win1 := win1) (win1' := win1') (len1 := len1) (len1' := len1'))
                    clear hlen
                    go_wp2_with ((try rw [← HW.out]); (first | with_reducible refine wpList_on hbc ?_ | with_reducible refine wp_on hbc (by kernel_rfl) (by kernel_rfl) ?_); (repeat (first | go_big_quiet_step (fail))); with_reducible refine wpQuiet_nil ?_; intro wc hbc)
                    go_ret
                    exact ⟨by rw [HN.out]; rfl, HB.out.trans (hbc.mono HB.out.size)⟩
                · subst hj
                  by_cases hlen : len1 = len1'
                  · have HL := Lib.hid hlen
                    have g1 : (len1 != len1') = false := by simp [hlen]
                    clear hlen
                    by_cases hn : win1.length = win1'.length
                    · have HN := Lib.hid hn
                      have g2 : ((win1.length : Int) != (win1'.length : Int)) = false := by simp [hn]
                      clear hn
                      go_wp2_with ((try rw [← HW.out]); (first | with_reducible refine wpList_on hbc ?_ | with_reducible refine wp_on hbc (by kernel_rfl) (by kernel_rfl) ?_); (repeat (first | go_big_quiet_step (fail))); with_reducible refine wpQuiet_nil ?_; intro wc hbc)
                      go_loopw [8] (fun ix wr => ∃ k : Nat, k ≤ win1.length ∧ ix = .int .i64 k ∧ win1.take k = win1'.take k ∧ Below W.heap.size W wr) (fun ix _ => win1.length - (intOf ix).toNat)
                      case atStart => exact ⟨0, Nat.zero_le _, by first | rfl | go_num, rfl, hbc⟩
                      case round =>
                        obtain ⟨k, hk, rfl, htk, hbc⟩ := hrel
                        have HT := Lib.hid htk
                        clear htk
                        by_cases hlt : k < win1.length
                        · have hlt2 : k < win1'.length := by have := HN.out; omega
                          obtain ⟨b, o, x0, x1, x2, e0, _, e1, _, k0⟩ := hx1.at3 hx1w hlt
                          obtain ⟨b', o', y0, y1, y2, e0', _, e2, _, k1⟩ := hy1.at3 hy1w hlt2
                          subst e0 e0'
                          obtain ⟨p0, p1, p2⟩ := k0 _ (Below.refl _ _)
                          obtain ⟨q0, q1, q2⟩ := k1 _ (Below.refl _ _)
                          have p0 : ∀ p : Regrown, (grow (redrawn W p.d) p.os).cell? ⟨b, o + k * 3, none⟩ = some (.int .i64 x0) := fun p => cell_regrown p0 p.d p.os
                          have p1 : ∀ p : Regrown, (grow (redrawn W p.d) p.os).cell? ⟨b, o + k * 3 + 1, none⟩ = some (.int .i64 x1) := fun p => cell_regrown p1 p.d p.os
                          have p2 : ∀ p : Regrown, (grow (redrawn W p.d) p.os).cell? ⟨b, o + k * 3 + 2, none⟩ = some (.int .i64 x2) := fun p => cell_regrown p2 p.d p.os
                          have q0 : ∀ p : Regrown, (grow (redrawn W p.d) p.os).cell? ⟨b', o' + k * 3, none⟩ = some (.int .i64 y0) := fun p => cell_regrown q0 p.d p.os
                          have q1 : ∀ p : Regrown, (grow (redrawn W p.d) p.os).cell? ⟨b', o' + k * 3 + 1, none⟩ = some (.int .i64 y1) := fun p => cell_regrown q1 p.d p.os
                          have q2 : ∀ p : Regrown, (grow (redrawn W p.d) p.os).cell? ⟨b', o' + k * 3 + 2, none⟩ = some (.int .i64 y2) := fun p => cell_regrown q2 p.d p.os
                          have E1 := Lib.hid e1; have E2 := Lib.hid e2
                          clear e1 e2 k0 k1
                          by_cases he : [x0, x1, x2] = [y0, y1, y2]
                          · have HE := Lib.hid he; have HQ := Lib.hid (eq3 x0 x1 x2 y0 y1 y2 true (decide_eq_true he))
                            clear he
                            go_wp2_with ((try rw [← HW.out]); (first | with_reducible refine wpList_on hbc ?_ | with_reducible refine wp_on hbc (by kernel_rfl) (by kernel_rfl) ?_); (repeat (first | (go_big_quiet_want; (first | refine quiet_neqT 51 _ _ _ rfl _ _ rfl rfl HQ.out (by kernel_rfl) ?_ | refine quiet_neqF 51 _ _ _ rfl _ _ rfl rfl HQ.out (by kernel_rfl) ?_); go_big_quiet_on) | go_big_quiet_step (fail))); with_reducible refine wpQuiet_nil ?_; intro wc hbc)
                            go_roundw
                            case rel => exact ⟨k + 1, by omega, by go_num, take_sameL E1.out (by rw [E2.out, HE.out]) HT.out, hbc⟩
                            case measure => simp [intOf]; omega
                          · have HE := Lib.hid he; have HQ := Lib.hid (eq3 x0 x1 x2 y0 y1 y2 false (decide_eq_false he))
                            clear he
                            go_wp2_with ((try rw [← HW.out]); (first | with_reducible refine wpList_on hbc ?_ | with_reducible refine wp_on hbc (by kernel_rfl) (by kernel_rfl) ?_); (repeat (first | (go_big_quiet_want; (first | refine quiet_neqT 51 _ _ _ rfl _ _ rfl rfl HQ.out (by kernel_rfl) ?_ | refine quiet_neqF 51 _ _ _ rfl _ _ rfl rfl HQ.out (by kernel_rfl) ?_); go_big_quiet_on) | go_big_quiet_step (fail))); with_reducible refine wpQuiet_nil ?_; intro wc hbc)
                            go_ret
                            exact ⟨by rw [ne_win1 (get_sameL E1.out E2.out HE.out)]; rfl, HB.out.trans (hbc.mono HB.out.size)⟩
                        · have HS_win1 := Lib.hid (show win1 = win1' by have h := HT.out; rw [show k = win1.length by omega, List.take_length, List.take_of_length_le (by have := HN.out; omega)] at h; exact h)
                          clear HT
                          go_wp2_with ((try rw [← HW.out]); (first | with_reducible refine wpList_on hbc ?_ | with_reducible refine wp_on hbc (by kernel_rfl) (by kernel_rfl) ?_); (repeat (first | go_big_quiet_step (fail))); with_reducible refine wpQuiet_nil ?_; intro wc hbc)
                          go_roundw
                          case rel => exact ⟨2, by omega, by omega, rfl, ⟨fun _ => HU.out.1 (by omega), fun _ => ⟨HL.out, HS_win1.out⟩⟩, hbc⟩
                          case measure => simp [intOf]
                    · have g2 : ((win1.length : Int) != (win1'.length : Int)) = true := by simp; omega
                      have HN := Lib.hid (ne_win1l hn (parts := parts) (parts' := parts') (chans := chans) (chans' := chans') (len0 := len0) (len0' := len0') (len1 := len1) (len1' := len1') (win0 := win0) (win0' := win0'))
                      clear hn
                      go_wp2_with ((try rw [← HW.out]); (first | with_reducible refine wpList_on hbc ?_ | with_reducible refine wp_on hbc (by kernel_rfl) (by kernel_rfl) ?_); (repeat (first | go_big_quiet_step (fail))); with_reducible refine wpQuiet_nil ?_; intro wc hbc)
                      go_ret
                      exact ⟨by rw [HN.out]; rfl, HB.out.trans (hbc.mono HB.out.size)⟩
                  · have g1 : (len1 != len1') = true := by simp [hlen]
                    have HN := Lib.hid (ne_len1 hlen (parts := parts) (parts' := parts') (chans := chans) (chans' := chans') (win0 := win0) (win0' := win0') (win1 := win1) (win1' := win1') (len0 := len0) (len0' := len0'))
                    clear hlen
                    go_wp2_with ((try rw [← HW.out]); (first | with_reducible refine wpList_on hbc ?_ | with_reducible refine wp_on hbc (by kernel_rfl) (by kernel_rfl) ?_); (repeat (first | go_big_quiet_step (fail))); with_reducible refine wpQuiet_nil ?_; intro wc hbc)
                    go_ret
                    exact ⟨by rw [HN.out]; rfl, HB.out.trans (hbc.mono HB.out.size)⟩
                · subst hj
                  have HF := Lib.hid (show ((⟨parts, chans, len0, win0, len1, win1⟩ : Cfg) = ⟨parts', chans', len0', win0', len1', win1'⟩) by
                    obtain ⟨h1, h2⟩ := HU.out.1 (by omega)
                    obtain ⟨h3, h4⟩ := HU.out.2 (by omega)
                    rw [HS_parts.out, HS_chans.out, h1, h2, h3, h4])
                  go_wp2_with ((try rw [← HW.out]); (first | with_reducible refine wpList_on hbc ?_ | with_reducible refine wp_on hbc (by kernel_rfl) (by kernel_rfl) ?_); (repeat (first | go_big_quiet_step (fail))); with_reducible refine wpQuiet_nil ?_; intro wc hbc)
                  go_ret
                  exact ⟨by rw [decide_eq_true HF.out]; rfl, HB.out.trans (hbc.mono HB.out.size)⟩
    · have g2 : ((chans.length : Int) != (chans'.length : Int)) = true := by simp; omega
      have HN := Lib.hid (ne_chans (fun e => hc (congrArg List.length e)) (parts := parts) (parts' := parts') (win0 := win0) (win0' := win0') (win1 := win1) (win1' := win1') (len0 := len0) (len0' := len0') (len1 := len1) (len1' := len1'))
      clear hc
      go_enter Try.func11, Try.ntmps11
      go_wp2_with ((try rw [← HW.out]); (first | with_reducible refine wpList_on hbc ?_ | with_reducible refine wp_on hbc (by kernel_rfl) (by kernel_rfl) ?_); (repeat (first | go_big_quiet_step (fail))); with_reducible refine wpQuiet_nil ?_; intro wc hbc)
      go_ret
      exact ⟨by rw [HN.out]; rfl, HB.out.trans (hbc.mono HB.out.size)⟩
  · have g1 : ((parts.length : Int) != (parts'.length : Int)) = true := by simp; omega
    have HN := Lib.hid (ne_parts (fun e => hp (congrArg List.length e)) (chans := chans) (chans' := chans') (win0 := win0) (win0' := win0') (win1 := win1) (win1' := win1') (len0 := len0) (len0' := len0') (len1 := len1) (len1' := len1'))
    clear hp
    go_enter Try.func11, Try.ntmps11
    go_wp2_with ((try rw [← HW.out]); (first | with_reducible refine wpList_on hbc ?_ | with_reducible refine wp_on hbc (by kernel_rfl) (by kernel_rfl) ?_); (repeat (first | go_big_quiet_step (fail))); with_reducible refine wpQuiet_nil ?_; intro wc hbc)
    go_ret
    exact ⟨by rw [HN.out]; rfl, HB.out.trans (hbc.mono HB.out.size)⟩
end Go.Proofs.Ytjknmojjodghdaa
