/- The document's May, as a contract. No condition but those in the statements. -/
import Derived.Test.YtjnmgofkdimdaaaLMayP
import Derived.Test.YtjnmgofkdimdaaaRAll8
import Derived.BigQuiet
import Derived.IntWalk
namespace Go.Proofs.Ytjnmgofkdimdaaa
open Go.RowKit Go.Sort Go.ChangeShapes Go.WideShapes
set_option linter.unusedVariables false
set_option linter.unusedSimpArgs false

set_option maxRecDepth 100000 in
set_option maxHeartbeats 4000000 in
theorem rmay_b (c : Cfg) (x : CfgAt) (p a : Int) (w : World) (hx : CfgIn w w.heap.size c x) (wx : CfgWf c) (lx : CfgFew c) : Calls Try.prog 30 #[.agg (cfgCells c x), .int .i64 p, .int .i64 a] w fun e w' => e = .returned (.bool (mayB c p a)) ∧ Below w.heap.size w w' := by
  obtain ⟨W, HW, hB, -, bx⟩ := one_cbox w c x 29
  obtain ⟨pa, pc, ca, cc, aa, ac, ba, bc⟩ := x
  have hxW := hx.later hB
  have HB := Lib.hid hB; have HXW := Lib.hid hxW
  have HRP := Lib.hid (fun d os => Calls.regrown_of (rprivate_b c ⟨pa, pc, ca, cc, aa, ac, ba, bc⟩ p (grow (redrawn W d) os) (hxW.later (below_regrown W d os)) wx lx))
  obtain ⟨q0, q1, q2, q3, q4, q5⟩ := bx.quiet
  have hbc := Below.refl W.heap.size W
  simp only [cfgCells] at HW HRP ⊢
  clear hB hx hxW
  obtain ⟨p0, hp0⟩ : ∃ z, (privSpan c p).1 = z := ⟨_, rfl⟩
  obtain ⟨p1, hp1⟩ : ∃ z, (privSpan c p).2 = z := ⟨_, rfl⟩
  rw [hp0, hp1] at HRP
  have HP := Lib.hid (show hasS (privSpan c p) a = One.hasB p0 p1 a by unfold hasS; rw [hp0, hp1])
  clear hp0 hp1
  cases hh : One.hasB p0 p1 a with
  | true =>
    go_enter Try.func30, Try.ntmps30
    go_wp2_with (first | (rw [← HW.out]) | ((first | with_reducible refine wpList_on hbc ?_ | with_reducible refine wp_on hbc (by kernel_rfl) (by kernel_rfl) ?_); (repeat (first | go_big_quiet_step (first | with_reducible exact HRP.out _ _ | with_reducible exact regrown_is (by assumption) (One.rhas_b _ _ _ _)))); with_reducible refine wpQuiet_nil ?_; intro wc hbc))
    go_ret
    exact ⟨by rw [show mayB c p a = true from by unfold mayB; rw [HP.out, hh, Bool.true_or]]; rfl, HB.out.trans (hbc.mono HB.out.size)⟩
  | false =>
    go_enter Try.func30, Try.ntmps30
    go_wp2_with (first | (rw [← HW.out]) | ((first | with_reducible refine wpList_on hbc ?_ | with_reducible refine wp_on hbc (by kernel_rfl) (by kernel_rfl) ?_); (repeat (first | go_big_quiet_step (first | with_reducible exact HRP.out _ _ | with_reducible exact regrown_is (by assumption) (One.rhas_b _ _ _ _)))); with_reducible refine wpQuiet_nil ?_; intro wc hbc))
    clear HRP
    go_loopw [7] (fun ix wr => ∃ k : Nat, k ≤ c.chans.length ∧ ix = .int .i64 k ∧ (∀ j, j < k → chMay c p a j = false) ∧ Below W.heap.size W wr) (fun ix _ => c.chans.length - (intOf ix).toNat)
    case atStart => exact ⟨0, Nat.zero_le _, rfl, (fun j hj => by omega), hbc⟩
    case round =>
      clear hbc
      obtain ⟨k, hk, rfl, hno, hbc⟩ := hrel
      have HN := Lib.hid hno
      clear hno
      by_cases hlt : k < c.chans.length
      · obtain ⟨b, o, x0, x1, x2, x3, x4, x5, x6, e0, _, e1, -, hrow⟩ := HXW.out.rc.at7 wx.wc hlt
        have r1 : ∀ r : Regrown, (grow (redrawn W r.d) r.os).cell? ⟨b, o + k * 7 + 1, none⟩ = _ := fun r => (hrow _ (below_regrown W r.d r.os)).2.1
        have r2 : ∀ r : Regrown, (grow (redrawn W r.d) r.os).cell? ⟨b, o + k * 7 + 2, none⟩ = _ := fun r => (hrow _ (below_regrown W r.d r.os)).2.2.1
        have HSR := Lib.hid (fun d os => Calls.regrown_of (rsource_b c ⟨pa, pc, ca, cc, aa, ac, ba, bc⟩ (k : Int) (grow (redrawn W d) os) (HXW.out.later (below_regrown W d os)) wx lx))
        have HDR := Lib.hid (fun d os => Calls.regrown_of (rdest_b c ⟨pa, pc, ca, cc, aa, ac, ba, bc⟩ (k : Int) (grow (redrawn W d) os) (HXW.out.later (below_regrown W d os)) wx lx))
        obtain ⟨s0, hs0⟩ : ∃ z, (srcSpan c (k : Int)).1 = z := ⟨_, rfl⟩
        obtain ⟨s1, hs1⟩ : ∃ z, (srcSpan c (k : Int)).2 = z := ⟨_, rfl⟩
        obtain ⟨d0, hd0⟩ : ∃ z, (dstSpan c (k : Int)).1 = z := ⟨_, rfl⟩
        obtain ⟨d1, hd1⟩ : ∃ z, (dstSpan c (k : Int)).2 = z := ⟨_, rfl⟩
        rw [hs0, hs1] at HSR
        rw [hd0, hd1] at HDR
        have HS := Lib.hid (show srcSpan c (k : Int) = (s0, s1) by rw [← hs0, ← hs1])
        have HD := Lib.hid (show dstSpan c (k : Int) = (d0, d1) by rw [← hd0, ← hd1])
        have E1 := Lib.hid e1
        have i0 : (0 : Int) ≤ (k : Int) := by omega
        have i1 : (k : Int) < (c.chans.length : Int) := by omega
        have v0 := IntWalk.i64_in ((k : Int) + 1) (by have := lx.2.1; omega)
        simp only [cfgCells] at HSR HDR
        clear e1 hrow hs0 hs1 hd0 hd1
        subst e0
        by_cases e1 : x1 = p
        · have g1 : (x1 == p) = true := by simp [e1]
          cases h1 : One.hasB s0 s1 a with
          | true =>
            have hcm : chMay c p a k = true := by
              unfold chMay hasS
              rw [row_at E1.out, HS.out, HD.out]
              show ((decide (x1 = p) && One.hasB s0 s1 a) || (decide (x2 = p) && One.hasB d0 d1 a)) = true
              simp [e1, h1]
            have HCM := Lib.hid hcm
            clear hcm
            go_wp2_with ((first | with_reducible refine wpList_on hbc ?_ | with_reducible refine wp_on hbc (by kernel_rfl) (by kernel_rfl) ?_); (repeat (first | go_big_quiet_step (first | with_reducible exact HSR.out _ _ | with_reducible exact HDR.out _ _ | with_reducible exact regrown_is (by assumption) (One.rhas_b _ _ _ _)))); with_reducible refine wpQuiet_nil ?_; intro wc hbc)
            go_ret
            exact ⟨by rw [show mayB c p a = true from by unfold mayB; rw [scan_true (k := k) hlt HCM.out, Bool.or_true]]; rfl, HB.out.trans (hbc.mono HB.out.size)⟩
          | false =>
            by_cases e2 : x2 = p
            · have g2 : (x2 == p) = true := by simp [e2]
              cases h2 : One.hasB d0 d1 a with
              | true =>
                have hcm : chMay c p a k = true := by
                  unfold chMay hasS
                  rw [row_at E1.out, HS.out, HD.out]
                  show ((decide (x1 = p) && One.hasB s0 s1 a) || (decide (x2 = p) && One.hasB d0 d1 a)) = true
                  simp [e1, h1, e2, h2]
                have HCM := Lib.hid hcm
                clear hcm
                go_wp2_with ((first | with_reducible refine wpList_on hbc ?_ | with_reducible refine wp_on hbc (by kernel_rfl) (by kernel_rfl) ?_); (repeat (first | go_big_quiet_step (first | with_reducible exact HSR.out _ _ | with_reducible exact HDR.out _ _ | with_reducible exact regrown_is (by assumption) (One.rhas_b _ _ _ _)))); with_reducible refine wpQuiet_nil ?_; intro wc hbc)
                go_ret
                exact ⟨by rw [show mayB c p a = true from by unfold mayB; rw [scan_true (k := k) hlt HCM.out, Bool.or_true]]; rfl, HB.out.trans (hbc.mono HB.out.size)⟩
              | false =>
                have hcm : chMay c p a k = false := by
                  unfold chMay hasS
                  rw [row_at E1.out, HS.out, HD.out]
                  show ((decide (x1 = p) && One.hasB s0 s1 a) || (decide (x2 = p) && One.hasB d0 d1 a)) = false
                  simp [e1, h1, e2, h2]
                have HCM := Lib.hid hcm
                clear hcm
                go_wp2_with ((first | with_reducible refine wpList_on hbc ?_ | with_reducible refine wp_on hbc (by kernel_rfl) (by kernel_rfl) ?_); (repeat (first | go_big_quiet_step (first | with_reducible exact HSR.out _ _ | with_reducible exact HDR.out _ _ | with_reducible exact regrown_is (by assumption) (One.rhas_b _ _ _ _)))); with_reducible refine wpQuiet_nil ?_; intro wc hbc)
                go_roundw
                case rel => exact ⟨k + 1, by omega, by go_num, (fun j hj => by
                  by_cases e : j = k
                  · subst e; exact HCM.out
                  · exact HN.out j (by omega)), hbc⟩
                case measure => simp [intOf]; omega
            · have g2 : (x2 == p) = false := by simp [e2]
              have hcm : chMay c p a k = false := by
                unfold chMay hasS
                rw [row_at E1.out, HS.out, HD.out]
                show ((decide (x1 = p) && One.hasB s0 s1 a) || (decide (x2 = p) && One.hasB d0 d1 a)) = false
                simp [e1, h1, e2]
              have HCM := Lib.hid hcm
              clear hcm
              go_wp2_with ((first | with_reducible refine wpList_on hbc ?_ | with_reducible refine wp_on hbc (by kernel_rfl) (by kernel_rfl) ?_); (repeat (first | go_big_quiet_step (first | with_reducible exact HSR.out _ _ | with_reducible exact HDR.out _ _ | with_reducible exact regrown_is (by assumption) (One.rhas_b _ _ _ _)))); with_reducible refine wpQuiet_nil ?_; intro wc hbc)
              go_roundw
              case rel => exact ⟨k + 1, by omega, by go_num, (fun j hj => by
                by_cases e : j = k
                · subst e; exact HCM.out
                · exact HN.out j (by omega)), hbc⟩
              case measure => simp [intOf]; omega
        · have g1 : (x1 == p) = false := by simp [e1]
          by_cases e2 : x2 = p
          · have g2 : (x2 == p) = true := by simp [e2]
            cases h2 : One.hasB d0 d1 a with
            | true =>
              have hcm : chMay c p a k = true := by
                unfold chMay hasS
                rw [row_at E1.out, HS.out, HD.out]
                show ((decide (x1 = p) && One.hasB s0 s1 a) || (decide (x2 = p) && One.hasB d0 d1 a)) = true
                simp [e1, e2, h2]
              have HCM := Lib.hid hcm
              clear hcm
              go_wp2_with ((first | with_reducible refine wpList_on hbc ?_ | with_reducible refine wp_on hbc (by kernel_rfl) (by kernel_rfl) ?_); (repeat (first | go_big_quiet_step (first | with_reducible exact HSR.out _ _ | with_reducible exact HDR.out _ _ | with_reducible exact regrown_is (by assumption) (One.rhas_b _ _ _ _)))); with_reducible refine wpQuiet_nil ?_; intro wc hbc)
              go_ret
              exact ⟨by rw [show mayB c p a = true from by unfold mayB; rw [scan_true (k := k) hlt HCM.out, Bool.or_true]]; rfl, HB.out.trans (hbc.mono HB.out.size)⟩
            | false =>
              have hcm : chMay c p a k = false := by
                unfold chMay hasS
                rw [row_at E1.out, HS.out, HD.out]
                show ((decide (x1 = p) && One.hasB s0 s1 a) || (decide (x2 = p) && One.hasB d0 d1 a)) = false
                simp [e1, e2, h2]
              have HCM := Lib.hid hcm
              clear hcm
              go_wp2_with ((first | with_reducible refine wpList_on hbc ?_ | with_reducible refine wp_on hbc (by kernel_rfl) (by kernel_rfl) ?_); (repeat (first | go_big_quiet_step (first | with_reducible exact HSR.out _ _ | with_reducible exact HDR.out _ _ | with_reducible exact regrown_is (by assumption) (One.rhas_b _ _ _ _)))); with_reducible refine wpQuiet_nil ?_; intro wc hbc)
              go_roundw
              case rel => exact ⟨k + 1, by omega, by go_num, (fun j hj => by
                by_cases e : j = k
                · subst e; exact HCM.out
                · exact HN.out j (by omega)), hbc⟩
              case measure => simp [intOf]; omega
          · have g2 : (x2 == p) = false := by simp [e2]
            have hcm : chMay c p a k = false := by
              unfold chMay hasS
              rw [row_at E1.out, HS.out, HD.out]
              show ((decide (x1 = p) && One.hasB s0 s1 a) || (decide (x2 = p) && One.hasB d0 d1 a)) = false
              simp [e1, e2]
            have HCM := Lib.hid hcm
            clear hcm
            go_wp2_with ((first | with_reducible refine wpList_on hbc ?_ | with_reducible refine wp_on hbc (by kernel_rfl) (by kernel_rfl) ?_); (repeat (first | go_big_quiet_step (first | with_reducible exact HSR.out _ _ | with_reducible exact HDR.out _ _ | with_reducible exact regrown_is (by assumption) (One.rhas_b _ _ _ _)))); with_reducible refine wpQuiet_nil ?_; intro wc hbc)
            go_roundw
            case rel => exact ⟨k + 1, by omega, by go_num, (fun j hj => by
              by_cases e : j = k
              · subst e; exact HCM.out
              · exact HN.out j (by omega)), hbc⟩
            case measure => simp [intOf]; omega
      · have HX := Lib.hid (show mayB c p a = false by unfold mayB; rw [HP.out, hh, Bool.false_or]; exact scan_no (fun j hj => HN.out j (by omega)))
        go_wp2_with ((first | with_reducible refine wpList_on hbc ?_ | with_reducible refine wp_on hbc (by kernel_rfl) (by kernel_rfl) ?_); (repeat (first | go_big_quiet_step (first | fail))); with_reducible refine wpQuiet_nil ?_; intro wc hbc)
        go_ret
        exact ⟨by rw [HX.out]; rfl, HB.out.trans (hbc.mono HB.out.size)⟩
end Go.Proofs.Ytjnmgofkdimdaaa
