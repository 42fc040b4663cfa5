/- May, as a contract. No condition but those in the statements. -/
import Derived.Test.YtjnmgofkdimdaaaLMayP
import Derived.Test.YtjnmgofkdimdaaaLNt
import Derived.BigQuiet
import Derived.IntWalk
namespace Go.Proofs.Ytjnmgofkdimdaaa
open Go.RowKit Go.Sort Go.ChangeShapes Go.WideShapes
set_option linter.unusedVariables false
set_option linter.unusedSimpArgs false

theorem SR_le (c : Cfg) : (SR c).length ≤ c.chans.length := by
  unfold SR
  split
  · rw [srL_len]; exact Nat.le_refl _
  · simp
set_option maxRecDepth 100000 in
set_option maxHeartbeats 4000000 in
theorem may_b (c : Cfg) (x : CfgAt) (p a : Int) (w : World) (hx : CfgIn w w.heap.size c x) (wx : CfgWf c) (lx : CfgFew c) : Calls Try.prog 29 #[.agg (cfgCells c x), .int .i64 p, .int .i64 a] w fun e w' => e = .returned (.bool (mayB c p a)) ∧ Below w.heap.size w w' := by
  obtain ⟨W, HW, hB, -, bx⟩ := one_cbox w c x 29
  obtain ⟨pa, pc, ca, cc, aa, ac, ba, bc⟩ := x
  have hxW := hx.later hB
  have HB0 := Lib.hid hB
  have HLY := Lib.hid (lay_b c ⟨pa, pc, ca, cc, aa, ac, ba, bc⟩ W hxW wx lx)
  obtain ⟨c0, c1, c2, c3, c4, c5⟩ := bx _ (Below.refl _ _)
  have HXW := Lib.hid hxW
  simp only [cfgCells] at HW HLY ⊢
  clear hB hx hxW
  go_enter Try.func29, Try.ntmps29
  go_wp2_with (rw [← HW.out])
  refine HLY.out.mono ?_
  rintro e w5 ⟨vp, vs, vd, rfl, r1, r2, r3, hb5⟩
  obtain ⟨A1, k1, rfl, _, _, n1, _, _⟩ := OwnsOff.rowN (ks := [.i64, .i64]) r1 (PV_wf c)
  obtain ⟨A2, k2, rfl, _, _, n2, _, _⟩ := OwnsOff.rowN (ks := [.i64, .i64]) r2 (SR_wf c)
  obtain ⟨A3, k3, rfl, _, _, n3, _, _⟩ := OwnsOff.rowN (ks := [.i64, .i64]) r3 (DS_wf c)
  obtain ⟨V, hV⟩ : ∃ u, Hid (u = w5.alloc (.cells #[.slice A1 (PV c).length k1, .slice A2 (SR c).length k2, .slice A3 (DS c).length k3] 60)) := ⟨_, rfl⟩
  have hb6 : Below w5.heap.size w5 V := by rw [hV.out]; exact (Below.refl _ _).alloc (Nat.le_refl _) _
  have hP6 : V.heap[w5.heap.size]? = some (.cells #[.slice A1 (PV c).length k1, .slice A2 (SR c).length k2, .slice A3 (DS c).length k3] 60 (0, 0)) := by rw [hV.out]; exact heap_alloc_new _ _
  have hbV := hb5.trans (hb6.mono hb5.size)
  have n1 := n1.later hb6
  have N2 := Lib.hid (n2.later hb6); have N3 := Lib.hid (n3.later hb6)
  have HB := Lib.hid (HB0.out.trans (hbV.mono HB0.out.size))
  have HXV := Lib.hid (HXW.out.later hbV)
  obtain ⟨q0, q1, q2, q3, q4, q5⟩ := (bx.on hbV).quiet
  have t0 : ∀ r : Regrown, (grow (redrawn V r.d) r.os).cell? ⟨w5.heap.size, 0, none⟩ = some (.slice A1 (PV c).length k1) := fun r => cell_regrown (cell_blk hP6 (i := 0) rfl) r.d r.os
  have t1 : ∀ r : Regrown, (grow (redrawn V r.d) r.os).cell? ⟨w5.heap.size, 1, none⟩ = some (.slice A2 (SR c).length k2) := fun r => cell_regrown (cell_blk hP6 (i := 1) rfl) r.d r.os
  have t2 : ∀ r : Regrown, (grow (redrawn V r.d) r.os).cell? ⟨w5.heap.size, 2, none⟩ = some (.slice A3 (DS c).length k3) := fun r => cell_regrown (cell_blk hP6 (i := 2) rfl) r.d r.os
  have hRP := fun d os => Calls.regrown_of (nth_b (PV c) A1 k1 p (grow (redrawn V d) os) (n1.later (below_regrown V d os)) (PV_wf c) (PV_len c))
  rw [nthS_pv] at hRP
  have hbc := Below.refl V.heap.size V
  obtain ⟨p0, hp0⟩ : ∃ z, (privSpan c p).1 = z := ⟨_, rfl⟩
  obtain ⟨p1, hp1⟩ : ∃ z, (privSpan c p).2 = z := ⟨_, rfl⟩
  rw [hp0, hp1] at hRP
  have HRP := Lib.hid hRP
  have HP := Lib.hid (show hasS (privSpan c p) a = One.hasB p0 p1 a by unfold hasS; rw [hp0, hp1])
  clear hp0 hp1 hRP n1 n2 n3 r1 r2 r3 hb5 hb6 hbV hP6 c0 c1 c2 c3 c4 c5 bx
  cases hh : One.hasB p0 p1 a with
  | true =>
    go_wp2_with (first | (rw [← hV.out]) | ((first | with_reducible refine wpList_on hbc ?_ | with_reducible refine wp_on hbc (by kernel_rfl) (by kernel_rfl) ?_); (repeat (first | go_big_quiet_step (first | with_reducible exact HRP.out _ _ | with_reducible exact regrown_is (by assumption) (One.has_b _ _ _ _)))); with_reducible refine wpQuiet_nil ?_; intro wc hbc))
    go_ret
    exact ⟨by rw [show mayB c p a = true from by unfold mayB; rw [HP.out, hh, Bool.true_or]]; rfl, HB.out.trans (hbc.mono HB.out.size)⟩
  | false =>
    go_wp2_with (first | (rw [← hV.out]) | ((first | with_reducible refine wpList_on hbc ?_ | with_reducible refine wp_on hbc (by kernel_rfl) (by kernel_rfl) ?_); (repeat (first | go_big_quiet_step (first | with_reducible exact HRP.out _ _ | with_reducible exact regrown_is (by assumption) (One.has_b _ _ _ _)))); with_reducible refine wpQuiet_nil ?_; intro wc hbc))
    clear HRP
    go_loopw [20] (fun ix wr => ∃ k : Nat, k ≤ (SR c).length ∧ ix = .int .i64 k ∧ (∀ j, j < k → chMay c p a j = false) ∧ Below V.heap.size V wr) (fun ix _ => (SR c).length - (intOf ix).toNat)
    case atStart => exact ⟨0, Nat.zero_le _, rfl, (fun j hj => by omega), hbc⟩
    case round =>
      clear hbc
      obtain ⟨k, hk, rfl, hno, hbc⟩ := hrel
      have HN := Lib.hid hno
      clear hno
      by_cases hlt : k < (SR c).length
      · have hsl := SR_le c
        have hds := SR_DS c
        have hkc : k < c.chans.length := by omega
        obtain ⟨b, o, x0, x1, x2, x3, x4, x5, x6, e0, _, e1, -, hrow⟩ := HXV.out.rc.at7 wx.wc hkc
        have r1 : ∀ r : Regrown, (grow (redrawn V r.d) r.os).cell? ⟨b, o + k * 7 + 1, none⟩ = _ := fun r => (hrow _ (below_regrown V r.d r.os)).2.1
        have r2 : ∀ r : Regrown, (grow (redrawn V r.d) r.os).cell? ⟨b, o + k * 7 + 2, none⟩ = _ := fun r => (hrow _ (below_regrown V r.d r.os)).2.2.1
        obtain ⟨bs, os, s0, s1, f0, _, fs, -, hrs⟩ := N2.out.at2 (SR_wf c) hlt
        obtain ⟨bd, od, d0, d1, g0, _, fd, -, hrd⟩ := N3.out.at2 (DS_wf c) (show k < (DS c).length by omega)
        have u0 : ∀ r : Regrown, (grow (redrawn V r.d) r.os).cell? ⟨bs, os + k * 2, none⟩ = _ := fun r => (hrs _ (below_regrown V r.d r.os)).1
        have u1 : ∀ r : Regrown, (grow (redrawn V r.d) r.os).cell? ⟨bs, os + k * 2 + 1, none⟩ = _ := fun r => (hrs _ (below_regrown V r.d r.os)).2
        have v0' : ∀ r : Regrown, (grow (redrawn V r.d) r.os).cell? ⟨bd, od + k * 2, none⟩ = _ := fun r => (hrd _ (below_regrown V r.d r.os)).1
        have v1' : ∀ r : Regrown, (grow (redrawn V r.d) r.os).cell? ⟨bd, od + k * 2 + 1, none⟩ = _ := fun r => (hrd _ (below_regrown V r.d r.os)).2
        have HS := Lib.hid (show srcSpan c (k : Int) = (s0, s1) by rw [← nthS_sr]; exact nthS_at fs)
        have HD := Lib.hid (show dstSpan c (k : Int) = (d0, d1) by rw [← nthS_ds]; exact nthS_at fd)
        have E1 := Lib.hid e1
        have i0 : (0 : Int) ≤ (k : Int) := by omega
        have i1 : (k : Int) < (c.chans.length : Int) := by omega
        have i2 : (k : Int) < ((SR c).length : Int) := by omega
        have i3 : (k : Int) < ((DS c).length : Int) := by omega
        have v0 := IntWalk.i64_in ((k : Int) + 1) (by have := lx.2.1; omega)
        clear e1 hrow fs fd hrs hrd hsl hds
        subst e0 f0 g0
        by_cases e1 : x1 = p
        · have g1 : (x1 == p) = true := by simp [e1]
          cases h1 : One.hasB s0 s1 a with
          | true =>
            have hcm : chMay c p a k = true := by
              unfold chMay hasS
              rw [row_at E1.out, HS.out, HD.out]
              show ((decide (x1 = p) && One.hasB s0 s1 a) || (decide (x2 = p) && One.hasB d0 d1 a)) = true
              simp [e1, h1]
            have HCM := Lib.hid hcm
            clear hcm
            go_wp2_with ((first | with_reducible refine wpList_on hbc ?_ | with_reducible refine wp_on hbc (by kernel_rfl) (by kernel_rfl) ?_); (repeat (first | go_big_quiet_step (first | fail | with_reducible exact regrown_is (by assumption) (One.has_b _ _ _ _)))); with_reducible refine wpQuiet_nil ?_; intro wc hbc)
            go_ret
            exact ⟨by rw [show mayB c p a = true from by rw [← may_sr, scan_true (k := k) hlt HCM.out, Bool.or_true]]; rfl, HB.out.trans (hbc.mono HB.out.size)⟩
          | false =>
            by_cases e2 : x2 = p
            · have g2 : (x2 == p) = true := by simp [e2]
              cases h2 : One.hasB d0 d1 a with
              | true =>
                have hcm : chMay c p a k = true := by
                  unfold chMay hasS
                  rw [row_at E1.out, HS.out, HD.out]
                  show ((decide (x1 = p) && One.hasB s0 s1 a) || (decide (x2 = p) && One.hasB d0 d1 a)) = true
                  simp [e1, h1, e2, h2]
                have HCM := Lib.hid hcm
                clear hcm
                go_wp2_with ((first | with_reducible refine wpList_on hbc ?_ | with_reducible refine wp_on hbc (by kernel_rfl) (by kernel_rfl) ?_); (repeat (first | go_big_quiet_step (first | fail | with_reducible exact regrown_is (by assumption) (One.has_b _ _ _ _)))); with_reducible refine wpQuiet_nil ?_; intro wc hbc)
                go_ret
                exact ⟨by rw [show mayB c p a = true from by rw [← may_sr, scan_true (k := k) hlt HCM.out, Bool.or_true]]; rfl, HB.out.trans (hbc.mono HB.out.size)⟩
              | false =>
                have hcm : chMay c p a k = false := by
                  unfold chMay hasS
                  rw [row_at E1.out, HS.out, HD.out]
                  show ((decide (x1 = p) && One.hasB s0 s1 a) || (decide (x2 = p) && One.hasB d0 d1 a)) = false
                  simp [e1, h1, e2, h2]
                have HCM := Lib.hid hcm
                clear hcm
                go_wp2_with ((first | with_reducible refine wpList_on hbc ?_ | with_reducible refine wp_on hbc (by kernel_rfl) (by kernel_rfl) ?_); (repeat (first | go_big_quiet_step (first | fail | with_reducible exact regrown_is (by assumption) (One.has_b _ _ _ _)))); with_reducible refine wpQuiet_nil ?_; intro wc hbc)
                go_roundw
                case rel => exact ⟨k + 1, by omega, by go_num, (fun j hj => by
                  by_cases e : j = k
                  · subst e; exact HCM.out
                  · exact HN.out j (by omega)), hbc⟩
                case measure => simp [intOf]; omega
            · have g2 : (x2 == p) = false := by simp [e2]
              have hcm : chMay c p a k = false := by
                unfold chMay hasS
                rw [row_at E1.out, HS.out, HD.out]
                show ((decide (x1 = p) && One.hasB s0 s1 a) || (decide (x2 = p) && One.hasB d0 d1 a)) = false
                simp [e1, h1, e2]
              have HCM := Lib.hid hcm
              clear hcm
              go_wp2_with ((first | with_reducible refine wpList_on hbc ?_ | with_reducible refine wp_on hbc (by kernel_rfl) (by kernel_rfl) ?_); (repeat (first | go_big_quiet_step (first | fail | with_reducible exact regrown_is (by assumption) (One.has_b _ _ _ _)))); with_reducible refine wpQuiet_nil ?_; intro wc hbc)
              go_roundw
              case rel => exact ⟨k + 1, by omega, by go_num, (fun j hj => by
                by_cases e : j = k
                · subst e; exact HCM.out
                · exact HN.out j (by omega)), hbc⟩
              case measure => simp [intOf]; omega
        · have g1 : (x1 == p) = false := by simp [e1]
          by_cases e2 : x2 = p
          · have g2 : (x2 == p) = true := by simp [e2]
            cases h2 : One.hasB d0 d1 a with
            | true =>
              have hcm : chMay c p a k = true := by
                unfold chMay hasS
                rw [row_at E1.out, HS.out, HD.out]
                show ((decide (x1 = p) && One.hasB s0 s1 a) || (decide (x2 = p) && One.hasB d0 d1 a)) = true
                simp [e1, e2, h2]
              have HCM := Lib.hid hcm
              clear hcm
              go_wp2_with ((first | with_reducible refine wpList_on hbc ?_ | with_reducible refine wp_on hbc (by kernel_rfl) (by kernel_rfl) ?_); (repeat (first | go_big_quiet_step (first | fail | with_reducible exact regrown_is (by assumption) (One.has_b _ _ _ _)))); with_reducible refine wpQuiet_nil ?_; intro wc hbc)
              go_ret
              exact ⟨by rw [show mayB c p a = true from by rw [← may_sr, scan_true (k := k) hlt HCM.out, Bool.or_true]]; rfl, HB.out.trans (hbc.mono HB.out.size)⟩
            | false =>
              have hcm : chMay c p a k = false := by
                unfold chMay hasS
                rw [row_at E1.out, HS.out, HD.out]
                show ((decide (x1 = p) && One.hasB s0 s1 a) || (decide (x2 = p) && One.hasB d0 d1 a)) = false
                simp [e1, e2, h2]
              have HCM := Lib.hid hcm
              clear hcm
              go_wp2_with ((first | with_reducible refine wpList_on hbc ?_ | with_reducible refine wp_on hbc (by kernel_rfl) (by kernel_rfl) ?_); (repeat (first | go_big_quiet_step (first | fail | with_reducible exact regrown_is (by assumption) (One.has_b _ _ _ _)))); with_reducible refine wpQuiet_nil ?_; intro wc hbc)
              go_roundw
              case rel => exact ⟨k + 1, by omega, by go_num, (fun j hj => by
                by_cases e : j = k
                · subst e; exact HCM.out
                · exact HN.out j (by omega)), hbc⟩
              case measure => simp [intOf]; omega
          · have g2 : (x2 == p) = false := by simp [e2]
            have hcm : chMay c p a k = false := by
              unfold chMay hasS
              rw [row_at E1.out, HS.out, HD.out]
              show ((decide (x1 = p) && One.hasB s0 s1 a) || (decide (x2 = p) && One.hasB d0 d1 a)) = false
              simp [e1, e2]
            have HCM := Lib.hid hcm
            clear hcm
            go_wp2_with ((first | with_reducible refine wpList_on hbc ?_ | with_reducible refine wp_on hbc (by kernel_rfl) (by kernel_rfl) ?_); (repeat (first | go_big_quiet_step (first | fail | with_reducible exact regrown_is (by assumption) (One.has_b _ _ _ _)))); with_reducible refine wpQuiet_nil ?_; intro wc hbc)
            go_roundw
            case rel => exact ⟨k + 1, by omega, by go_num, (fun j hj => by
              by_cases e : j = k
              · subst e; exact HCM.out
              · exact HN.out j (by omega)), hbc⟩
            case measure => simp [intOf]; omega
      · have HX := Lib.hid (show mayB c p a = false by rw [← may_sr, HP.out, hh, Bool.false_or]; exact scan_no (fun j hj => HN.out j (by omega)))
        go_wp2_with ((first | with_reducible refine wpList_on hbc ?_ | with_reducible refine wp_on hbc (by kernel_rfl) (by kernel_rfl) ?_); (repeat (first | go_big_quiet_step (first | fail))); with_reducible refine wpQuiet_nil ?_; intro wc hbc)
        go_ret
        exact ⟨by rw [HX.out]; rfl, HB.out.trans (hbc.mono HB.out.size)⟩
end Go.Proofs.Ytjnmgofkdimdaaa
