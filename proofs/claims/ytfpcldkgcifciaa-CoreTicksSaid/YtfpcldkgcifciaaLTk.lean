/- CoreTicks answers true. No condition but those in the statements. -/
import Derived.Test.YtfpcldkgcifciaaCorK
import Derived.Test.YtfpcldkgcifciaaLOpen
import Derived.BigQuiet
import Derived.Deep.RegionHeld3
import Derived.IntWalk
import Derived.BigRegion
import Derived.OpenShut
namespace Go.Proofs.Ytfpcldkgcifciaa
open Go.RowKit Go.Sort Go.ChangeShapes Go.WideShapes
set_option linter.unusedVariables false
set_option linter.unusedSimpArgs false

set_option linter.unusedVariables false
set_option linter.unusedSimpArgs false

theorem u8_in15 {n : Int} (h : (Lit.int .u8 n).wf = true) : 0 ≤ n ∧ n ≤ 255 := by
  simp [Lit.wf, IntKind.min, IntKind.max, IntKind.signed, IntKind.bits] at h; omega
set_option maxRecDepth 100000 in
set_option maxHeartbeats 8000000 in
theorem lticks_b (c : Cfg) (x : CfgAt) (n other : Int) (w : World) (hx : CfgIn w w.heap.size c x) (wx : CfgWf c) (hn : 0 ≤ n ∧ n ≤ 255) (hot : (Lit.int .i64 other).wf = true) : Calls Try.prog 3 #[.agg (cfgCells c x), .int .u8 n, .int .i64 other] w fun e w' => e = .returned (.bool true) ∧ Below w.heap.size w w' := by
  obtain ⟨W, HW, hB0, hWs, bx⟩ := one_cbox w c x 29
  have HB := Lib.hid hB0; have HXW := Lib.hid (hx.later hB0); have BX := Lib.hid bx; have HWX := Lib.hid wx
  simp only [cfgCells] at HW ⊢
  clear hx hB0 hWs bx wx
  go_enter Try.func3, Try.ntmps3
  go_wp2_with (rw [← HW.out])
  refine (wakes_b W).mono ?_
  rintro e w1 ⟨rfl, hb1⟩
  have HX1 := Lib.hid (HXW.out.later hb1)
  obtain ⟨c0, c1, c2, c3, c4, c5⟩ := BX.out _ hb1
  have HB1 := Lib.hid hb1
  clear hb1
  by_cases hg : cfgLe 100 c = true
  case neg =>
    have HG := Lib.hid (great_is c x true w1 (by rw [Bool.not_eq_true] at hg; rw [hg]; rfl))
    simp only [cfgCells] at HG
    clear hg
    go_wp2_with fail
    refine HG.out.mono ?_
    rintro e w2 ⟨rfl, hb2⟩
    have HF := Lib.hid (HB.out.trans ((HB1.out.trans (hb2.mono HB1.out.size)).mono HB.out.size))
    clear hb2
    go_wp2
    go_ret
    exact ⟨rfl, HF.out⟩
  have lx := cfgLe_few hg (by omega)
  have HLX := Lib.hid lx
  have HG := Lib.hid (great_is c x false w1 (by rw [hg]; rfl))
  simp only [cfgCells] at HG
  clear hg lx
  go_wp2_with fail
  refine HG.out.mono ?_
  rintro e w2 ⟨rfl, hb2⟩
  have HX2 := Lib.hid (HX1.out.later hb2)
  have HB2 := Lib.hid (HB1.out.trans (hb2.mono HB1.out.size))
  clear hb2 c0 c1 c2 c3 c4 c5
  obtain ⟨c0, c1, c2, c3, c4, c5⟩ := BX.out _ HB2.out
  by_cases ha : acceptsB c = true
  case neg =>
    have HRC := Lib.hid (racc_b c x false w2 HX2.out HWX.out HLX.out (by simpa using ha))
    simp only [cfgCells] at HRC
    clear ha
    go_wp2_with fail
    refine HRC.out.mono ?_
    rintro e w3 ⟨rfl, hb3⟩
    have HF := Lib.hid (HB.out.trans ((HB2.out.trans (hb3.mono HB2.out.size)).mono HB.out.size))
    clear hb3
    go_wp2
    go_ret
    exact ⟨rfl, HF.out⟩
  have HACC := Lib.hid (acc15_of ha)
  have HFR := Lib.hid (CfgFr.of HWX.out HLX.out)
  have HRC := Lib.hid (racc_b c x true w2 HX2.out HWX.out HLX.out ha)
  simp only [cfgCells] at HRC
  clear ha
  go_wp2_with fail
  refine HRC.out.mono ?_
  rintro e w3 ⟨rfl, hb3⟩
  have HX3 := Lib.hid (HX2.out.later hb3)
  have HB3 := Lib.hid (HB2.out.trans (hb3.mono HB2.out.size))
  clear hb3 c0 c1 c2 c3 c4 c5 HG HRC HX1 HX2 HB1 HB2
  obtain ⟨c0, c1, c2, c3, c4, c5⟩ := BX.out _ HB3.out
  have HNW := Lib.hid (new_b c x w3 HX3.out HFR.out)
  simp only [cfgCells] at HNW
  go_wp2_with fail
  refine HNW.out.mono ?_
  rintro e w4 ⟨b, y, rfl, hbl, hk4, hb4⟩
  have HB4 := Lib.hid (HB3.out.trans (hb4.mono HB3.out.size))
  have HBL := Lib.hid (Nat.le_trans HB3.out.size hbl)
  have HK4 := Lib.hid hk4
  clear hbl hk4 hb4 HNW c0 c1 c2 c3 c4 c5
  obtain ⟨hn0, hn1⟩ := hn
  go_wp2_with fail
  go_loopw [30] (fun ix wr => ∃ i : Nat, (i : Int) ≤ n ∧ ix = .int .i64 i ∧ ClkAt wr b c y i ∧ Below W.heap.size W wr) (fun ix _ => (n - intOf ix).toNat)
  case atStart => exact ⟨0, by omega, rfl, HK4.out, HB4.out⟩
  case round =>
    obtain ⟨i, hi, rfl, hk, hbr⟩ := hrel
    by_cases hin : (i : Int) = n
    · have HF := Lib.hid (HB.out.trans (hbr.mono HB.out.size))
      subst hin
      clear hk hbr
      go_wp2
      go_ret
      exact ⟨rfl, HF.out⟩
    · have HKR := Lib.hid hk
      have HBR := Lib.hid hbr
      have hlt : (i : Int) < n := by omega
      have hNOW := Lib.hid (now_b c y b (i : Int) wr hk)
      clear hk hbr
      go_wp2_with fail
      refine hNOW.out.mono ?_
      rintro e w5 ⟨rfl, rfl⟩
      obtain ⟨lb, hlb⟩ : ∃ lb, lb = wr.heap.size := ⟨_, rfl⟩
      obtain ⟨wl, hwl⟩ : ∃ u, Hid (u = wr.alloc (.cells #[.int .i64 0, .int .i64 1, .int .i64 other] 3)) := ⟨_, rfl⟩
      have hbl : Below wr.heap.size wr wl := by rw [hwl.out]; exact (Below.refl _ _).alloc (Nat.le_refl _) _
      have HLB : Hid (wl.heap[lb]? = some (.cells #[.int .i64 0, .int .i64 1, .int .i64 other] 3 (0, 0))) := Lib.hid (by rw [hwl.out, hlb]; exact heap_alloc_new _ _)
      have HLT := Lib.hid (Array.getElem?_eq_some_iff.1 HLB.out).1
      have HBWL := Lib.hid (HBR.out.trans (hbl.mono HBR.out.size))
      have HKL := Lib.hid (HKR.out.later hbl)
      clear hNOW hbl
      go_wp2_with (rw [← hwl.out])
      rw [← hlb]
      clear hlb
      obtain ⟨wo, rfl⟩ : ∃ wo, wo = wr := ⟨_, rfl⟩
      go_loopw [40] (fun jx wv => ∃ j : Nat, j ≤ 3 ∧ jx = .int .i64 j ∧ Below wl.heap.size wl wv ∧ wo = wo) (fun jx _ => (3 - intOf jx).toNat)
      case atStart => exact ⟨0, by omega, rfl, Below.refl _ _, by trivial⟩
      case round =>
        obtain ⟨j, hj, rfl, hbv, -⟩ := hrel
        obtain ⟨wv, hwv⟩ : ∃ wv, wv = wr := ⟨_, rfl⟩
        rw [← hwv] at hbv ⊢
        clear hwv wr
        have hbW := HBWL.out.trans (hbv.mono HBWL.out.size)
        rcases (show j = 0 ∨ j = 1 ∨ j = 2 ∨ j = 3 by omega) with rfl | rfl | rfl | rfl
        · obtain ⟨Y, hY⟩ : ∃ Y, (whoO2 openB c 0 (i : Int)).getD 0 = Y := ⟨_, rfl⟩
          obtain ⟨Q, hQ⟩ : ∃ Q, (whoO2 openB c 0 (i : Int)).isSome = Q := ⟨_, rfl⟩
          have HW1 := Lib.hid (who_b c y b (i : Int) 0 Y Q wv (HKL.out.later hbv) HFR.out hY hQ)
          have HW2 := Lib.hid (fun u (hu : Below wv.heap.size wv u) => rwho_b c x (i : Int) 0 Y Q u (HXW.out.later (hbW.trans (hu.mono hbW.size))) HFR.out hY hQ)
          simp only [cfgCells] at HW2
          have d0 := (hbv.block _ HLT.out).trans HLB.out
          have e0 : wv.cell? ⟨lb, 0, none⟩ = some (.int .i64 (0)) := cell_blk d0 (i := 0) rfl
          have HBW := Lib.hid hbW; have HBV := Lib.hid hbv
          clear hY hQ d0 hbW hbv
          go_wp2_with fail
          refine HW1.out.mono ?_
          rintro e w5 ⟨rfl, hb5⟩
          have HB5 := Lib.hid (HBW.out.trans (hb5.mono HBW.out.size)); have HV5 := Lib.hid (HBV.out.trans (hb5.mono HBV.out.size))
          obtain ⟨c0, c1, c2, c3, c4, c5⟩ := BX.out _ HB5.out
          have HW3 := Lib.hid (HW2.out _ hb5)
          clear hb5 e0 HW1 HW2
          go_wp2_with fail
          refine HW3.out.mono ?_
          rintro e w6 ⟨rfl, hb6⟩
          have HV6 := Lib.hid (HV5.out.trans (hb6.mono HV5.out.size))
          clear hb6 c0 c1 c2 c3 c4 c5 HW3
          go_wp2
          go_roundw
          case rel => exact ⟨1, by omega, rfl, HV6.out, by trivial⟩
          case measure => simp [intOf]
        · obtain ⟨Y, hY⟩ : ∃ Y, (whoO2 openB c 1 (i : Int)).getD 0 = Y := ⟨_, rfl⟩
          obtain ⟨Q, hQ⟩ : ∃ Q, (whoO2 openB c 1 (i : Int)).isSome = Q := ⟨_, rfl⟩
          have HW1 := Lib.hid (who_b c y b (i : Int) 1 Y Q wv (HKL.out.later hbv) HFR.out hY hQ)
          have HW2 := Lib.hid (fun u (hu : Below wv.heap.size wv u) => rwho_b c x (i : Int) 1 Y Q u (HXW.out.later (hbW.trans (hu.mono hbW.size))) HFR.out hY hQ)
          simp only [cfgCells] at HW2
          have d0 := (hbv.block _ HLT.out).trans HLB.out
          have e0 : wv.cell? ⟨lb, 1, none⟩ = some (.int .i64 (1)) := cell_blk d0 (i := 1) rfl
          have HBW := Lib.hid hbW; have HBV := Lib.hid hbv
          clear hY hQ d0 hbW hbv
          go_wp2_with fail
          refine HW1.out.mono ?_
          rintro e w5 ⟨rfl, hb5⟩
          have HB5 := Lib.hid (HBW.out.trans (hb5.mono HBW.out.size)); have HV5 := Lib.hid (HBV.out.trans (hb5.mono HBV.out.size))
          obtain ⟨c0, c1, c2, c3, c4, c5⟩ := BX.out _ HB5.out
          have HW3 := Lib.hid (HW2.out _ hb5)
          clear hb5 e0 HW1 HW2
          go_wp2_with fail
          refine HW3.out.mono ?_
          rintro e w6 ⟨rfl, hb6⟩
          have HV6 := Lib.hid (HV5.out.trans (hb6.mono HV5.out.size))
          clear hb6 c0 c1 c2 c3 c4 c5 HW3
          go_wp2
          go_roundw
          case rel => exact ⟨2, by omega, rfl, HV6.out, by trivial⟩
          case measure => simp [intOf]
        · obtain ⟨Y, hY⟩ : ∃ Y, (whoO2 openB c other (i : Int)).getD 0 = Y := ⟨_, rfl⟩
          obtain ⟨Q, hQ⟩ : ∃ Q, (whoO2 openB c other (i : Int)).isSome = Q := ⟨_, rfl⟩
          have HW1 := Lib.hid (who_b c y b (i : Int) other Y Q wv (HKL.out.later hbv) HFR.out hY hQ)
          have HW2 := Lib.hid (fun u (hu : Below wv.heap.size wv u) => rwho_b c x (i : Int) other Y Q u (HXW.out.later (hbW.trans (hu.mono hbW.size))) HFR.out hY hQ)
          simp only [cfgCells] at HW2
          have d0 := (hbv.block _ HLT.out).trans HLB.out
          have e0 : wv.cell? ⟨lb, 2, none⟩ = some (.int .i64 (other)) := cell_blk d0 (i := 2) rfl
          have HBW := Lib.hid hbW; have HBV := Lib.hid hbv
          clear hY hQ d0 hbW hbv
          go_wp2_with fail
          refine HW1.out.mono ?_
          rintro e w5 ⟨rfl, hb5⟩
          have HB5 := Lib.hid (HBW.out.trans (hb5.mono HBW.out.size)); have HV5 := Lib.hid (HBV.out.trans (hb5.mono HBV.out.size))
          obtain ⟨c0, c1, c2, c3, c4, c5⟩ := BX.out _ HB5.out
          have HW3 := Lib.hid (HW2.out _ hb5)
          clear hb5 e0 HW1 HW2
          go_wp2_with fail
          refine HW3.out.mono ?_
          rintro e w6 ⟨rfl, hb6⟩
          have HV6 := Lib.hid (HV5.out.trans (hb6.mono HV5.out.size))
          clear hb6 c0 c1 c2 c3 c4 c5 HW3
          go_wp2
          go_roundw
          case rel => exact ⟨3, by omega, rfl, HV6.out, by trivial⟩
          case measure => simp [intOf]
        · have HBW := Lib.hid hbW
          have hkv := HKL.out.later (hbv.trans (Below.refl _ _).drew)
          have HT := Lib.hid (tick_b c y b (i : Int) ((i : Int) + 1) wv.drew hkv HFR.out rfl (by omega) (by omega))
          obtain ⟨xs, hxs⟩ : ∃ xs, entL c ((i : Int) + 1) = xs := ⟨_, rfl⟩
          have hxl : xs.length ≤ 2 := by rw [← hxs]; exact entL_len c _
          have HXS := Lib.hid hxs
          have hsum := IntWalk.i64_in ((i : Int) + 1) (by omega)
          clear hxs hkv hbv hbW
          go_wp2_with fail
          refine wp_region_held_drew (S := fun W' => Below W.heap.size W W') (by kernel_rfl) (HBW.out.drew) (fun hHeld => ?_)
          refine wpAnyH_take (i := 0) rfl (by kernel_rfl) (by kernel_rfl) (by kernel_rfl) (fun _ _ _ h => h) (Or.inl ⟨by rfl, by intro w hSw; (obtain ⟨c0, c1, c2, c3, c4, c5⟩ := BX.out _ hSw); (go_simp <;> with_reducible rfl)⟩) (by assumption) ?_
          (try simp only [Act.put, List.setIfInBounds_toArray, List.set_cons_zero, List.set_cons_succ, List.getElem_toArray, List.getElem_cons_zero, List.getElem_cons_succ])
          refine wpAnyH_take (i := 2) rfl (by kernel_rfl) (by kernel_rfl) (by kernel_rfl) (fun _ _ _ h => h) (Or.inl ⟨by rfl, by intro w hSw; (obtain ⟨c0, c1, c2, c3, c4, c5⟩ := BX.out _ hSw); (go_simp <;> with_reducible rfl)⟩) (by assumption) ?_
          (try simp only [Act.put, List.setIfInBounds_toArray, List.set_cons_zero, List.set_cons_succ, List.getElem_toArray, List.getElem_cons_zero, List.getElem_cons_succ])
          refine wpAnyH_take (i := 3) rfl (by kernel_rfl) (by kernel_rfl) (by kernel_rfl) (fun _ _ _ h => h) (Or.inl ⟨by rfl, by intro w hSw; (obtain ⟨c0, c1, c2, c3, c4, c5⟩ := BX.out _ hSw); (go_simp <;> with_reducible rfl)⟩) (by assumption) ?_
          (try simp only [Act.put, List.setIfInBounds_toArray, List.set_cons_zero, List.set_cons_succ, List.getElem_toArray, List.getElem_cons_zero, List.getElem_cons_succ])
          refine wpAnyH_take (i := 4) rfl (by kernel_rfl) (by kernel_rfl) (by kernel_rfl) (fun _ _ _ h => h) (Or.inl ⟨by rfl, by intro w hSw; (obtain ⟨c0, c1, c2, c3, c4, c5⟩ := BX.out _ hSw); (go_simp <;> with_reducible rfl)⟩) (by assumption) ?_
          (try simp only [Act.put, List.setIfInBounds_toArray, List.set_cons_zero, List.set_cons_succ, List.getElem_toArray, List.getElem_cons_zero, List.getElem_cons_succ])
          refine wpAnyH_ready (rs := [1]) (by kernel_rfl) (by simp) (AllReadyH.cons rfl (fun K hK => ?_) AllReadyH.nil)
          go_simp
          refine (HT.out).mono ?_
          rintro e w5 ⟨v, rfl, hown5, hk5, ho5⟩
          (try go_wp2_with fail)
          have hb5 := HBW.out.drew.trans (ho5.below HBW.out.drew.size (fun k e => by rw [e]; exact HBL.out))
          have HB5 := Lib.hid hb5
          rw [HXS.out] at hown5
          obtain ⟨A5, p5, rfl, _, _, _, hr5⟩ := nums_at hown5
          have HR5 := Lib.hid hr5; have HK5 := Lib.hid hk5
          have HE5 := Lib.hid (rent_b c x ((i : Int) + 1) w5 (HXW.out.later hb5) HFR.out)
          simp only [cfgCells] at HE5
          clear hr5 hown5 hk5 ho5 hb5 HT hHeld
          refine hK.out _ _ (HB5.out) (fun hHeld => ?_)
          clear hK K
          (try simp only [Act.put, List.setIfInBounds_toArray, List.set_cons_zero, List.set_cons_succ, List.getElem_toArray, List.getElem_cons_zero, List.getElem_cons_succ])
          (try rw [hsum])
          refine wpAnyH_ready (rs := [5]) (by kernel_rfl) (by simp) (AllReadyH.cons rfl (fun K hK => ?_) AllReadyH.nil)
          go_simp
          refine (HE5.out).mono ?_
          rintro e w6 ⟨v, rfl, hown6, hb6⟩
          (try go_wp2_with fail)
          have HB6 := Lib.hid (HB5.out.trans (hb6.mono HB5.out.size))
          rw [HXS.out] at hown6
          obtain ⟨A6, p6, rfl, _, _, _, hr6⟩ := nums_at hown6
          have HS6 := Lib.hid (same_yes xs.length xs A5 A6 p5 p6 w6 rfl (intRow_later HR5.out hb6) hr6 (by omega))
          have HK6 := Lib.hid (HK5.out.later hb6)
          clear hr6 hown6 hb6 HE5 HR5 hHeld
          refine hK.out _ _ (HB6.out) (fun hHeld => ?_)
          clear hK K
          (try simp only [Act.put, List.setIfInBounds_toArray, List.set_cons_zero, List.set_cons_succ, List.getElem_toArray, List.getElem_cons_zero, List.getElem_cons_succ])
          refine wpAnyH_ready (rs := [6]) (by kernel_rfl) (by simp) (AllReadyH.cons rfl (fun K hK => ?_) AllReadyH.nil)
          go_simp
          refine (HS6.out).mono ?_
          rintro e w7 ⟨rfl, hb7⟩
          (try go_wp2_with fail)
          have HB7 := Lib.hid (HB6.out.trans (hb7.mono HB6.out.size))
          have HK7 := Lib.hid (HK6.out.later hb7)
          clear hb7 HS6 hHeld
          refine hK.out _ _ (HB7.out) (fun hHeld => ?_)
          clear hK K
          (try simp only [Act.put, List.setIfInBounds_toArray, List.set_cons_zero, List.set_cons_succ, List.getElem_toArray, List.getElem_cons_zero, List.getElem_cons_succ])
          refine wpAnyH_take (i := 7) rfl (by kernel_rfl) (by kernel_rfl) (by kernel_rfl) (fun _ _ _ h => h) (Or.inl ⟨by rfl, by intro w hSw; (obtain ⟨c0, c1, c2, c3, c4, c5⟩ := BX.out _ hSw); (go_simp <;> with_reducible rfl)⟩) (by assumption) ?_
          (try simp only [Act.put, List.setIfInBounds_toArray, List.set_cons_zero, List.set_cons_succ, List.getElem_toArray, List.getElem_cons_zero, List.getElem_cons_succ])
          refine wpAnyH_done (by kernel_rfl) ?_ _
          clear hHeld
          go_wp2
          go_roundw
          case rel => exact ⟨i + 1, by omega, by go_num, by have h := HK7.out; rwa [Int.natCast_add], HB7.out⟩
          case measure => simp [intOf]; omega
end Go.Proofs.Ytfpcldkgcifciaa
