/- CoreFair answers true. No condition but those in the statements. -/
import Derived.Test.YtfpcldkgcifciaaCorF
import Derived.BigQuiet
import Derived.Deep.OwnRows
import Derived.IntWalk
import Derived.BigRegion
import Derived.OpenShut
namespace Go.Proofs.Ytfpcldkgcifciaa
open Go.RowKit Go.Sort Go.ChangeShapes Go.WideShapes
set_option linter.unusedVariables false
set_option linter.unusedSimpArgs false

set_option linter.unusedVariables false
set_option linter.unusedSimpArgs false

set_option maxRecDepth 100000 in
set_option maxHeartbeats 16000000 in
theorem lfair_b (c : Cfg) (x : CfgAt) (n : Int) (w : World) (hx : CfgIn w w.heap.size c x) (wx : CfgWf c) (hn : 0 ≤ n ∧ n ≤ 255) : Calls Try.prog 5 #[.agg (cfgCells c x), .int .u8 n] w fun e w' => e = .returned (.bool true) ∧ Below w.heap.size w w' := by
  obtain ⟨i0, hi0, hz0, hz1, hz2⟩ := info_parts Try.infoI
  obtain ⟨W, HW, hB0, hWs, bx⟩ := one_cbox w c x 29
  have HB := Lib.hid hB0; have HXW := Lib.hid (hx.later hB0); have BX := Lib.hid bx; have HWX := Lib.hid wx
  simp only [cfgCells] at HW ⊢
  clear hx hB0 hWs bx wx
  go_enter Try.func5, Try.ntmps5
  go_wp2_with (rw [← HW.out])
  refine (wakes_b W).mono ?_
  rintro e w1 ⟨rfl, hb1⟩
  have HX1 := Lib.hid (HXW.out.later hb1)
  obtain ⟨c0, c1, c2, c3, c4, c5⟩ := BX.out _ hb1
  have HB1 := Lib.hid hb1
  clear hb1
  by_cases hg : cfgLe 100 c = true
  case neg =>
    have HG := Lib.hid (great_is c x true w1 (by rw [Bool.not_eq_true] at hg; rw [hg]; rfl))
    simp only [cfgCells] at HG
    clear hg
    go_wp2_with fail
    refine HG.out.mono ?_
    rintro e w2 ⟨rfl, hb2⟩
    have HF := Lib.hid (HB.out.trans ((HB1.out.trans (hb2.mono HB1.out.size)).mono HB.out.size))
    clear hb2
    go_wp2
    go_ret
    exact ⟨rfl, HF.out⟩
  have lx := cfgLe_few hg (by omega)
  have HLX := Lib.hid lx
  have HG := Lib.hid (great_is c x false w1 (by rw [hg]; rfl))
  simp only [cfgCells] at HG
  clear hg lx
  go_wp2_with fail
  refine HG.out.mono ?_
  rintro e w2 ⟨rfl, hb2⟩
  have HX2 := Lib.hid (HX1.out.later hb2)
  have HB2 := Lib.hid (HB1.out.trans (hb2.mono HB1.out.size))
  clear hb2 c0 c1 c2 c3 c4 c5
  obtain ⟨c0, c1, c2, c3, c4, c5⟩ := BX.out _ HB2.out
  by_cases ha : acceptsB c = true
  case neg =>
    have HRC := Lib.hid (racc_b c x false w2 HX2.out HWX.out HLX.out (by simpa using ha))
    simp only [cfgCells] at HRC
    clear ha
    go_wp2_with fail
    refine HRC.out.mono ?_
    rintro e w3 ⟨rfl, hb3⟩
    have HF := Lib.hid (HB.out.trans ((HB2.out.trans (hb3.mono HB2.out.size)).mono HB.out.size))
    clear hb3
    go_wp2
    go_ret
    exact ⟨rfl, HF.out⟩
  have HACC := Lib.hid (acc15_of ha)
  have HFR := Lib.hid (CfgFr.of HWX.out HLX.out)
  have HRC := Lib.hid (racc_b c x true w2 HX2.out HWX.out HLX.out ha)
  simp only [cfgCells] at HRC
  clear ha
  go_wp2_with fail
  refine HRC.out.mono ?_
  rintro e w3 ⟨rfl, hb3⟩
  have HX3 := Lib.hid (HX2.out.later hb3)
  have HB3 := Lib.hid (HB2.out.trans (hb3.mono HB2.out.size))
  clear hb3 c0 c1 c2 c3 c4 c5 HG HRC HX1 HX2 HB1 HB2
  obtain ⟨c0, c1, c2, c3, c4, c5⟩ := BX.out _ HB3.out
  obtain ⟨hn0, hn1⟩ := hn
  clear c0 c1 c2 c3 c4 c5 HX3
  go_wp2_with fail
  go_loopw [23] (fun ix wr => ∃ k : Nat, k ≤ 2 ∧ ix = .int .i64 k ∧ Below W.heap.size W wr) (fun ix _ => (2 - intOf ix).toNat)
  case atStart => exact ⟨0, by omega, rfl, HB3.out⟩
  case round =>
    clear HB3
    obtain ⟨k, hk, rfl, hbr⟩ := hrel
    rcases (show k = 0 ∨ k = 1 ∨ k = 2 by omega) with rfl | rfl | rfl
    · have HCK := Lib.hid (clock_b c x n wr (HXW.out.later hbr) HFR.out ⟨hn0, hn1⟩)
      simp only [cfgCells] at HCK
      obtain ⟨c0, c1, c2, c3, c4, c5⟩ := BX.out _ hbr
      have HBR0 := Lib.hid hbr
      clear hbr
      go_wp2_with fail
      refine HCK.out.mono ?_
      rintro e w4 ⟨b, y, rfl, hbl, hk4, hb4⟩
      have hbW := HBR0.out.trans (hb4.mono HBR0.out.size)
      have HBL : Hid (W.heap.size ≤ b) := Lib.hid (Nat.le_trans HBR0.out.size hbl)
      obtain ⟨m, hm⟩ := Int.eq_ofNat_of_zero_le hn0
      have hm2 : m ≤ 255 := by omega
      rw [hm] at hk4
      have HM := Lib.hid hm
      clear c0 c1 c2 c3 c4 c5 hm
      obtain ⟨c0, c1, c2, c3, c4, c5⟩ := BX.out _ hbW
      obtain ⟨wB, hwB⟩ : ∃ u, Hid (u = w4.alloc (.cells (madeCells #[Value.int .i64 0] c.parts.length) 3)) := ⟨_, rfl⟩
      obtain ⟨sb, hsb⟩ : ∃ sb, sb = w4.heap.size := ⟨_, rfl⟩
      have hbB : Below w4.heap.size w4 wB := by rw [hwB.out]; exact (Below.refl _ _).alloc (Nat.le_refl _) _
      have hRi := (HACC.out.fr 0 (by decide)).right
      have hRi : rightB c.len0 c.win0 = true := hRi
      have HRI := Lib.hid hRi
      obtain ⟨L, hL⟩ := Int.eq_ofNat_of_zero_le (a := c.len0) (by have := (right_rt hRi).lo; omega)
      have hL64 : L ≤ 64 := by have := (right_rt hRi).hi; omega
      have HLL := Lib.hid hL.symm
      have HHB : Hid (IntsAt wB sb (tabN c.parts.length (hadF L c.win0 m 0))) := Lib.hid (by rw [show tabN c.parts.length (hadF L c.win0 m 0) = List.replicate c.parts.length 0 from (tabN_zero _).symm ▸ tabN_congr (fun p _ => rfl), hwB.out, hsb]; exact (by have := made_ints c.parts.length; unfold IntsAt; rw [← this]; exact heap_alloc_new _ _))
      have HKB := Lib.hid (hk4.later hbB)
      have HSB : Hid (sb ≠ b) := Lib.hid (by have := hk4.lt; omega)
      have HLOW : Hid (ClkLow sb b c y) := Lib.hid (by rw [hsb]; exact hk4.low)
      have HSW : Hid (W.heap.size ≤ sb) := Lib.hid (by rw [hsb]; exact hbW.size)
      have HBB := Lib.hid (hbW.trans (hbB.mono hbW.size))
      obtain ⟨hpl, -⟩ := HLX.out
      clear hk4 hb4 hbW hbB hbl HCK hRi
      have d2 := (BX.out _ HBB.out).2.2.1
      rw [hL] at c2 d2
      clear hL
      go_wp2_with (first | (refine wpList_make_row _ rfl _ _ 35 rfl 3 i0 (.int .i64 0) Try.underlying35 hi0 hz0 hz1 rfl .i64 .i64 c.parts.length rfl rfl (by rw [hz2]; omega) (by omega) ?_; rw [← hwB.out]))
      rw [← hsb]
      clear hsb c0 c1 c2 c3 c4 c5 d2
      obtain ⟨wo, rfl⟩ : ∃ wo, wo = wr := ⟨_, rfl⟩
      go_loopw [41] (fun ix wr => ∃ i : Nat, i ≤ L ∧ ix = .int .i64 i ∧ IntsAt wr sb (tabN c.parts.length (hadF L c.win0 m i)) ∧ ClkAt wr b c y ((m : Int) + (i : Int)) ∧ Below W.heap.size W wr ∧ wo = wo) (fun ix _ => ((L : Int) - intOf ix).toNat)
      case atStart => exact ⟨0, by omega, rfl, HHB.out, by simpa using HKB.out, HBB.out, by trivial⟩
      case round =>
        clear HHB HKB HBB
        obtain ⟨i, hi, rfl, hhad, hk, hbr, -⟩ := hrel
        by_cases hiL : i < L
        · have hm2 : ((m + i : Nat) : Int) = (m : Int) + (i : Int) := Int.natCast_add m i
          have HHAD := Lib.hid hhad
          have HBR := Lib.hid hbr
          have HKR := Lib.hid hk
          have hwo : whoO2 openB c 0 ((m : Int) + (i : Int)) = whoO openB c.win0 (((m : Int) + (i : Int)) % (L : Int)) := by
            rw [HLL.out]
            show atO openB c.len0 c.win0 _ = _
            exact atO_of HRI.out (by omega) (by omega)
          have hLL : (i : Int) < (L : Int) := by omega
          cases ho : whoO openB c.win0 (((m : Int) + (i : Int)) % (L : Int)) with
          | none =>
            rw [ho] at hwo
            have HW1 := Lib.hid (who_b c y b ((m : Int) + (i : Int)) 0 0 false wr hk HFR.out (by rw [hwo]; rfl) (by rw [hwo]; rfl))
            have HNX := Lib.hid (show tabN c.parts.length (hadF L c.win0 m i) = tabN c.parts.length (hadF L c.win0 m (i + 1)) from tabN_congr (fun p _ => (hadF_none ho p).symm))
            clear hk hbr hhad ho hwo
            go_wp2_with fail
            refine HW1.out.mono ?_
            rintro e w5 ⟨rfl, hb5⟩
            have HT := Lib.hid (tick_b c y b ((m : Int) + (i : Int)) ((m : Int) + ((i + 1 : Nat) : Int)) w5 (HKR.out.later hb5) HFR.out (by omega) (by omega) (by omega))
            have HB5 := Lib.hid (HBR.out.trans (hb5.mono HBR.out.size))
            have HH5 := Lib.hid (HHAD.out.below hb5)
            clear hb5 HW1
            go_wp2_with fail
            refine HT.out.mono ?_
            rintro e w6 ⟨v, rfl, -, hk6, ho6⟩
            have HK6 := Lib.hid hk6
            have HB6 := Lib.hid (HB5.out.trans (ho6.below HB5.out.size (fun k e => by rw [e]; exact HBL.out)))
            have HH6 := Lib.hid (HH5.out.only ho6 (fun e => HSB.out e))
            clear hk6 ho6 HT
            go_wp2
            go_roundw
            case rel => exact ⟨i + 1, by omega, by go_num, by rw [← HNX.out]; exact HH6.out, HK6.out, HB6.out, by trivial⟩
            case measure => simp [intOf]; omega
          | some q =>
            obtain ⟨p, rfl, hp⟩ := who_part HACC.out (f := 0) (by decide) (show whoO openB (frW c 0) _ = some q from ho)
            rw [ho] at hwo
            have HW1 := Lib.hid (who_b c y b ((m : Int) + (i : Int)) 0 (p : Int) true wr hk HFR.out (by rw [hwo]; rfl) (by rw [hwo]; rfl))
            have HNX := Lib.hid (show (tabN c.parts.length (hadF L c.win0 m i)).set p (hadF L c.win0 m i p + 1) = tabN c.parts.length (hadF L c.win0 m (i + 1)) from tabN_set (hadF_hit ho) (fun q hq => hadF_other ho hq))
            obtain ⟨g0, g1⟩ := hadF_in L c.win0 m i p
            have hp2 : (p : Int) < (c.parts.length : Int) := by omega
            have hp3 : ¬ ((p : Int) < 0) := by omega
            have HPP := Lib.hid hp
            clear hk hbr hhad ho hwo hp
            go_wp2_with fail
            refine HW1.out.mono ?_
            rintro e w5 ⟨rfl, hb5⟩
            have HB5 := Lib.hid (HBR.out.trans (hb5.mono HBR.out.size))
            have HH5 := Lib.hid (HHAD.out.below hb5)
            have s0 := HH5.out.cell (tabN_at HPP.out)
            have s1 := HH5.out.frozen p
            obtain ⟨z, hz⟩ : ∃ z, hadF L c.win0 m i p = z := ⟨_, rfl⟩
            rw [hz] at g0 g1 s0 HNX
            have HK5 := Lib.hid (HKR.out.later hb5)
            obtain ⟨w6, hw6⟩ : ∃ u, Hid (u = w5.setCell ⟨sb, p, none⟩ (.int .i64 (z + 1))) := ⟨_, rfl⟩
            have ho6 := Only.setCell w5 ⟨sb, p, none⟩ (.int .i64 (z + 1))
            rw [← hw6.out] at ho6
            have HH6 : Hid (IntsAt w6 sb (tabN c.parts.length (hadF L c.win0 m (i + 1)))) := Lib.hid (by rw [hw6.out, ← HNX.out]; exact HH5.out.set p (z + 1))
            have hk6 := HK5.out.only HLOW.out ho6 (fun k e => by rw [e]; exact Nat.le_refl _)
            have HT := Lib.hid (tick_b c y b ((m : Int) + (i : Int)) ((m : Int) + ((i + 1 : Nat) : Int)) w6 hk6 HFR.out (by omega) (by omega) (by omega))
            have HB6 := Lib.hid (HB5.out.trans (ho6.below HB5.out.size (fun k e => by rw [e]; exact HSW.out)))
            clear hb5 HW1 ho6 hk6 hz
            go_wp2_with (rw [← hw6.out])
            refine HT.out.mono ?_
            rintro e w7 ⟨v, rfl, -, hk7, ho7⟩
            have HK7 := Lib.hid hk7
            have HB7 := Lib.hid (HB6.out.trans (ho7.below HB6.out.size (fun k e => by rw [e]; exact HBL.out)))
            have HH7 := Lib.hid (HH6.out.only ho7 (fun e => HSB.out e))
            clear hk7 ho7 HT s0 s1
            go_wp2
            go_roundw
            case rel => exact ⟨i + 1, by omega, by go_num, HH7.out, HK7.out, HB7.out, by trivial⟩
            case measure => simp [intOf]; omega
        · obtain rfl : i = L := by omega
          have hhad : IntsAt wr sb (tabN c.parts.length (fun r => sumUp c.win0 (r : Int) c.win0.length - sumUp c.win0 (r : Int) 0)) := by
            rw [← tabN_congr (f := hadF i c.win0 m i) (fun p _ => by rw [hadF_all (by rw [HLL.out]; exact right_rt HRI.out) (by omega)]; show _ = _ - 0; omega)]
            exact hhad
          have HH0 := Lib.hid hhad; have HB0 := Lib.hid hbr
          obtain ⟨c0, c1, c2, c3, c4, c5⟩ := BX.out _ hbr
          clear hhad hbr hk
          go_wp2_with fail
          clear c0 c1 c2 c3 c4 c5
          obtain ⟨wp, rfl⟩ : ∃ wp, wp = wr := ⟨_, rfl⟩
          go_loopw [73] (fun jx wr => ∃ j : Nat, j ≤ c.win0.length ∧ jx = .int .i64 j ∧ IntsAt wr sb (tabN c.parts.length (fun r => sumUp c.win0 (r : Int) c.win0.length - sumUp c.win0 (r : Int) j)) ∧ Below W.heap.size W wr ∧ wo = wo) (fun jx _ => (c.win0.length : Int) - intOf jx |>.toNat)
          case atStart => exact ⟨0, by omega, rfl, HH0.out, HB0.out, by trivial⟩
          case round =>
            clear HH0 HB0
            obtain ⟨j, hj, rfl, hhad, hbq, -⟩ := hrel
            by_cases hjl : j < c.win0.length
            · obtain ⟨pb, po, x0, x1, x2, ep, hpl, e1, ⟨hw0, hw1, hw2⟩, r0⟩ := HXW.out.ra.at3 HWX.out.wa hjl
              obtain ⟨p, hp1, hp2, -⟩ := (HACC.out.fr 0 (by decide)).part j hjl
              have hp1 : fld (row c.win0 j) 0 = (p : Int) := hp1
              rw [row_at e1] at hp1
              have hp1 : x0 = (p : Int) := hp1
              subst hp1
              have k0 := r0 _ hbq
              obtain ⟨k0, k1, k2⟩ := k0
              rw [ep]
              obtain ⟨wa, hwa⟩ : ∃ u, Hid (u = wr.alloc (.cells #[.int .i64 (p : Int), .int .i64 x1, .int .i64 x2] 49)) := ⟨_, rfl⟩
              have hba : Below wr.heap.size wr wa := by rw [hwa.out]; exact (Below.refl _ _).alloc (Nat.le_refl _) _
              have hxa : wa.heap[wr.heap.size]? = some (.cells #[.int .i64 (p : Int), .int .i64 x1, .int .i64 x2] 49 (0, 0)) := by rw [hwa.out]; exact heap_alloc_new _ _
              have hbw := hbq.trans (hba.mono hbq.size)
              have HHA := Lib.hid (hhad.below hba)
              have HNX := Lib.hid (show (tabN c.parts.length (fun r => sumUp c.win0 (r : Int) c.win0.length - sumUp c.win0 (r : Int) j)).set p ((sumUp c.win0 (p : Int) c.win0.length - sumUp c.win0 (p : Int) j) - x2) = tabN c.parts.length (fun r => sumUp c.win0 (r : Int) c.win0.length - sumUp c.win0 (r : Int) (j + 1)) from tabN_set (by rw [sumUp_hit e1]; omega) (fun q hq => by rw [sumUp_other e1 hq]))
              have s0 := HHA.out.cell (tabN_at hp2)
              have s1 := HHA.out.frozen p
              obtain ⟨g0, g1⟩ := sumUp_in (right_rt HRI.out) (p : Int) c.win0.length (Nat.le_refl _)
              obtain ⟨g2, g3⟩ := sumUp_in (right_rt HRI.out) (p : Int) j (by omega)
              obtain ⟨z, hz⟩ : ∃ z, sumUp c.win0 (p : Int) c.win0.length - sumUp c.win0 (p : Int) j = z := ⟨_, rfl⟩
              have hzb : -2000 ≤ z ∧ z ≤ 2000 := by have := (right_rt HRI.out).few; omega
              have hok := (right_rt HRI.out).ok j hjl
              rw [row_at e1] at hok
              have hx2 : 1 ≤ x2 ∧ x2 ≤ 64 := by
                have hh := (right_rt HRI.out).hi
                have h2 : 0 ≤ endAt c.win0 j ∧ endAt c.win0 j ≤ x1 ∧ 1 ≤ x2 ∧ x1 + x2 ≤ c.len0 := hok
                omega
              rw [hz] at s0 HNX
              obtain ⟨w6, hw6⟩ : ∃ u, Hid (u = (wa.setCell ⟨sb, p, none⟩ (.int .i64 (z - x2))).drew) := ⟨_, rfl⟩
              have HH6 : Hid (IntsAt w6 sb (tabN c.parts.length (fun r => sumUp c.win0 (r : Int) c.win0.length - sumUp c.win0 (r : Int) (j + 1)))) := Lib.hid (by rw [hw6.out, ← HNX.out]; exact (HHA.out.set p (z - x2)).below (Below.refl _ _).drew)
              have HB6 : Hid (Below W.heap.size W w6) := Lib.hid (by rw [hw6.out]; exact (hbw.setCell (p := ⟨sb, p, none⟩) HSW.out _).drew)
              have a0 := cell_blk hxa (i := 0) rfl
              have a2 := cell_blk hxa (i := 2) rfl
              have hpp : (p : Int) < (c.parts.length : Int) := by omega
              have hj16 : j ≤ 16 := by have := (right_rt HRI.out).few; omega
              clear hbq hba hxa hbw hhad g0 g1 g2 g3 hz hok e1 hpl
              have hsb3 : IntKind.i64.wrap (z - x2) = z - x2 := IntWalk.i64_in _ (by omega)
              go_wp2_with (rw [← hwa.out])
              go_region
              all_goals
                rw [← hw6.out]
                go_wp2
                go_roundw
                case rel => exact ⟨j + 1, by omega, by go_num, HH6.out, HB6.out, by trivial⟩
                case measure => simp [intOf]; omega
            · obtain rfl : j = c.win0.length := by omega
              have hz3 : IntsAt wr sb (tabN c.parts.length (fun _ => 0)) := by
                rw [← tabN_congr (f := fun r => sumUp c.win0 (r : Int) c.win0.length - sumUp c.win0 (r : Int) c.win0.length) (fun p _ => by omega)]
                exact hhad
              have HH0 := Lib.hid hz3; have HB0 := Lib.hid hbq
              clear hhad hbq hz3
              go_wp2_with fail
              obtain ⟨wq, rfl⟩ : ∃ wq, wq = wr := ⟨_, rfl⟩
              go_loopw [89] (fun jx wr => ∃ j : Nat, j ≤ c.parts.length ∧ jx = .int .i64 j ∧ wr = wq ∧ wo = wo) (fun jx _ => (c.parts.length : Int) - intOf jx |>.toNat)
              case atStart => exact ⟨0, by omega, rfl, rfl, by trivial⟩
              case round =>
                obtain ⟨q, hq, rfl, rfl, -⟩ := hrel
                by_cases hql : q < c.parts.length
                · have s0 := HH0.out.cell (tabN_at (f := fun _ => 0) hql)
                  have hq6 : q ≤ 1000000 := by omega
                  go_wp2
                  go_roundw
                  case rel => exact ⟨q + 1, by omega, by go_num, by trivial, by trivial⟩
                  case measure => simp [intOf]; omega
                · go_wp2
                  go_roundw
                  case rel => exact ⟨1, by omega, rfl, HB0.out⟩
                  case measure => simp [intOf]
    · have HCK := Lib.hid (clock_b c x n wr (HXW.out.later hbr) HFR.out ⟨hn0, hn1⟩)
      simp only [cfgCells] at HCK
      obtain ⟨c0, c1, c2, c3, c4, c5⟩ := BX.out _ hbr
      have HBR0 := Lib.hid hbr
      clear hbr
      go_wp2_with fail
      refine HCK.out.mono ?_
      rintro e w4 ⟨b, y, rfl, hbl, hk4, hb4⟩
      have hbW := HBR0.out.trans (hb4.mono HBR0.out.size)
      have HBL : Hid (W.heap.size ≤ b) := Lib.hid (Nat.le_trans HBR0.out.size hbl)
      obtain ⟨m, hm⟩ := Int.eq_ofNat_of_zero_le hn0
      have hm2 : m ≤ 255 := by omega
      rw [hm] at hk4
      have HM := Lib.hid hm
      clear c0 c1 c2 c3 c4 c5 hm
      obtain ⟨c0, c1, c2, c3, c4, c5⟩ := BX.out _ hbW
      obtain ⟨wB, hwB⟩ : ∃ u, Hid (u = w4.alloc (.cells (madeCells #[Value.int .i64 0] c.parts.length) 3)) := ⟨_, rfl⟩
      obtain ⟨sb, hsb⟩ : ∃ sb, sb = w4.heap.size := ⟨_, rfl⟩
      have hbB : Below w4.heap.size w4 wB := by rw [hwB.out]; exact (Below.refl _ _).alloc (Nat.le_refl _) _
      have hRi := (HACC.out.fr 1 (by decide)).right
      have hRi : rightB c.len1 c.win1 = true := hRi
      have HRI := Lib.hid hRi
      obtain ⟨L, hL⟩ := Int.eq_ofNat_of_zero_le (a := c.len1) (by have := (right_rt hRi).lo; omega)
      have hL64 : L ≤ 64 := by have := (right_rt hRi).hi; omega
      have HLL := Lib.hid hL.symm
      have HHB : Hid (IntsAt wB sb (tabN c.parts.length (hadF L c.win1 m 0))) := Lib.hid (by rw [show tabN c.parts.length (hadF L c.win1 m 0) = List.replicate c.parts.length 0 from (tabN_zero _).symm ▸ tabN_congr (fun p _ => rfl), hwB.out, hsb]; exact (by have := made_ints c.parts.length; unfold IntsAt; rw [← this]; exact heap_alloc_new _ _))
      have HKB := Lib.hid (hk4.later hbB)
      have HSB : Hid (sb ≠ b) := Lib.hid (by have := hk4.lt; omega)
      have HLOW : Hid (ClkLow sb b c y) := Lib.hid (by rw [hsb]; exact hk4.low)
      have HSW : Hid (W.heap.size ≤ sb) := Lib.hid (by rw [hsb]; exact hbW.size)
      have HBB := Lib.hid (hbW.trans (hbB.mono hbW.size))
      obtain ⟨hpl, -⟩ := HLX.out
      clear hk4 hb4 hbW hbB hbl HCK hRi
      have d4 := (BX.out _ HBB.out).2.2.2.2.1
      rw [hL] at c4 d4
      clear hL
      go_wp2_with (first | (refine wpList_make_row _ rfl _ _ 35 rfl 3 i0 (.int .i64 0) Try.underlying35 hi0 hz0 hz1 rfl .i64 .i64 c.parts.length rfl rfl (by rw [hz2]; omega) (by omega) ?_; rw [← hwB.out]))
      rw [← hsb]
      clear hsb c0 c1 c2 c3 c4 c5 d4
      obtain ⟨wo, rfl⟩ : ∃ wo, wo = wr := ⟨_, rfl⟩
      go_loopw [41] (fun ix wr => ∃ i : Nat, i ≤ L ∧ ix = .int .i64 i ∧ IntsAt wr sb (tabN c.parts.length (hadF L c.win1 m i)) ∧ ClkAt wr b c y ((m : Int) + (i : Int)) ∧ Below W.heap.size W wr ∧ wo = wo) (fun ix _ => ((L : Int) - intOf ix).toNat)
      case atStart => exact ⟨0, by omega, rfl, HHB.out, by simpa using HKB.out, HBB.out, by trivial⟩
      case round =>
        clear HHB HKB HBB
        obtain ⟨i, hi, rfl, hhad, hk, hbr, -⟩ := hrel
        by_cases hiL : i < L
        · have hm2 : ((m + i : Nat) : Int) = (m : Int) + (i : Int) := Int.natCast_add m i
          have HHAD := Lib.hid hhad
          have HBR := Lib.hid hbr
          have HKR := Lib.hid hk
          have hwo : whoO2 openB c 1 ((m : Int) + (i : Int)) = whoO openB c.win1 (((m : Int) + (i : Int)) % (L : Int)) := by
            rw [HLL.out]
            show atO openB c.len1 c.win1 _ = _
            exact atO_of HRI.out (by omega) (by omega)
          have hLL : (i : Int) < (L : Int) := by omega
          cases ho : whoO openB c.win1 (((m : Int) + (i : Int)) % (L : Int)) with
          | none =>
            rw [ho] at hwo
            have HW1 := Lib.hid (who_b c y b ((m : Int) + (i : Int)) 1 0 false wr hk HFR.out (by rw [hwo]; rfl) (by rw [hwo]; rfl))
            have HNX := Lib.hid (show tabN c.parts.length (hadF L c.win1 m i) = tabN c.parts.length (hadF L c.win1 m (i + 1)) from tabN_congr (fun p _ => (hadF_none ho p).symm))
            clear hk hbr hhad ho hwo
            go_wp2_with fail
            refine HW1.out.mono ?_
            rintro e w5 ⟨rfl, hb5⟩
            have HT := Lib.hid (tick_b c y b ((m : Int) + (i : Int)) ((m : Int) + ((i + 1 : Nat) : Int)) w5 (HKR.out.later hb5) HFR.out (by omega) (by omega) (by omega))
            have HB5 := Lib.hid (HBR.out.trans (hb5.mono HBR.out.size))
            have HH5 := Lib.hid (HHAD.out.below hb5)
            clear hb5 HW1
            go_wp2_with fail
            refine HT.out.mono ?_
            rintro e w6 ⟨v, rfl, -, hk6, ho6⟩
            have HK6 := Lib.hid hk6
            have HB6 := Lib.hid (HB5.out.trans (ho6.below HB5.out.size (fun k e => by rw [e]; exact HBL.out)))
            have HH6 := Lib.hid (HH5.out.only ho6 (fun e => HSB.out e))
            clear hk6 ho6 HT
            go_wp2
            go_roundw
            case rel => exact ⟨i + 1, by omega, by go_num, by rw [← HNX.out]; exact HH6.out, HK6.out, HB6.out, by trivial⟩
            case measure => simp [intOf]; omega
          | some q =>
            obtain ⟨p, rfl, hp⟩ := who_part HACC.out (f := 1) (by decide) (show whoO openB (frW c 1) _ = some q from ho)
            rw [ho] at hwo
            have HW1 := Lib.hid (who_b c y b ((m : Int) + (i : Int)) 1 (p : Int) true wr hk HFR.out (by rw [hwo]; rfl) (by rw [hwo]; rfl))
            have HNX := Lib.hid (show (tabN c.parts.length (hadF L c.win1 m i)).set p (hadF L c.win1 m i p + 1) = tabN c.parts.length (hadF L c.win1 m (i + 1)) from tabN_set (hadF_hit ho) (fun q hq => hadF_other ho hq))
            obtain ⟨g0, g1⟩ := hadF_in L c.win1 m i p
            have hp2 : (p : Int) < (c.parts.length : Int) := by omega
            have hp3 : ¬ ((p : Int) < 0) := by omega
            have HPP := Lib.hid hp
            clear hk hbr hhad ho hwo hp
            go_wp2_with fail
            refine HW1.out.mono ?_
            rintro e w5 ⟨rfl, hb5⟩
            have HB5 := Lib.hid (HBR.out.trans (hb5.mono HBR.out.size))
            have HH5 := Lib.hid (HHAD.out.below hb5)
            have s0 := HH5.out.cell (tabN_at HPP.out)
            have s1 := HH5.out.frozen p
            obtain ⟨z, hz⟩ : ∃ z, hadF L c.win1 m i p = z := ⟨_, rfl⟩
            rw [hz] at g0 g1 s0 HNX
            have HK5 := Lib.hid (HKR.out.later hb5)
            obtain ⟨w6, hw6⟩ : ∃ u, Hid (u = w5.setCell ⟨sb, p, none⟩ (.int .i64 (z + 1))) := ⟨_, rfl⟩
            have ho6 := Only.setCell w5 ⟨sb, p, none⟩ (.int .i64 (z + 1))
            rw [← hw6.out] at ho6
            have HH6 : Hid (IntsAt w6 sb (tabN c.parts.length (hadF L c.win1 m (i + 1)))) := Lib.hid (by rw [hw6.out, ← HNX.out]; exact HH5.out.set p (z + 1))
            have hk6 := HK5.out.only HLOW.out ho6 (fun k e => by rw [e]; exact Nat.le_refl _)
            have HT := Lib.hid (tick_b c y b ((m : Int) + (i : Int)) ((m : Int) + ((i + 1 : Nat) : Int)) w6 hk6 HFR.out (by omega) (by omega) (by omega))
            have HB6 := Lib.hid (HB5.out.trans (ho6.below HB5.out.size (fun k e => by rw [e]; exact HSW.out)))
            clear hb5 HW1 ho6 hk6 hz
            go_wp2_with (rw [← hw6.out])
            refine HT.out.mono ?_
            rintro e w7 ⟨v, rfl, -, hk7, ho7⟩
            have HK7 := Lib.hid hk7
            have HB7 := Lib.hid (HB6.out.trans (ho7.below HB6.out.size (fun k e => by rw [e]; exact HBL.out)))
            have HH7 := Lib.hid (HH6.out.only ho7 (fun e => HSB.out e))
            clear hk7 ho7 HT s0 s1
            go_wp2
            go_roundw
            case rel => exact ⟨i + 1, by omega, by go_num, HH7.out, HK7.out, HB7.out, by trivial⟩
            case measure => simp [intOf]; omega
        · obtain rfl : i = L := by omega
          have hhad : IntsAt wr sb (tabN c.parts.length (fun r => sumUp c.win1 (r : Int) c.win1.length - sumUp c.win1 (r : Int) 0)) := by
            rw [← tabN_congr (f := hadF i c.win1 m i) (fun p _ => by rw [hadF_all (by rw [HLL.out]; exact right_rt HRI.out) (by omega)]; show _ = _ - 0; omega)]
            exact hhad
          have HH0 := Lib.hid hhad; have HB0 := Lib.hid hbr
          obtain ⟨c0, c1, c2, c3, c4, c5⟩ := BX.out _ hbr
          clear hhad hbr hk
          go_wp2_with fail
          clear c0 c1 c2 c3 c4 c5
          obtain ⟨wp, rfl⟩ : ∃ wp, wp = wr := ⟨_, rfl⟩
          go_loopw [73] (fun jx wr => ∃ j : Nat, j ≤ c.win1.length ∧ jx = .int .i64 j ∧ IntsAt wr sb (tabN c.parts.length (fun r => sumUp c.win1 (r : Int) c.win1.length - sumUp c.win1 (r : Int) j)) ∧ Below W.heap.size W wr ∧ wo = wo) (fun jx _ => (c.win1.length : Int) - intOf jx |>.toNat)
          case atStart => exact ⟨0, by omega, rfl, HH0.out, HB0.out, by trivial⟩
          case round =>
            clear HH0 HB0
            obtain ⟨j, hj, rfl, hhad, hbq, -⟩ := hrel
            by_cases hjl : j < c.win1.length
            · obtain ⟨pb, po, x0, x1, x2, ep, hpl, e1, ⟨hw0, hw1, hw2⟩, r0⟩ := HXW.out.rb.at3 HWX.out.wb hjl
              obtain ⟨p, hp1, hp2, -⟩ := (HACC.out.fr 1 (by decide)).part j hjl
              have hp1 : fld (row c.win1 j) 0 = (p : Int) := hp1
              rw [row_at e1] at hp1
              have hp1 : x0 = (p : Int) := hp1
              subst hp1
              have k0 := r0 _ hbq
              obtain ⟨k0, k1, k2⟩ := k0
              rw [ep]
              obtain ⟨wa, hwa⟩ : ∃ u, Hid (u = wr.alloc (.cells #[.int .i64 (p : Int), .int .i64 x1, .int .i64 x2] 49)) := ⟨_, rfl⟩
              have hba : Below wr.heap.size wr wa := by rw [hwa.out]; exact (Below.refl _ _).alloc (Nat.le_refl _) _
              have hxa : wa.heap[wr.heap.size]? = some (.cells #[.int .i64 (p : Int), .int .i64 x1, .int .i64 x2] 49 (0, 0)) := by rw [hwa.out]; exact heap_alloc_new _ _
              have hbw := hbq.trans (hba.mono hbq.size)
              have HHA := Lib.hid (hhad.below hba)
              have HNX := Lib.hid (show (tabN c.parts.length (fun r => sumUp c.win1 (r : Int) c.win1.length - sumUp c.win1 (r : Int) j)).set p ((sumUp c.win1 (p : Int) c.win1.length - sumUp c.win1 (p : Int) j) - x2) = tabN c.parts.length (fun r => sumUp c.win1 (r : Int) c.win1.length - sumUp c.win1 (r : Int) (j + 1)) from tabN_set (by rw [sumUp_hit e1]; omega) (fun q hq => by rw [sumUp_other e1 hq]))
              have s0 := HHA.out.cell (tabN_at hp2)
              have s1 := HHA.out.frozen p
              obtain ⟨g0, g1⟩ := sumUp_in (right_rt HRI.out) (p : Int) c.win1.length (Nat.le_refl _)
              obtain ⟨g2, g3⟩ := sumUp_in (right_rt HRI.out) (p : Int) j (by omega)
              obtain ⟨z, hz⟩ : ∃ z, sumUp c.win1 (p : Int) c.win1.length - sumUp c.win1 (p : Int) j = z := ⟨_, rfl⟩
              have hzb : -2000 ≤ z ∧ z ≤ 2000 := by have := (right_rt HRI.out).few; omega
              have hok := (right_rt HRI.out).ok j hjl
              rw [row_at e1] at hok
              have hx2 : 1 ≤ x2 ∧ x2 ≤ 64 := by
                have hh := (right_rt HRI.out).hi
                have h2 : 0 ≤ endAt c.win1 j ∧ endAt c.win1 j ≤ x1 ∧ 1 ≤ x2 ∧ x1 + x2 ≤ c.len1 := hok
                omega
              rw [hz] at s0 HNX
              obtain ⟨w6, hw6⟩ : ∃ u, Hid (u = (wa.setCell ⟨sb, p, none⟩ (.int .i64 (z - x2))).drew) := ⟨_, rfl⟩
              have HH6 : Hid (IntsAt w6 sb (tabN c.parts.length (fun r => sumUp c.win1 (r : Int) c.win1.length - sumUp c.win1 (r : Int) (j + 1)))) := Lib.hid (by rw [hw6.out, ← HNX.out]; exact (HHA.out.set p (z - x2)).below (Below.refl _ _).drew)
              have HB6 : Hid (Below W.heap.size W w6) := Lib.hid (by rw [hw6.out]; exact (hbw.setCell (p := ⟨sb, p, none⟩) HSW.out _).drew)
              have a0 := cell_blk hxa (i := 0) rfl
              have a2 := cell_blk hxa (i := 2) rfl
              have hpp : (p : Int) < (c.parts.length : Int) := by omega
              have hj16 : j ≤ 16 := by have := (right_rt HRI.out).few; omega
              clear hbq hba hxa hbw hhad g0 g1 g2 g3 hz hok e1 hpl
              have hsb3 : IntKind.i64.wrap (z - x2) = z - x2 := IntWalk.i64_in _ (by omega)
              go_wp2_with (rw [← hwa.out])
              go_region
              all_goals
                rw [← hw6.out]
                go_wp2
                go_roundw
                case rel => exact ⟨j + 1, by omega, by go_num, HH6.out, HB6.out, by trivial⟩
                case measure => simp [intOf]; omega
            · obtain rfl : j = c.win1.length := by omega
              have hz3 : IntsAt wr sb (tabN c.parts.length (fun _ => 0)) := by
                rw [← tabN_congr (f := fun r => sumUp c.win1 (r : Int) c.win1.length - sumUp c.win1 (r : Int) c.win1.length) (fun p _ => by omega)]
                exact hhad
              have HH0 := Lib.hid hz3; have HB0 := Lib.hid hbq
              clear hhad hbq hz3
              go_wp2_with fail
              obtain ⟨wq, rfl⟩ : ∃ wq, wq = wr := ⟨_, rfl⟩
              go_loopw [89] (fun jx wr => ∃ j : Nat, j ≤ c.parts.length ∧ jx = .int .i64 j ∧ wr = wq ∧ wo = wo) (fun jx _ => (c.parts.length : Int) - intOf jx |>.toNat)
              case atStart => exact ⟨0, by omega, rfl, rfl, by trivial⟩
              case round =>
                obtain ⟨q, hq, rfl, rfl, -⟩ := hrel
                by_cases hql : q < c.parts.length
                · have s0 := HH0.out.cell (tabN_at (f := fun _ => 0) hql)
                  have hq6 : q ≤ 1000000 := by omega
                  go_wp2
                  go_roundw
                  case rel => exact ⟨q + 1, by omega, by go_num, by trivial, by trivial⟩
                  case measure => simp [intOf]; omega
                · go_wp2
                  go_roundw
                  case rel => exact ⟨2, by omega, rfl, HB0.out⟩
                  case measure => simp [intOf]
    · have HF := Lib.hid (HB.out.trans (hbr.mono HB.out.size))
      clear hbr
      go_wp2
      go_ret
      exact ⟨rfl, HF.out⟩
end Go.Proofs.Ytfpcldkgcifciaa
