/- CoreEnters answers true. No condition but those in the statements. -/
import Derived.Test.YtfpcldkgcifciaaCorB
import Derived.BigQuiet
import Derived.Deep.OwnRows
import Derived.IntWalk
import Derived.BigRegion
import Derived.OpenShut
namespace Go.Proofs.Ytfpcldkgcifciaa
open Go.RowKit Go.Sort Go.ChangeShapes Go.WideShapes
set_option linter.unusedVariables false
set_option linter.unusedSimpArgs false

set_option linter.unusedVariables false
set_option linter.unusedSimpArgs false

set_option maxRecDepth 100000 in
set_option maxHeartbeats 8000000 in
theorem lenters_b (c : Cfg) (x : CfgAt) (n : Int) (w : World) (hx : CfgIn w w.heap.size c x) (wx : CfgWf c) (hn : 0 ≤ n ∧ n ≤ 255) : Calls Try.prog 4 #[.agg (cfgCells c x), .int .u8 n] w fun e w' => e = .returned (.bool true) ∧ Below w.heap.size w w' := by
  obtain ⟨i0, hi0, hz0, hz1, hz2⟩ := info_parts Try.infoB
  obtain ⟨W, HW, hB0, hWs, bx⟩ := one_cbox w c x 29
  have HB := Lib.hid hB0; have HXW := Lib.hid (hx.later hB0); have BX := Lib.hid bx; have HWX := Lib.hid wx
  simp only [cfgCells] at HW ⊢
  clear hx hB0 hWs bx wx
  go_enter Try.func4, Try.ntmps4
  go_wp2_with (rw [← HW.out])
  refine (wakes_b W).mono ?_
  rintro e w1 ⟨rfl, hb1⟩
  have HX1 := Lib.hid (HXW.out.later hb1)
  obtain ⟨c0, c1, c2, c3, c4, c5⟩ := BX.out _ hb1
  have HB1 := Lib.hid hb1
  clear hb1
  by_cases hg : cfgLe 100 c = true
  case neg =>
    have HG := Lib.hid (great_is c x true w1 (by rw [Bool.not_eq_true] at hg; rw [hg]; rfl))
    simp only [cfgCells] at HG
    clear hg
    go_wp2_with fail
    refine HG.out.mono ?_
    rintro e w2 ⟨rfl, hb2⟩
    have HF := Lib.hid (HB.out.trans ((HB1.out.trans (hb2.mono HB1.out.size)).mono HB.out.size))
    clear hb2
    go_wp2
    go_ret
    exact ⟨rfl, HF.out⟩
  have lx := cfgLe_few hg (by omega)
  have HLX := Lib.hid lx
  have HG := Lib.hid (great_is c x false w1 (by rw [hg]; rfl))
  simp only [cfgCells] at HG
  clear hg lx
  go_wp2_with fail
  refine HG.out.mono ?_
  rintro e w2 ⟨rfl, hb2⟩
  have HX2 := Lib.hid (HX1.out.later hb2)
  have HB2 := Lib.hid (HB1.out.trans (hb2.mono HB1.out.size))
  clear hb2 c0 c1 c2 c3 c4 c5
  obtain ⟨c0, c1, c2, c3, c4, c5⟩ := BX.out _ HB2.out
  by_cases ha : acceptsB c = true
  case neg =>
    have HRC := Lib.hid (racc_b c x false w2 HX2.out HWX.out HLX.out (by simpa using ha))
    simp only [cfgCells] at HRC
    clear ha
    go_wp2_with fail
    refine HRC.out.mono ?_
    rintro e w3 ⟨rfl, hb3⟩
    have HF := Lib.hid (HB.out.trans ((HB2.out.trans (hb3.mono HB2.out.size)).mono HB.out.size))
    clear hb3
    go_wp2
    go_ret
    exact ⟨rfl, HF.out⟩
  have HACC := Lib.hid (acc15_of ha)
  have HFR := Lib.hid (CfgFr.of HWX.out HLX.out)
  have HRC := Lib.hid (racc_b c x true w2 HX2.out HWX.out HLX.out ha)
  simp only [cfgCells] at HRC
  clear ha
  go_wp2_with fail
  refine HRC.out.mono ?_
  rintro e w3 ⟨rfl, hb3⟩
  have HX3 := Lib.hid (HX2.out.later hb3)
  have HB3 := Lib.hid (HB2.out.trans (hb3.mono HB2.out.size))
  clear hb3 c0 c1 c2 c3 c4 c5 HG HRC HX1 HX2 HB1 HB2
  obtain ⟨c0, c1, c2, c3, c4, c5⟩ := BX.out _ HB3.out
  have HNW := Lib.hid (new_b c x w3 HX3.out HFR.out)
  simp only [cfgCells] at HNW
  go_wp2_with fail
  refine HNW.out.mono ?_
  rintro e w4 ⟨b, y, rfl, hbl, hk4, hb4⟩
  have HB4 := Lib.hid (HB3.out.trans (hb4.mono HB3.out.size))
  have HBL := Lib.hid (Nat.le_trans HB3.out.size hbl)
  have HK4 := Lib.hid hk4
  clear hbl hk4 hb4 HNW c0 c1 c2 c3 c4 c5
  obtain ⟨hn0, hn1⟩ := hn
  go_wp2_with fail
  go_loopw [28] (fun ix wr => ∃ i : Nat, (i : Int) ≤ n ∧ ix = .int .u8 i ∧ ClkAt wr b c y i ∧ Below W.heap.size W wr) (fun ix _ => (n - intOf ix).toNat)
  case atStart => exact ⟨0, by omega, rfl, HK4.out, HB4.out⟩
  case round =>
    obtain ⟨i, hi, rfl, hk, hbr⟩ := hrel
    by_cases hin : (i : Int) = n
    · obtain ⟨m, rfl⟩ : ∃ m, m = i := ⟨_, rfl⟩
      have hm2 : m ≤ 255 := by omega
      subst hin
      obtain ⟨c0, c1, c2, c3, c4, c5⟩ := BX.out _ hbr
      obtain ⟨wB, hwB⟩ : ∃ u, Hid (u = wr.alloc (.cells (madeCells #[Value.bool false] c.parts.length) 4)) := ⟨_, rfl⟩
      obtain ⟨sb, hsb⟩ : ∃ sb, sb = wr.heap.size := ⟨_, rfl⟩
      have hbB : Below wr.heap.size wr wB := by rw [hwB.out]; exact (Below.refl _ _).alloc (Nat.le_refl _) _
      have HBS : Hid (BoolsAt wB sb (List.replicate c.parts.length false)) := Lib.hid (by rw [hwB.out, hsb, made_bools]; exact heap_alloc_new _ _)
      have HKB := Lib.hid (hk.later hbB)
      have HSB : Hid (sb ≠ b) := Lib.hid (by have := hk.lt; omega)
      have HLOW : Hid (ClkLow sb b c y) := Lib.hid (by rw [hsb]; exact hk.low)
      have HSW : Hid (W.heap.size ≤ sb) := Lib.hid (by rw [hsb]; exact hbr.size)
      have HBB := Lib.hid (hbr.trans (hbB.mono hbr.size))
      obtain ⟨hpl, -⟩ := HLX.out
      have HSBL : Hid (sb < wB.heap.size) := Lib.hid HBS.out.lt
      clear hk hbr hbB
      go_wp2_with (first | (refine wpList_make_row _ rfl _ _ 43 rfl 4 i0 (.bool false) Try.underlying43 hi0 hz0 hz1 rfl .i64 .i64 c.parts.length rfl rfl (by rw [hz2]; omega) (by omega) ?_; rw [← hwB.out]))
      rw [← hsb]
      clear hsb c0 c1 c2 c3 c4 c5
      obtain ⟨wo, rfl⟩ : ∃ wo, wo = wr := ⟨_, rfl⟩
      go_loopw [37] (fun ix wr => ∃ i : Nat, i ≤ 64 ∧ ix = .int .i64 i ∧ ∃ S : List Bool, S.length = c.parts.length ∧ (∀ k : Nat, 1 ≤ k → k ≤ i → ∀ p : Nat, (p : Int) ∈ entL c ((m : Int) + (k : Int)) → S[p]? = some true) ∧ BoolsAt wr sb S ∧ ClkAt wr b c y ((m : Int) + (i : Int)) ∧ Below W.heap.size W wr ∧ wo = wo) (fun ix _ => (64 - intOf ix).toNat)
      case atStart => exact ⟨0, by omega, rfl, List.replicate c.parts.length false, by simp, (fun k h1 h2 => by omega), HBS.out, by simpa using HKB.out, HBB.out, by trivial⟩
      case round =>
        clear HBS HKB HBB
        obtain ⟨i, hi, rfl, S, hSL, hS, hbs, hk, hbr, -⟩ := hrel
        have HSL := Lib.hid hSL
        by_cases hin : i < 64
        · have HS := Lib.hid hS
          have HT := Lib.hid (tick_b c y b ((m : Int) + (i : Int)) ((m : Int) + ((i + 1 : Nat) : Int)) wr hk HFR.out (by omega) (by omega) (by omega))
          have HBR := Lib.hid hbr
          have HBS := Lib.hid hbs
          have hlt : (i : Int) < 64 := by omega
          have HSB0 := Lib.hid hbs.lt
          clear hk hbr hS hbs
          go_wp2_with fail
          refine HT.out.mono ?_
          rintro e w5 ⟨v, rfl, hown, hk5, ho5⟩
          obtain ⟨xs, hxs⟩ : ∃ xs, entL c ((m : Int) + ((i + 1 : Nat) : Int)) = xs := ⟨_, rfl⟩
          have hxl : xs.length ≤ 2 := by rw [← hxs]; exact entL_len c _
          have HXS := Lib.hid hxs
          rw [hxs] at hown
          obtain ⟨A5, p5, rfl, hcp, _⟩ := hown.slice
          have HOWN := Lib.hid hown
          have HB5 := Lib.hid (HBR.out.trans (ho5.below HBR.out.size (fun k e => by rw [e]; exact HBL.out)))
          have HK5 := Lib.hid hk5
          have HBS5 := Lib.hid (HBS.out.only ho5 (fun e => HSB.out e))
          clear hxs hown hk5 ho5 HT HBS
          go_wp2_with fail
          obtain ⟨wo, rfl⟩ : ∃ wo, wo = wr := ⟨_, rfl⟩
          go_loopw [43] (fun jx wv => ∃ j : Nat, j ≤ xs.length ∧ jx = .int .i64 j ∧ ∃ S' : List Bool, S'.length = c.parts.length ∧ (∀ p : Nat, S[p]? = some true → S'[p]? = some true) ∧ (∀ q : Nat, q < j → ∀ p : Nat, xs.getD q 0 = (p : Int) → S'[p]? = some true) ∧ BoolsAt wv sb S' ∧ Only (fun k => k = sb) w5 wv ∧ wo = wo) (fun jx _ => (xs.length : Int) - intOf jx |>.toNat)
          case atStart => exact ⟨0, by omega, rfl, S, HSL.out, fun p h => h, (fun q hq => by omega), HBS5.out, Only.refl _ _, by trivial⟩
          case round =>
            obtain ⟨j, hj, rfl, S', hl', hS1, hS2, hbs, hov, -⟩ := hrel
            obtain ⟨wv, hwv⟩ : ∃ wv, wv = wr := ⟨_, rfl⟩
            rw [← hwv] at hbs hov ⊢
            clear hwv wr
            by_cases hjl : j < xs.length
            · have hq : xs.getD j 0 ∈ xs := by rw [List.getD_eq_getElem?_getD, List.getElem?_eq_getElem hjl]; exact List.getElem_mem hjl
              obtain ⟨p, hp1, hp2, hp3⟩ := ent_who HACC.out (t := (m : Int) + ((i + 1 : Nat) : Int)) (q := xs.getD j 0) (by omega) (by omega) (by rw [HXS.out]; exact hq)
              obtain ⟨bx0, o, rfl, hbl, hcell⟩ := (nums_row (HOWN.out.kept hov (fun k hk e => by have := (HOWN.out.lt k hk).1; have := HSB0.out; omega))).at_ hjl
              have hcell := hcell _ (Below.refl _ _)
              rw [hp1] at hcell
              have hkv := HK5.out.only HLOW.out hov (fun k e => by rw [e]; exact Nat.le_refl _)
              have hbv := HB5.out.trans (hov.below HB5.out.size (fun k e => by rw [e]; exact HSW.out))
              obtain ⟨c0, c1, c2, c3, c4, c5⟩ := BX.out _ hbv
              have HPR : Hid (xs.getD j 0 = (p : Int)) := Lib.hid hp1
              obtain ⟨z, hz⟩ : ∃ z, S'[p]? = some z := ⟨_, List.getElem?_eq_getElem (by omega)⟩
              have s0 := hbs.cell hz
              have s1 := hbs.frozen p
              obtain ⟨pb, po, x0, x1, ep, hpl, e1, ⟨hw0, hw1⟩, r0⟩ := HXW.out.rp.at2 HWX.out.wp hp2
              rw [ep] at c0
              obtain ⟨wv2, hwv2⟩ : ∃ u, Hid (u = wv.setCell ⟨sb, p, none⟩ (.bool true)) := ⟨_, rfl⟩
              have ho2 := Only.setCell wv ⟨sb, p, none⟩ (.bool true)
              rw [← hwv2.out] at ho2
              have HO2 := Lib.hid (hov.trans ho2)
              have hb2 := hbv.trans (ho2.below hbv.size (fun k e => by rw [e]; exact HSW.out))
              have HB2 := Lib.hid hb2
              have HBS2 : Hid (BoolsAt wv2 sb (S'.set p true)) := Lib.hid (by rw [hwv2.out]; exact hbs.set p true)
              have hk2 := hkv.only HLOW.out ho2 (fun k e => by rw [e]; exact Nat.le_refl _)
              obtain ⟨d0, d1, d2, d3, d4, d5⟩ := BX.out _ hb2
              rw [ep] at d0
              have r0 := r0 _ hb2
              obtain ⟨r0, r1⟩ := r0
              have hf0 : fld (row c.parts p) 0 = x0 := by rw [row_at e1]; rfl
              rw [hf0, hp1] at hp3
              have HW1 := Lib.hid (who_b c y b ((m : Int) + ((i + 1 : Nat) : Int)) x0 (p : Int) true wv2 (by exact hk2) HFR.out (by rw [hp3]; rfl) (by rw [hp3]; rfl))
              have HL2 := Lib.hid (show (S'.set p true).length = c.parts.length by rw [List.length_set]; exact hl')
              have HS1 : Hid (∀ r : Nat, S[r]? = some true → (S'.set p true)[r]? = some true) := Lib.hid (fun r hr => by
                rw [List.getElem?_set]
                split
                · rw [if_pos (by omega)]
                · exact hS1 r hr)
              have HS2 : Hid (∀ q : Nat, q < j + 1 → ∀ r : Nat, xs.getD q 0 = (r : Int) → (S'.set p true)[r]? = some true) := Lib.hid (fun q hq2 r hr => by
                rw [List.getElem?_set]
                split
                · rw [if_pos (by omega)]
                · rename_i hne
                  by_cases hqj : q = j
                  · subst hqj
                    exact absurd (by have := hr.symm.trans hp1; omega) hne
                  · exact hS2 q (by omega) r hr)
              have HXL := Lib.hid hxl; have HJL := Lib.hid hjl
              have hj2 : j ≤ 2 := by omega
              have hp4 : (p : Int) < (c.parts.length : Int) := by omega
              have hjx : (j : Int) < (xs.length : Int) := by omega
              have hnp : ¬ ((p : Int) < 0) := by omega
              clear hp3 hf0 hq hz hbs hS1 hS2 hl' hb2 hk2 hkv hov ho2 hbv HPR hxl hp1 e1 hpl hbl
              clear ep
              go_wp2_with (first | (rw [← hwv2.out]))
              refine HW1.out.mono ?_
              rintro e w6 ⟨rfl, hb6⟩
              have HO6 := Lib.hid (HO2.out.trans (Only.of_below hb6))
              have HBS6 := Lib.hid (HBS2.out.below hb6)
              have hne : ((p : Int) != (p : Int)) = false := by simp
              clear hb6 HW1 s0 s1 r0 r1 c0 c1 c2 c3 c4 c5 d0 d1 d2 d3 d4 d5
              go_wp2
              go_roundw
              case rel => exact ⟨j + 1, (by have := HJL.out; omega), by go_num, S'.set p true, HL2.out, HS1.out, HS2.out, HBS6.out, HO6.out, by trivial⟩
              case measure => have := HJL.out; simp [intOf]; omega
            · have hall : ∀ k : Nat, 1 ≤ k → k ≤ i + 1 → ∀ p : Nat, (p : Int) ∈ entL c ((m : Int) + (k : Int)) → S'[p]? = some true := fun k h1 h2 p hp => by
                by_cases hk : k = i + 1
                · subst hk
                  rw [HXS.out] at hp
                  obtain ⟨q, hq, hq2⟩ := List.getElem_of_mem hp
                  exact hS2 q (by omega) p (by rw [List.getD_eq_getElem?_getD, List.getElem?_eq_getElem hq, hq2]; rfl)
                · exact hS1 p (HS.out k h1 (by omega) p hp)
              have HALL := Lib.hid hall; have HL3 := Lib.hid hl'; have HBS3 := Lib.hid hbs
              have hbv := HB5.out.trans (hov.below HB5.out.size (fun k e => by rw [e]; exact HSW.out))
              have HBV := Lib.hid hbv
              have HKV := Lib.hid (HK5.out.only HLOW.out hov (fun k e => by rw [e]; exact Nat.le_refl _))
              obtain ⟨c0, c1, c2, c3, c4, c5⟩ := BX.out _ hbv
              clear hall hl' hbs hS1 hS2 hov hbv HOWN HBS5 HK5 HB5 HBR HS
              go_wp2
              clear c0 c1 c2 c3 c4 c5
              obtain ⟨wp, rfl⟩ : ∃ wp, wp = wv := ⟨_, rfl⟩
              go_loopw [81] (fun jx wr => ∃ j : Nat, j ≤ c.parts.length ∧ jx = .int .i64 j ∧ Below wp.heap.size wp wr ∧ wo = wo) (fun jx _ => (c.parts.length : Int) - intOf jx |>.toNat)
              case atStart => exact ⟨0, by omega, rfl, Below.refl _ _, by trivial⟩
              case round =>
                obtain ⟨j, hj, rfl, hbq, -⟩ := hrel
                by_cases hjl : j < c.parts.length
                · obtain ⟨pb, po, x0, x1, ep, hpl, e1, ⟨hw0, hw1⟩, r0⟩ := HXW.out.rp.at2 HWX.out.wp hjl
                  have hbx := HBV.out.trans (hbq.mono HBV.out.size)
                  obtain ⟨r0, r1⟩ := r0 _ hbx
                  obtain ⟨xb, hxb0⟩ : ∃ xb, xb = wr.heap.size := ⟨_, rfl⟩
                  obtain ⟨wa, hwa⟩ : ∃ u, Hid (u = wr.alloc (.cells #[.int .i64 x0, .int .i64 x1] 45)) := ⟨_, rfl⟩
                  have hba : Below wr.heap.size wr wa := by rw [hwa.out]; exact (Below.refl _ _).alloc (Nat.le_refl _) _
                  have hxa : wa.heap[wr.heap.size]? = some (.cells #[.int .i64 x0, .int .i64 x1] 45 (0, 0)) := by rw [hwa.out]; exact heap_alloc_new _ _
                  have HBQ := Lib.hid (hbq.trans (hba.mono hbq.size))
                  have hbw := hbx.trans (hba.mono hbx.size)
                  obtain ⟨z, hz⟩ : ∃ z, S'[j]? = some z := ⟨_, List.getElem?_eq_getElem (by have := HL3.out; omega)⟩
                  have s0 := (HBS3.out.below HBQ.out).cell hz
                  have a0 := cell_blk hxa (i := 0) rfl
                  have hf0 : fld (row c.parts j) 0 = x0 := by rw [row_at e1]; rfl
                  have hjx : (j : Int) < (c.parts.length : Int) := by omega
                  obtain ⟨hc01, -⟩ := HACC.out.has j hjl
                  rw [hf0] at hc01
                  have HZ : Hid (z = false → ¬ frL c x0 ≤ ((i + 1 : Nat) : Int)) := Lib.hid (fun hzf hle => by
                    obtain ⟨k, h1, h2, h3⟩ := ent_soon HACC.out (t := (m : Int)) (n := i + 1) (by omega) (by omega) hjl (by rw [hf0]; exact hle)
                    have := HALL.out k h1 h2 j h3
                    rw [hz, hzf] at this
                    cases this)
                  have hjb : j ≤ 1000000 := by omega
                  obtain ⟨d0, d1, d2, d3, d4, d5⟩ := BX.out _ hbw
                  rw [ep] at d0
                  have HX1 := Lib.hid hxb0
                  clear hbq hbx hba hxa hbw hz hf0 e1 hpl hjl
                  cases z with
                  | true =>
                    go_wp2_with (first | (rw [← hwa.out]))
                    go_roundw
                    case rel => exact ⟨j + 1, by omega, by go_num, HBQ.out, by trivial⟩
                    case measure => simp [intOf]; omega
                  | false =>
                    have hz2 := HZ.out rfl
                    rcases hc01 with rfl | rfl
                    · have hz3 : ¬ c.len0 ≤ (i : Int) + 1 := by have : ¬ c.len0 ≤ ((i + 1 : Nat) : Int) := hz2; omega
                      clear hz2
                      go_wp2_with (first | (rw [← hwa.out]))
                      go_roundw
                      case rel => exact ⟨j + 1, by omega, by go_num, HBQ.out, by trivial⟩
                      case measure => simp [intOf]; omega
                    · have hz3 : ¬ c.len1 ≤ (i : Int) + 1 := by have : ¬ c.len1 ≤ ((i + 1 : Nat) : Int) := hz2; omega
                      clear hz2
                      go_wp2_with (first | (rw [← hwa.out]))
                      go_roundw
                      case rel => exact ⟨j + 1, by omega, by go_num, HBQ.out, by trivial⟩
                      case measure => simp [intOf]; omega
                · have HKF := Lib.hid (HKV.out.later hbq)
                  have HBF := Lib.hid (HBV.out.trans (hbq.mono HBV.out.size))
                  have HSF := Lib.hid (HBS3.out.below hbq)
                  clear hbq
                  go_wp2
                  go_roundw
                  case rel => exact ⟨i + 1, by omega, by go_num, S', HL3.out, HALL.out, HSF.out, HKF.out, HBF.out, by trivial⟩
                  case measure => simp [intOf]; omega
        · have HBF := Lib.hid (HB.out.trans (hbr.mono HB.out.size))
          clear hbr hk hbs hS hSL
          go_wp2
          go_ret
          exact ⟨rfl, HBF.out⟩
    · have HT := Lib.hid (tick_b c y b (i : Int) ((i : Int) + 1) wr hk HFR.out rfl (by omega) (by omega))
      have HBR := Lib.hid hbr
      have hsum := IntWalk.u8_in ((i : Int) + 1) (by omega)
      have hlt : (i : Int) < n := by omega
      clear hk hbr
      go_wp2_with fail
      refine HT.out.mono ?_
      rintro e w5 ⟨v, rfl, -, hk5, ho5⟩
      have HK5 := Lib.hid hk5
      have HB5 := Lib.hid (HBR.out.trans (ho5.below HBR.out.size (fun k e => by rw [e]; exact HBL.out)))
      clear hk5 ho5 HT
      go_wp2
      go_roundw
      case rel => exact ⟨i + 1, by omega, by go_num, by have h := HK5.out; rwa [Int.natCast_add], HB5.out⟩
      case measure => simp [intOf]; omega
end Go.Proofs.Ytfpcldkgcifciaa
