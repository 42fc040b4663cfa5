/- The walk of RawReads. No condition but those in the statements. -/
import Derived.Test.YtajhfijpbfikkaaBoth
namespace Go.Proofs.Ytajhfijpbfikkaa
open Go.RowKit Go.Sort

theorem reads_big (xs l : List Int) (A AL : Option Addr) (c cl : Nat) (w : World) (hb : 200 < xs.length ∨ 100 < l.length) : Calls Try.prog 3 #[.slice A xs.length c, .slice AL l.length cl] w fun e w' => e = .returned (.bool true) ∧ Below w.heap.size w w' := by
  by_cases hx : 200 < xs.length
  · have g : (200 : Int) < (xs.length : Int) := by omega
    clear hb
    go_enter Try.func3, Try.ntmps3
    go_wp2_with fail
    refine (wakes_b _).mono ?_
    rintro e w1 ⟨rfl, hb⟩
    go_wp2
    go_ret
    exact ⟨rfl, hb⟩
  · have g : ¬ (200 : Int) < (xs.length : Int) := by omega
    have g2 : (100 : Int) < (l.length : Int) := by omega
    clear hb
    go_enter Try.func3, Try.ntmps3
    go_wp2_with fail
    refine (wakes_b _).mono ?_
    rintro e w1 ⟨rfl, hb⟩
    go_wp2
    go_ret
    exact ⟨rfl, hb⟩

set_option maxHeartbeats 6400000 in
theorem reads_in (xs l : List Int) (A AL : Option Addr) (c cl : Nat) (w : World) (hx : xs.length ≤ 200) (hl : l.length ≤ 100) (h1 : xs.length ≤ c) (h4 : A = none → xs = []) (h3 : IntRowK .u32 w w.heap.size A xs)
    (hL : IntRowK .i64 w w.heap.size AL l) : Calls Try.prog 3 #[.slice A xs.length c, .slice AL l.length cl] w fun e w' => e = .returned (.bool true) ∧ Below w.heap.size w w' := by
  obtain ⟨i0, hi, hz0, hz1, hz2⟩ := info_parts Try.infoW
  have g : ¬ (200 : Int) < (xs.length : Int) := by omega
  have g2 : ¬ (100 : Int) < (l.length : Int) := by omega
  have HX := Lib.hid h3; have HL := Lib.hid hL
  clear h3 hL
  go_enter Try.func3, Try.ntmps3
  go_wp2_with fail
  refine (wakes_b _).mono ?_
  rintro e w1 ⟨rfl, hb⟩
  have hb1 : Below w1.heap.size w1 (w1.alloc (.cells #[] 31)) := (Below.refl _ _).alloc (Nat.le_refl _) _
  have hown := OwnsOff.of_own (World.ownsRow_made (base := w1.heap.size) (e := 31) (size := 1) w1 #[] 0 (Nat.le_refl _) (by unfold maxLen; omega) (by simp))
  have hrow1 := (HX.out.later hb).later hb1
  have HB1 := Lib.hid hb; have HA1 := Lib.hid hb1
  obtain ⟨wa, hwa⟩ : ∃ wa, Hid (wa = w1.alloc (.cells #[] 31)) := ⟨_, rfl⟩
  have hsa : wa.heap.size = w1.heap.size + 1 := by rw [hwa.out]; simp
  rw [show (w1.alloc (.cells (#[] : Array Value) 31)) = wa from hwa.out.symm] at hown hrow1 HA1
  clear hb hb1
  go_wp2_with (first | (rw [← hwa.out]) | (at_builtin; refine wpList_append_words _ rfl _ _ 22 rfl w1.heap.size i0 Try.underlying22 hi hz0 hz1 hz2 _ 0 _ rfl hown _ A _ c xs rfl rfl hrow1 h4 (by omega) (by omega) ?_))
  intro v' w2 hown' hgrow _
  have hown2 : OwnsOff w2 w1.heap.size 31 1 v' xs.length (wcells xs) := by simpa using hown'
  obtain ⟨AI, cI, rfl, hcI, hmI, hrI, hnI, hbI⟩ := hown2.wordRow
  have hb2 : Below w1.heap.size w1 w2 := HA1.out.grown hgrow (by omega) (fun k hk => by cases hk; exact Nat.le_refl _)
  have hbw : Below w.heap.size w w2 := HB1.out.trans (hb2.mono HB1.out.size)
  have hr2 : IntRowK .u32 w2 w2.heap.size A xs := HX.out.later hbw
  have hL2 : IntRowK .i64 w2 w2.heap.size AL l := HL.out.later hbw
  obtain ⟨wx, hwx, hB, hbx, hsx⟩ := both_new w2 A AI c cI xs hcI hmI hrI hnI hr2
  have HI := Lib.hid hrI; have HL2 := Lib.hid hL2; have HBW := Lib.hid hbw
  have hsw := hbw.size
  clear hown' hgrow hown2 hbI hnI hb2 hbw hr2 hL2 HB1 HA1 hrow1 hown hwa HX HL hrI
  go_wp2_with (rw [← hwx.out])
  go_loopw [33] (fun ix wr => ∃ j : Nat, j ≤ l.length ∧ ix = .int .i64 j ∧ ∃ (k : Nat) (s : Bool), Both wr w2.heap.size w2.heap.size (w2.heap.size + 1) A xs k s ∧ Below w2.heap.size w2 wr) (fun ix _ => l.length - (intOf ix).toNat)
  case atStart => exact ⟨0, Nat.zero_le _, rfl, 0, false, hB, hbx⟩
  case round =>
    obtain ⟨j, hj, rfl, k, s, hBr, hbr⟩ := hrel
    clear hB hbx
    by_cases hlt : j < l.length
    · obtain ⟨b, o, rfl, hbo, hcs⟩ := HL2.out.at_ hlt
      have c0 := hcs _ hbr
      obtain ⟨n, hn⟩ : ∃ n, l.getD j 0 = n := ⟨_, rfl⟩
      rw [hn] at c0
      have HBW2 := Lib.hid hbr
      have hsz := hBr.size
      clear hcs hn hbr
      by_cases h0 : n < 0
      · obtain ⟨x, k', s', hk', hT, hDT⟩ := nexts_both xs k s (by omega) hBr.le
        go_wp2_with fail
        refine (hT _ _ _ hBr.own).mono ?_
        rintro e w3 ⟨rfl, hX3, hO3⟩
        have hD3 := hBr.doc.kept hO3 (fun i hi => by omega) (by omega)
        have hr3 := hBr.row.below (hO3.below (B := w2.heap.size) (by omega) (fun i hi => by omega))
        go_wp2_with fail
        refine (hDT _ _ _ hD3).mono ?_
        rintro e w4 ⟨rfl, hD4, hO4⟩
        have hB4 : Both w4 w2.heap.size w2.heap.size (w2.heap.size + 1) A xs k' s' := ⟨hk', hX3.kept hO4 (fun i hi => by omega) (by omega), hD4, hr3.below (hO4.below (B := w2.heap.size) (by have := hD3.lt; omega) (fun i hi => by omega))⟩
        have HB := Lib.hid hB4
        have HW := Lib.hid ((HBW2.out.trans (hO3.below (by omega) (fun i hi => by omega))).trans (hO4.below (by have := hD3.lt; omega) (fun i hi => by omega)))
        clear hT hDT hX3 hO3 hD3 hr3 hD4 hO4 hB4 hBr HBW2
        obtain ⟨A7, c7, A8, c8, e0, e1, e2, e3, e4, hr7⟩ := HB.out.looks
        obtain ⟨y, hy⟩ : ∃ y, (decide (k' = xs.length) && !s') = y := ⟨_, rfl⟩
        have hy7 := (done_same xs (k') s' HB.out.le).trans hy
        have hr9 := (HB.out.row.cut (k') c h1).more (B' := w4.heap.size) (by have := HB.out.size; omega)
        have hyl : (xs.drop (k')).length ≤ 1000000 := by simp; omega
        have HY := Lib.hid hy; have HY7 := Lib.hid hy7
        have HS := Lib.hid (And.intro hr7 (And.intro hr9 hyl))
        have hbc := Below.refl w4.heap.size w4
        have hyn : (xs.drop (k')).length = xs.length - (k') := by simp
        obtain ⟨ys, hys⟩ : ∃ ys, xs.drop (k') = ys := ⟨_, rfl⟩
        rw [hys] at HS e0 hyn
        have HK := Lib.hid hyn.symm
        clear hy hy7 hr7 hr9 hyl hys hyn
        go_wp2_with fail
        (with_reducible refine wp_on hbc (by kernel_rfl) (by kernel_rfl) ?_); (repeat (go_big_quiet_step (first | (go_at_call 13; exact Calls.regrown_of (done_on _ _ _ _ y _ (HB.out.own.keptB (below_regrown _ _ _)) HY7.out)) | (go_at_call 14; exact Calls.regrown_of (ddone_on _ _ _ _ _ y _ (HB.out.doc.keptB (below_regrown _ _ _)) HY.out)) | (go_at_call 11; exact Calls.regrown_of (same_yes _ _ ys _ _ _ _ _ rfl HK.out (row_on HS.out.1 _ _) (row_on HS.out.2.1 _ _) HS.out.2.2))))); with_reducible refine wpQuiet_nil ?_; intro wc hbc
        have hbb := Lib.hid (HB.out.keptB hbc)
        have hww := Lib.hid (HW.out.trans (hbc.mono HW.out.size))
        clear e0 e1 e2 e3 e4 hbc HY HY7 HS HK HB HW
        go_wp2
        go_roundw
        case rel => exact ⟨j + 1, by omega, by go_num, _, _, hbb.out, hww.out⟩
        case measure => simp [intOf]; omega
      · obtain ⟨m, rfl⟩ := Int.eq_ofNat_of_zero_le (a := n) (by omega)
        obtain ⟨out, k', s', hk', hol, hT, hDT⟩ := takes_both xs k m s (by omega) hBr.le
        obtain ⟨wo, rfl⟩ : ∃ wo, wo = wr := ⟨_, rfl⟩
        go_wp2_with fail
        refine (hT _ _ _ hBr.own).mono ?_
        rintro e w3 ⟨v3, rfl, hown3, hX3, hO3⟩
        have hD3 := hBr.doc.kept hO3 (fun i hi => by omega) (by omega)
        have hr3 := hBr.row.below (hO3.below (B := w2.heap.size) (by omega) (fun i hi => by omega))
        obtain ⟨a3, c3, rfl, _⟩ := hown3.slice
        go_wp2_with fail
        refine (hDT _ _ _ hD3).mono ?_
        rintro e w4 ⟨v4, rfl, hown4, hD4, hO4⟩
        have hB4 : Both w4 w2.heap.size w2.heap.size (w2.heap.size + 1) A xs k' s' := ⟨hk', hX3.kept hO4 (fun i hi => by omega) (by omega), hD4, hr3.below (hO4.below (B := w2.heap.size) (by have := hD3.lt; omega) (fun i hi => by omega))⟩
        have hown5 := hown3.kept hO4 (fun i hi e => by have := (hown3.lt i hi).1; omega)
        obtain ⟨A5, c5, e5, _, _, hr5, _⟩ := hown5.wordRow
        cases e5
        obtain ⟨A6, c6, rfl, _, _, hr6, _⟩ := hown4.wordRow
        have HB := Lib.hid hB4
        have HW := Lib.hid ((HBW2.out.trans (hO3.below (by omega) (fun i hi => by omega))).trans (hO4.below (by have := hD3.lt; omega) (fun i hi => by omega)))
        have hs4 := Nat.le_trans hO3.size hO4.size
        clear hT hDT hX3 hO3 hD3 hr3 hD4 hO4 hB4 hBr HBW2 hown3 hown4
        go_wp2_with fail
        refine (same_yes _ _ out a3 A6 c3 c6 _ rfl rfl hr5 hr6 (by omega)).mono ?_
        rintro e w5 ⟨rfl, hb5⟩
        have hown6 := hown5.keptB hb5
        have HB := Lib.hid (HB.out.keptB hb5)
        have HW := Lib.hid (HW.out.trans (hb5.mono HW.out.size))
        have hs5 := hb5.size
        clear hr5 hr6 hown5 hb5
        go_wp2_with fail
        go_loopw [55] (fun ix wv => ∃ i : Nat, i ≤ out.length ∧ ix = .int .i64 i ∧ ∃ ys : List Int, ys.length = out.length ∧ OwnsOff wv wo.heap.size 31 1 (.slice a3 out.length c3) out.length (wcells ys) ∧ Only (fun g => wo.heap.size ≤ g) w5 wv) (fun ix _ => out.length - (intOf ix).toNat)
        case atStart => exact ⟨0, Nat.zero_le _, rfl, out, rfl, hown6, Only.refl _ _⟩
        case round =>
          obtain ⟨i, hi2, rfl, ys, hyl, hown, hOn⟩ := hrel
          have HYL := Lib.hid hyl
          clear hown6 hyl
          by_cases hil : i < out.length
          · obtain ⟨g3, off, cap, hv, hbg, hgl, hnc, hcm, hfz, hcell⟩ := hown.lies (by omega)
            cases hv
            have d0 := hcell i _ (wcells_at ys i (by have := HYL.out; omega))
            have f0 := hfz (off + i)
            obtain ⟨y, hy⟩ : ∃ y, ys.getD i 0 = y := ⟨_, rfl⟩
            rw [hy] at d0
            have HO := Lib.hid hown; have HN := Lib.hid hOn
            clear hcell hfz hown hOn hy
            go_wp2
            go_roundw
            case rel => exact ⟨i + 1, by omega, by go_num, ys.set i _, by simpa using HYL.out, by rw [← wcells_set]; exact HO.out.setAt i, HN.out.trans ((Only.setCell wr ⟨g3, off + i, none⟩ _).mono (fun q _ hq => by simp at hq; omega))⟩
            case measure => simp [intOf]; omega
          · have hw5 := HB.out.size
            have HW := Lib.hid (HW.out.trans (hOn.below (B := w2.heap.size) (by omega) (fun q hq => by omega)))
            have HB := Lib.hid (HB.out.kept hOn (fun q hq => by omega) (by omega) (by omega))
            clear hown hOn HYL
            obtain ⟨A7, c7, A8, c8, e0, e1, e2, e3, e4, hr7⟩ := HB.out.looks
            obtain ⟨y, hy⟩ : ∃ y, (decide (k' = xs.length) && !s') = y := ⟨_, rfl⟩
            have hy7 := (done_same xs (k') s' HB.out.le).trans hy
            have hr9 := (HB.out.row.cut (k') c h1).more (B' := wr.heap.size) (by have := HB.out.size; omega)
            have hyl : (xs.drop (k')).length ≤ 1000000 := by simp; omega
            have HY := Lib.hid hy; have HY7 := Lib.hid hy7
            have HS := Lib.hid (And.intro hr7 (And.intro hr9 hyl))
            have hbc := Below.refl wr.heap.size wr
            have hyn : (xs.drop (k')).length = xs.length - (k') := by simp
            obtain ⟨ys, hys⟩ : ∃ ys, xs.drop (k') = ys := ⟨_, rfl⟩
            rw [hys] at HS e0 hyn
            have HK := Lib.hid hyn.symm
            clear hy hy7 hr7 hr9 hyl hys hyn
            go_wp2_with fail
            (with_reducible refine wp_on hbc (by kernel_rfl) (by kernel_rfl) ?_); (repeat (go_big_quiet_step (first | (go_at_call 13; exact Calls.regrown_of (done_on _ _ _ _ y _ (HB.out.own.keptB (below_regrown _ _ _)) HY7.out)) | (go_at_call 14; exact Calls.regrown_of (ddone_on _ _ _ _ _ y _ (HB.out.doc.keptB (below_regrown _ _ _)) HY.out)) | (go_at_call 11; exact Calls.regrown_of (same_yes _ _ ys _ _ _ _ _ rfl HK.out (row_on HS.out.1 _ _) (row_on HS.out.2.1 _ _) HS.out.2.2))))); with_reducible refine wpQuiet_nil ?_; intro wc hbc
            have hbb := Lib.hid (HB.out.keptB hbc)
            have hww := Lib.hid (HW.out.trans (hbc.mono HW.out.size))
            clear e0 e1 e2 e3 e4 hbc HY HY7 HS HK HB HW
            go_wp2
            go_roundw
            case rel => exact ⟨j + 1, by omega, by go_num, _, _, hbb.out, hww.out⟩
            case measure => simp [intOf]; omega
    · obtain rfl : j = l.length := by omega
      have hI : IntRowK .u32 wr wr.heap.size AI xs := (HI.out.below hbr).more hbr.size
      have hA : IntRowK .u32 wr wr.heap.size A xs := hBr.row.more hbr.size
      have HW := Lib.hid (HBW.out.trans (hbr.mono hsw))
      clear hBr hbr
      go_wp2_with fail
      refine (same_yes _ _ xs AI A cI c _ rfl rfl hI hA (by omega)).mono ?_
      rintro e w9 ⟨rfl, hb9⟩
      have HF := Lib.hid (HW.out.trans (hb9.mono HW.out.size))
      clear hb9 hI hA
      go_wp2
      go_ret
      exact ⟨rfl, HF.out⟩
end Go.Proofs.Ytajhfijpbfikkaa
