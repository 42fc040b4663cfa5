/- LayoutSpans answers true. No condition but those in the statements. LayoutSpans, at any uint8. No condition but those in the statements. -/
import Derived.Test.YtjnmgofkdimdaaaLSame
import Derived.Test.YtjnmgofkdimdaaaLWakes
import Derived.BigQuiet
import Derived.IntWalk
import Derived.BigRegion
import Derived.Deep.RegionHeld3
namespace Go.Proofs.Ytjnmgofkdimdaaa
open Go.RowKit Go.Sort Go.ChangeShapes Go.WideShapes
set_option linter.unusedVariables false
set_option linter.unusedSimpArgs false

set_option maxRecDepth 100000 in
set_option maxHeartbeats 8000000 in
theorem lspans_b (c : Cfg) (x : CfgAt) (k s : Int) (w : World) (hx : CfgIn w w.heap.size c x) (wx : CfgWf c) (hs : 0 ≤ s ∧ s ≤ 255) : Calls Try.prog 3 #[.agg (cfgCells c x), .int .i64 k, .int .u8 s] w fun e w' => e = .returned (.bool true) ∧ Below w.heap.size w w' := by
  obtain ⟨W, HW, hB0, -, bx⟩ := one_cbox w c x 29
  have hxW := hx.later hB0
  have HB := Lib.hid hB0; have HXW := Lib.hid hxW
  simp only [cfgCells] at HW ⊢
  clear hx hB0 hxW
  go_enter Try.func3, Try.ntmps3
  go_wp2_with (rw [← HW.out])
  refine (wakes_b W).mono ?_
  rintro e w1 ⟨rfl, hb1⟩
  have hx1 := HXW.out.later hb1
  obtain ⟨c0, c1, c2, c3, c4, c5⟩ := bx _ hb1
  have HB1 := Lib.hid (HB.out.trans (hb1.mono HB.out.size))
  have bx1 := bx.on hb1
  clear hb1
  by_cases hg : cfgLe 100 c = true
  · have lx := cfgLe_few hg (by omega)
    have HG := Lib.hid (great_is c x false w1 (by rw [hg]; rfl))
    simp only [cfgCells] at HG
    clear hg
    go_wp2_with fail
    refine HG.out.mono ?_
    rintro e w2 ⟨rfl, hb2⟩
    have hx2 := hx1.later hb2
    have HRA := Lib.hid (rall_row c x w2 hx2 wx lx)
    obtain ⟨d0, d1, d2, d3, d4, d5⟩ := bx1 _ hb2
    have HB2 := Lib.hid (HB1.out.trans (hb2.mono HB1.out.size))
    have bx2 := bx1.on hb2
    have hll := spansL_len c
    obtain ⟨sn, rfl⟩ := Int.eq_ofNat_of_zero_le hs.1
    obtain ⟨n, hn⟩ : ∃ n, n = min sn (spansL c).length := ⟨_, rfl⟩
    have hn2 : n ≤ (spansL c).length := by omega
    have hmin : ∀ (ts : Array TypeId) (t : TypeId) (w : World), (Builtin.min_ ts t #[.int .i64 (sn : Int), .int .i64 ((spansL c).length : Int)]).run Try.prog w = .ok (.int .i64 (n : Int)) w := fun ts t w => by
      rw [run_min_int2, show (if ((spansL c).length : Int) < (sn : Int) then ((spansL c).length : Int) else (sn : Int)) = (n : Int) by split <;> omega]
    have hlt : ((spansL c).take n).length = n := by rw [List.length_take]; omega
    have HT1 := fun (W' : World) (hx' : CfgIn W' W'.heap.size c x) => told99_row c x W' hx' wx lx
    have HT2 := fun (W' : World) (hx' : CfgIn W' W'.heap.size c x) => told_row c x n W' (by omega) hx' wx lx
    have HLW := Lib.hid (spansL_wf c)
    obtain ⟨L, hL⟩ : ∃ L, spansL c = L := ⟨_, rfl⟩
    rw [hL] at hll hn hn2 hmin hlt HRA HLW
    simp only [hL] at HT1 HT2
    simp only [cfgCells] at HRA
    clear hb2 hL hn c0 c1 c2 c3 c4 c5 bx1 bx
    go_wp2_with fail
    refine HRA.out.mono ?_
    rintro e V ⟨AL, capL, rfl, hcap, hrA, hb3⟩
    have hxV := hx2.later hb3
    have HBV := Lib.hid (HB2.out.trans (hb3.mono HB2.out.size))
    have bx := bx2.on hb3
    have HSZ := Lib.hid (show ∀ W', Below V.heap.size V W' → Calls Try.prog 11 #[.agg (cfgCells c x)] W' (fun e w' => e = .returned (.int .i64 (sizeN c)) ∧ Below W'.heap.size W' w') from fun W' hb => size8_b c x W' (hxV.later hb) wx lx)
    have HRZ := Lib.hid (show ∀ W', Below V.heap.size V W' → Calls Try.prog 12 #[.agg (cfgCells c x)] W' (fun e w' => e = .returned (.int .i64 (sizeN c)) ∧ Below W'.heap.size W' w') from fun W' hb => rsize_b c x W' (hxV.later hb) wx lx)
    have HP1 := Lib.hid (show ∀ W', Below V.heap.size V W' → Calls Try.prog 13 #[.agg (cfgCells c x), .int .i64 k] W' (fun e w' => e = .returned (.agg #[.int .i64 (privSpan c k).1, .int .i64 (privSpan c k).2]) ∧ Below W'.heap.size W' w') from fun W' hb => private_b c x k W' (hxV.later hb) wx lx)
    have HP2 := Lib.hid (show ∀ W', Below V.heap.size V W' → Calls Try.prog 14 #[.agg (cfgCells c x), .int .i64 k] W' (fun e w' => e = .returned (.agg #[.int .i64 (privSpan c k).1, .int .i64 (privSpan c k).2]) ∧ Below W'.heap.size W' w') from fun W' hb => rprivate_b c x k W' (hxV.later hb) wx lx)
    have HS1 := Lib.hid (show ∀ W', Below V.heap.size V W' → Calls Try.prog 15 #[.agg (cfgCells c x), .int .i64 k] W' (fun e w' => e = .returned (.agg #[.int .i64 (srcSpan c k).1, .int .i64 (srcSpan c k).2]) ∧ Below W'.heap.size W' w') from fun W' hb => source_b c x k W' (hxV.later hb) wx lx)
    have HS2 := Lib.hid (show ∀ W', Below V.heap.size V W' → Calls Try.prog 16 #[.agg (cfgCells c x), .int .i64 k] W' (fun e w' => e = .returned (.agg #[.int .i64 (srcSpan c k).1, .int .i64 (srcSpan c k).2]) ∧ Below W'.heap.size W' w') from fun W' hb => rsource_b c x k W' (hxV.later hb) wx lx)
    have HD1 := Lib.hid (show ∀ W', Below V.heap.size V W' → Calls Try.prog 17 #[.agg (cfgCells c x), .int .i64 k] W' (fun e w' => e = .returned (.agg #[.int .i64 (dstSpan c k).1, .int .i64 (dstSpan c k).2]) ∧ Below W'.heap.size W' w') from fun W' hb => dest_b c x k W' (hxV.later hb) wx lx)
    have HD2 := Lib.hid (show ∀ W', Below V.heap.size V W' → Calls Try.prog 18 #[.agg (cfgCells c x), .int .i64 k] W' (fun e w' => e = .returned (.agg #[.int .i64 (dstSpan c k).1, .int .i64 (dstSpan c k).2]) ∧ Below W'.heap.size W' w') from fun W' hb => rdest_b c x k W' (hxV.later hb) wx lx)
    have HT1 := Lib.hid (fun W' (hb : Below V.heap.size V W') => HT1 W' (hxV.later hb))
    have HT2 := Lib.hid (fun W' (hb : Below V.heap.size V W') => HT2 W' (hxV.later hb))
    obtain ⟨z, hz⟩ : ∃ z, sizeN c = z := ⟨_, rfl⟩
    obtain ⟨p0, hp0⟩ : ∃ z, (privSpan c k).1 = z := ⟨_, rfl⟩
    obtain ⟨p1, hp1⟩ : ∃ z, (privSpan c k).2 = z := ⟨_, rfl⟩
    obtain ⟨s0, hs0⟩ : ∃ z, (srcSpan c k).1 = z := ⟨_, rfl⟩
    obtain ⟨s1, hs1⟩ : ∃ z, (srcSpan c k).2 = z := ⟨_, rfl⟩
    obtain ⟨d0', hd0⟩ : ∃ z, (dstSpan c k).1 = z := ⟨_, rfl⟩
    obtain ⟨d1', hd1⟩ : ∃ z, (dstSpan c k).2 = z := ⟨_, rfl⟩
    rw [hz] at HSZ HRZ
    rw [hp0, hp1] at HP1 HP2
    rw [hs0, hs1] at HS1 HS2
    rw [hd0, hd1] at HD1 HD2
    obtain ⟨i0, hi0, _, _, _⟩ := info_parts Try.infoSp
    have hup := fun w => upto_row (P := Try.prog) (t := 32) Try.underlying32 hi0 AL L.length capL n (by omega) w
    simp only [cfgCells] at HSZ HRZ HP1 HP2 HS1 HS2 HD1 HD2 HT1 HT2
    have HLT := Lib.hid hlt
    clear hz hp0 hp1 hs0 hs1 hd0 hd1 hb3 hx1 hx2 hxV d0 d1 d2 d3 d4 d5 bx2 hlt
    go_wp2_with fail
    refine wp_region_held_drew (S := fun W' => Below V.heap.size V W') (by kernel_rfl) ((Below.refl _ _).drew) (fun hHeld => ?_)
    have hB := hHeld
    have HRV := Lib.hid hrA
    clear hrA
    refine wpAnyH_take (i := 0) rfl (by kernel_rfl) (by kernel_rfl) (by kernel_rfl) (fun _ _ _ h => h) (Or.inl ⟨by rfl, by intro w hSw; (obtain ⟨c0, c1, c2, c3, c4, c5⟩ := bx _ hSw); (go_simp <;> with_reducible rfl)⟩) (by assumption) ?_
    (try simp only [Act.put, List.setIfInBounds_toArray, List.set_cons_zero, List.set_cons_succ, List.getElem_toArray, List.getElem_cons_zero, List.getElem_cons_succ])
    refine wpAnyH_take (i := 2) rfl (by kernel_rfl) (by kernel_rfl) (by kernel_rfl) (fun _ _ _ h => h) (Or.inl ⟨by rfl, by intro w hSw; (obtain ⟨c0, c1, c2, c3, c4, c5⟩ := bx _ hSw); (go_simp <;> with_reducible rfl)⟩) (by assumption) ?_
    (try simp only [Act.put, List.setIfInBounds_toArray, List.set_cons_zero, List.set_cons_succ, List.getElem_toArray, List.getElem_cons_zero, List.getElem_cons_succ])
    refine wpAnyH_ready (rs := [1]) (by kernel_rfl) (by simp) (AllReadyH.cons rfl (fun K hK => ?_) AllReadyH.nil)
    go_simp
    refine (HSZ.out _ hB).mono ?_
    rintro e w5 ⟨rfl, hl⟩
    (try go_wp2_with fail)
    have hB' := hB.trans (hl.mono hB.size)
    clear hB hl hHeld
    have hB := hB'
    clear hB'
    refine hK.out _ _ hB (fun hHeld => ?_)
    clear hK K
    (try simp only [Act.put, List.setIfInBounds_toArray, List.set_cons_zero, List.set_cons_succ, List.getElem_toArray, List.getElem_cons_zero, List.getElem_cons_succ])
    refine wpAnyH_ready (rs := [3]) (by kernel_rfl) (by simp) (AllReadyH.cons rfl (fun K hK => ?_) AllReadyH.nil)
    go_simp
    refine (HRZ.out _ hB).mono ?_
    rintro e w5 ⟨rfl, hl⟩
    (try go_wp2_with fail)
    have hB' := hB.trans (hl.mono hB.size)
    clear hB hl hHeld
    have hB := hB'
    clear hB'
    refine hK.out _ _ hB (fun hHeld => ?_)
    clear hK K
    (try simp only [Act.put, List.setIfInBounds_toArray, List.set_cons_zero, List.set_cons_succ, List.getElem_toArray, List.getElem_cons_zero, List.getElem_cons_succ])
    refine wpAnyH_take (i := 4) rfl (by kernel_rfl) (by kernel_rfl) (by kernel_rfl) (fun _ _ _ h => h) (Or.inl ⟨by rfl, by intro w hSw; (obtain ⟨c0, c1, c2, c3, c4, c5⟩ := bx _ hSw); (go_simp <;> with_reducible rfl)⟩) (by assumption) ?_
    (try simp only [Act.put, List.setIfInBounds_toArray, List.set_cons_zero, List.set_cons_succ, List.getElem_toArray, List.getElem_cons_zero, List.getElem_cons_succ])
    refine wpAnyH_take (i := 5) rfl (by kernel_rfl) (by kernel_rfl) (by kernel_rfl) (fun _ _ _ h => h) (Or.inl ⟨by rfl, by intro w hSw; (obtain ⟨c0, c1, c2, c3, c4, c5⟩ := bx _ hSw); (go_simp <;> with_reducible rfl)⟩) (by assumption) ?_
    (try simp only [Act.put, List.setIfInBounds_toArray, List.set_cons_zero, List.set_cons_succ, List.getElem_toArray, List.getElem_cons_zero, List.getElem_cons_succ])
    refine wpAnyH_take (i := 6) rfl (by kernel_rfl) (by kernel_rfl) (by kernel_rfl) (fun _ _ _ h => h) (Or.inl ⟨by rfl, by intro w hSw; (obtain ⟨c0, c1, c2, c3, c4, c5⟩ := bx _ hSw); (go_simp <;> with_reducible rfl)⟩) (by assumption) ?_
    (try simp only [Act.put, List.setIfInBounds_toArray, List.set_cons_zero, List.set_cons_succ, List.getElem_toArray, List.getElem_cons_zero, List.getElem_cons_succ])
    refine wpAnyH_take (i := 7) rfl (by kernel_rfl) (by kernel_rfl) (by kernel_rfl) (fun _ _ _ h => h) (Or.inl ⟨by rfl, by intro w hSw; (obtain ⟨c0, c1, c2, c3, c4, c5⟩ := bx _ hSw); (go_simp <;> with_reducible rfl)⟩) (by assumption) ?_
    (try simp only [Act.put, List.setIfInBounds_toArray, List.set_cons_zero, List.set_cons_succ, List.getElem_toArray, List.getElem_cons_zero, List.getElem_cons_succ])
    refine wpAnyH_take (i := 9) rfl (by kernel_rfl) (by kernel_rfl) (by kernel_rfl) (fun _ _ _ h => h) (Or.inl ⟨by rfl, by intro w hSw; (obtain ⟨c0, c1, c2, c3, c4, c5⟩ := bx _ hSw); (go_simp <;> with_reducible rfl)⟩) (by assumption) ?_
    (try simp only [Act.put, List.setIfInBounds_toArray, List.set_cons_zero, List.set_cons_succ, List.getElem_toArray, List.getElem_cons_zero, List.getElem_cons_succ])
    refine wpAnyH_take (i := 10) rfl (by kernel_rfl) (by kernel_rfl) (by kernel_rfl) (fun _ _ _ h => h) (Or.inl ⟨by rfl, by intro w hSw; (obtain ⟨c0, c1, c2, c3, c4, c5⟩ := bx _ hSw); (go_simp <;> with_reducible rfl)⟩) (by assumption) ?_
    (try simp only [Act.put, List.setIfInBounds_toArray, List.set_cons_zero, List.set_cons_succ, List.getElem_toArray, List.getElem_cons_zero, List.getElem_cons_succ])
    refine wpAnyH_ready (rs := [8]) (by kernel_rfl) (by simp) (AllReadyH.cons rfl (fun K hK => ?_) AllReadyH.nil)
    go_simp
    refine (HP1.out _ hB).mono ?_
    rintro e w5 ⟨rfl, hl⟩
    (try go_wp2_with fail)
    have hB' := hB.trans (hl.mono hB.size)
    clear hB hl hHeld
    have hB := hB'
    clear hB'
    refine hK.out _ _ hB (fun hHeld => ?_)
    clear hK K
    (try simp only [Act.put, List.setIfInBounds_toArray, List.set_cons_zero, List.set_cons_succ, List.getElem_toArray, List.getElem_cons_zero, List.getElem_cons_succ])
    refine wpAnyH_ready (rs := [11]) (by kernel_rfl) (by simp) (AllReadyH.cons rfl (fun K hK => ?_) AllReadyH.nil)
    go_simp
    refine (HP2.out _ hB).mono ?_
    rintro e w5 ⟨rfl, hl⟩
    (try go_wp2_with fail)
    have hB' := hB.trans (hl.mono hB.size)
    clear hB hl hHeld
    have hB := hB'
    clear hB'
    refine hK.out _ _ hB (fun hHeld => ?_)
    clear hK K
    (try simp only [Act.put, List.setIfInBounds_toArray, List.set_cons_zero, List.set_cons_succ, List.getElem_toArray, List.getElem_cons_zero, List.getElem_cons_succ])
    refine wpAnyH_take (i := 12) rfl (by kernel_rfl) (by kernel_rfl) (by kernel_rfl) (fun _ _ _ h => h) (Or.inl ⟨by rfl, by intro w hSw; (obtain ⟨c0, c1, c2, c3, c4, c5⟩ := bx _ hSw); have hq := eqS p0 p1 p0 p1 true (by simp); (go_simp <;> with_reducible rfl)⟩) (by assumption) ?_
    (try simp only [Act.put, List.setIfInBounds_toArray, List.set_cons_zero, List.set_cons_succ, List.getElem_toArray, List.getElem_cons_zero, List.getElem_cons_succ])
    refine wpAnyH_take (i := 13) rfl (by kernel_rfl) (by kernel_rfl) (by kernel_rfl) (fun _ _ _ h => h) (Or.inl ⟨by rfl, by intro w hSw; (obtain ⟨c0, c1, c2, c3, c4, c5⟩ := bx _ hSw); (go_simp <;> with_reducible rfl)⟩) (by assumption) ?_
    (try simp only [Act.put, List.setIfInBounds_toArray, List.set_cons_zero, List.set_cons_succ, List.getElem_toArray, List.getElem_cons_zero, List.getElem_cons_succ])
    refine wpAnyH_take (i := 14) rfl (by kernel_rfl) (by kernel_rfl) (by kernel_rfl) (fun _ _ _ h => h) (Or.inl ⟨by rfl, by intro w hSw; (obtain ⟨c0, c1, c2, c3, c4, c5⟩ := bx _ hSw); (go_simp <;> with_reducible rfl)⟩) (by assumption) ?_
    (try simp only [Act.put, List.setIfInBounds_toArray, List.set_cons_zero, List.set_cons_succ, List.getElem_toArray, List.getElem_cons_zero, List.getElem_cons_succ])
    refine wpAnyH_take (i := 15) rfl (by kernel_rfl) (by kernel_rfl) (by kernel_rfl) (fun _ _ _ h => h) (Or.inl ⟨by rfl, by intro w hSw; (obtain ⟨c0, c1, c2, c3, c4, c5⟩ := bx _ hSw); (go_simp <;> with_reducible rfl)⟩) (by assumption) ?_
    (try simp only [Act.put, List.setIfInBounds_toArray, List.set_cons_zero, List.set_cons_succ, List.getElem_toArray, List.getElem_cons_zero, List.getElem_cons_succ])
    refine wpAnyH_take (i := 16) rfl (by kernel_rfl) (by kernel_rfl) (by kernel_rfl) (fun _ _ _ h => h) (Or.inl ⟨by rfl, by intro w hSw; (obtain ⟨c0, c1, c2, c3, c4, c5⟩ := bx _ hSw); (go_simp <;> with_reducible rfl)⟩) (by assumption) ?_
    (try simp only [Act.put, List.setIfInBounds_toArray, List.set_cons_zero, List.set_cons_succ, List.getElem_toArray, List.getElem_cons_zero, List.getElem_cons_succ])
    refine wpAnyH_take (i := 18) rfl (by kernel_rfl) (by kernel_rfl) (by kernel_rfl) (fun _ _ _ h => h) (Or.inl ⟨by rfl, by intro w hSw; (obtain ⟨c0, c1, c2, c3, c4, c5⟩ := bx _ hSw); (go_simp <;> with_reducible rfl)⟩) (by assumption) ?_
    (try simp only [Act.put, List.setIfInBounds_toArray, List.set_cons_zero, List.set_cons_succ, List.getElem_toArray, List.getElem_cons_zero, List.getElem_cons_succ])
    refine wpAnyH_take (i := 19) rfl (by kernel_rfl) (by kernel_rfl) (by kernel_rfl) (fun _ _ _ h => h) (Or.inl ⟨by rfl, by intro w hSw; (obtain ⟨c0, c1, c2, c3, c4, c5⟩ := bx _ hSw); (go_simp <;> with_reducible rfl)⟩) (by assumption) ?_
    (try simp only [Act.put, List.setIfInBounds_toArray, List.set_cons_zero, List.set_cons_succ, List.getElem_toArray, List.getElem_cons_zero, List.getElem_cons_succ])
    refine wpAnyH_ready (rs := [17]) (by kernel_rfl) (by simp) (AllReadyH.cons rfl (fun K hK => ?_) AllReadyH.nil)
    go_simp
    refine (HS1.out _ hB).mono ?_
    rintro e w5 ⟨rfl, hl⟩
    (try go_wp2_with fail)
    have hB' := hB.trans (hl.mono hB.size)
    clear hB hl hHeld
    have hB := hB'
    clear hB'
    refine hK.out _ _ hB (fun hHeld => ?_)
    clear hK K
    (try simp only [Act.put, List.setIfInBounds_toArray, List.set_cons_zero, List.set_cons_succ, List.getElem_toArray, List.getElem_cons_zero, List.getElem_cons_succ])
    refine wpAnyH_ready (rs := [20]) (by kernel_rfl) (by simp) (AllReadyH.cons rfl (fun K hK => ?_) AllReadyH.nil)
    go_simp
    refine (HS2.out _ hB).mono ?_
    rintro e w5 ⟨rfl, hl⟩
    (try go_wp2_with fail)
    have hB' := hB.trans (hl.mono hB.size)
    clear hB hl hHeld
    have hB := hB'
    clear hB'
    refine hK.out _ _ hB (fun hHeld => ?_)
    clear hK K
    (try simp only [Act.put, List.setIfInBounds_toArray, List.set_cons_zero, List.set_cons_succ, List.getElem_toArray, List.getElem_cons_zero, List.getElem_cons_succ])
    refine wpAnyH_take (i := 21) rfl (by kernel_rfl) (by kernel_rfl) (by kernel_rfl) (fun _ _ _ h => h) (Or.inl ⟨by rfl, by intro w hSw; (obtain ⟨c0, c1, c2, c3, c4, c5⟩ := bx _ hSw); have hq := eqS s0 s1 s0 s1 true (by simp); (go_simp <;> with_reducible rfl)⟩) (by assumption) ?_
    (try simp only [Act.put, List.setIfInBounds_toArray, List.set_cons_zero, List.set_cons_succ, List.getElem_toArray, List.getElem_cons_zero, List.getElem_cons_succ])
    refine wpAnyH_take (i := 22) rfl (by kernel_rfl) (by kernel_rfl) (by kernel_rfl) (fun _ _ _ h => h) (Or.inl ⟨by rfl, by intro w hSw; (obtain ⟨c0, c1, c2, c3, c4, c5⟩ := bx _ hSw); (go_simp <;> with_reducible rfl)⟩) (by assumption) ?_
    (try simp only [Act.put, List.setIfInBounds_toArray, List.set_cons_zero, List.set_cons_succ, List.getElem_toArray, List.getElem_cons_zero, List.getElem_cons_succ])
    refine wpAnyH_take (i := 23) rfl (by kernel_rfl) (by kernel_rfl) (by kernel_rfl) (fun _ _ _ h => h) (Or.inl ⟨by rfl, by intro w hSw; (obtain ⟨c0, c1, c2, c3, c4, c5⟩ := bx _ hSw); (go_simp <;> with_reducible rfl)⟩) (by assumption) ?_
    (try simp only [Act.put, List.setIfInBounds_toArray, List.set_cons_zero, List.set_cons_succ, List.getElem_toArray, List.getElem_cons_zero, List.getElem_cons_succ])
    refine wpAnyH_take (i := 24) rfl (by kernel_rfl) (by kernel_rfl) (by kernel_rfl) (fun _ _ _ h => h) (Or.inl ⟨by rfl, by intro w hSw; (obtain ⟨c0, c1, c2, c3, c4, c5⟩ := bx _ hSw); (go_simp <;> with_reducible rfl)⟩) (by assumption) ?_
    (try simp only [Act.put, List.setIfInBounds_toArray, List.set_cons_zero, List.set_cons_succ, List.getElem_toArray, List.getElem_cons_zero, List.getElem_cons_succ])
    refine wpAnyH_take (i := 25) rfl (by kernel_rfl) (by kernel_rfl) (by kernel_rfl) (fun _ _ _ h => h) (Or.inl ⟨by rfl, by intro w hSw; (obtain ⟨c0, c1, c2, c3, c4, c5⟩ := bx _ hSw); (go_simp <;> with_reducible rfl)⟩) (by assumption) ?_
    (try simp only [Act.put, List.setIfInBounds_toArray, List.set_cons_zero, List.set_cons_succ, List.getElem_toArray, List.getElem_cons_zero, List.getElem_cons_succ])
    refine wpAnyH_take (i := 27) rfl (by kernel_rfl) (by kernel_rfl) (by kernel_rfl) (fun _ _ _ h => h) (Or.inl ⟨by rfl, by intro w hSw; (obtain ⟨c0, c1, c2, c3, c4, c5⟩ := bx _ hSw); (go_simp <;> with_reducible rfl)⟩) (by assumption) ?_
    (try simp only [Act.put, List.setIfInBounds_toArray, List.set_cons_zero, List.set_cons_succ, List.getElem_toArray, List.getElem_cons_zero, List.getElem_cons_succ])
    refine wpAnyH_take (i := 28) rfl (by kernel_rfl) (by kernel_rfl) (by kernel_rfl) (fun _ _ _ h => h) (Or.inl ⟨by rfl, by intro w hSw; (obtain ⟨c0, c1, c2, c3, c4, c5⟩ := bx _ hSw); (go_simp <;> with_reducible rfl)⟩) (by assumption) ?_
    (try simp only [Act.put, List.setIfInBounds_toArray, List.set_cons_zero, List.set_cons_succ, List.getElem_toArray, List.getElem_cons_zero, List.getElem_cons_succ])
    refine wpAnyH_ready (rs := [26]) (by kernel_rfl) (by simp) (AllReadyH.cons rfl (fun K hK => ?_) AllReadyH.nil)
    go_simp
    refine (HD1.out _ hB).mono ?_
    rintro e w5 ⟨rfl, hl⟩
    (try go_wp2_with fail)
    have hB' := hB.trans (hl.mono hB.size)
    clear hB hl hHeld
    have hB := hB'
    clear hB'
    refine hK.out _ _ hB (fun hHeld => ?_)
    clear hK K
    (try simp only [Act.put, List.setIfInBounds_toArray, List.set_cons_zero, List.set_cons_succ, List.getElem_toArray, List.getElem_cons_zero, List.getElem_cons_succ])
    refine wpAnyH_ready (rs := [29]) (by kernel_rfl) (by simp) (AllReadyH.cons rfl (fun K hK => ?_) AllReadyH.nil)
    go_simp
    refine (HD2.out _ hB).mono ?_
    rintro e w5 ⟨rfl, hl⟩
    (try go_wp2_with fail)
    have hB' := hB.trans (hl.mono hB.size)
    clear hB hl hHeld
    have hB := hB'
    clear hB'
    refine hK.out _ _ hB (fun hHeld => ?_)
    clear hK K
    (try simp only [Act.put, List.setIfInBounds_toArray, List.set_cons_zero, List.set_cons_succ, List.getElem_toArray, List.getElem_cons_zero, List.getElem_cons_succ])
    refine wpAnyH_take (i := 30) rfl (by kernel_rfl) (by kernel_rfl) (by kernel_rfl) (fun _ _ _ h => h) (Or.inl ⟨by rfl, by intro w hSw; (obtain ⟨c0, c1, c2, c3, c4, c5⟩ := bx _ hSw); have hq := eqS d0' d1' d0' d1' true (by simp); (go_simp <;> with_reducible rfl)⟩) (by assumption) ?_
    (try simp only [Act.put, List.setIfInBounds_toArray, List.set_cons_zero, List.set_cons_succ, List.getElem_toArray, List.getElem_cons_zero, List.getElem_cons_succ])
    refine wpAnyH_take (i := 31) rfl (by kernel_rfl) (by kernel_rfl) (by kernel_rfl) (fun _ _ _ h => h) (Or.inl ⟨by rfl, by intro w hSw; (obtain ⟨c0, c1, c2, c3, c4, c5⟩ := bx _ hSw); (go_simp <;> with_reducible rfl)⟩) (by assumption) ?_
    (try simp only [Act.put, List.setIfInBounds_toArray, List.set_cons_zero, List.set_cons_succ, List.getElem_toArray, List.getElem_cons_zero, List.getElem_cons_succ])
    refine wpAnyH_take (i := 32) rfl (by kernel_rfl) (by kernel_rfl) (by kernel_rfl) (fun _ _ _ h => h) (Or.inl ⟨by rfl, by intro w hSw; (obtain ⟨c0, c1, c2, c3, c4, c5⟩ := bx _ hSw); (go_simp <;> with_reducible rfl)⟩) (by assumption) ?_
    (try simp only [Act.put, List.setIfInBounds_toArray, List.set_cons_zero, List.set_cons_succ, List.getElem_toArray, List.getElem_cons_zero, List.getElem_cons_succ])
    refine wpAnyH_take (i := 33) rfl (by kernel_rfl) (by kernel_rfl) (by kernel_rfl) (fun _ _ _ h => h) (Or.inl ⟨by rfl, by intro w hSw; (obtain ⟨c0, c1, c2, c3, c4, c5⟩ := bx _ hSw); (go_simp <;> with_reducible rfl)⟩) (by assumption) ?_
    (try simp only [Act.put, List.setIfInBounds_toArray, List.set_cons_zero, List.set_cons_succ, List.getElem_toArray, List.getElem_cons_zero, List.getElem_cons_succ])
    refine wpAnyH_take (i := 35) rfl (by kernel_rfl) (by kernel_rfl) (by kernel_rfl) (fun _ _ _ h => h) (Or.inl ⟨by rfl, by intro w hSw; (obtain ⟨c0, c1, c2, c3, c4, c5⟩ := bx _ hSw); (go_simp <;> with_reducible rfl)⟩) (by assumption) ?_
    (try simp only [Act.put, List.setIfInBounds_toArray, List.set_cons_zero, List.set_cons_succ, List.getElem_toArray, List.getElem_cons_zero, List.getElem_cons_succ])
    refine wpAnyH_ready (rs := [34]) (by kernel_rfl) (by simp) (AllReadyH.cons rfl (fun K hK => ?_) AllReadyH.nil)
    go_simp
    refine (HT1.out _ hB).mono ?_
    rintro e w5 ⟨AT, capT, rfl, hrT, hl⟩
    (try go_wp2_with fail)
    have hB' := hB.trans (hl.mono hB.size)
    clear hB hl hHeld
    have hB := hB'
    clear hB'
    refine hK.out _ _ hB (fun hHeld => ?_)
    clear hK K
    (try simp only [Act.put, List.setIfInBounds_toArray, List.set_cons_zero, List.set_cons_succ, List.getElem_toArray, List.getElem_cons_zero, List.getElem_cons_succ])
    refine wpAnyH_ready (rs := [36]) (by kernel_rfl) (by simp) (AllReadyH.cons rfl (fun K hK => ?_) AllReadyH.nil)
    go_simp
    refine (sameS_yes L AT AL capT capL _ hrT (HRV.out.later hB) HLW.out (by omega)).mono ?_
    rintro e w5 ⟨rfl, hl⟩
    (try go_wp2_with fail)
    have hB' := hB.trans (hl.mono hB.size)
    clear hrT
    clear hB hl hHeld
    have hB := hB'
    clear hB'
    refine hK.out _ _ hB (fun hHeld => ?_)
    clear hK K
    (try simp only [Act.put, List.setIfInBounds_toArray, List.set_cons_zero, List.set_cons_succ, List.getElem_toArray, List.getElem_cons_zero, List.getElem_cons_succ])
    refine wpAnyH_take (i := 37) rfl (by kernel_rfl) (by kernel_rfl) (by kernel_rfl) (fun _ _ _ h => h) (Or.inl ⟨by rfl, by intro w hSw; (obtain ⟨c0, c1, c2, c3, c4, c5⟩ := bx _ hSw); (go_simp <;> with_reducible rfl)⟩) (by assumption) ?_
    (try simp only [Act.put, List.setIfInBounds_toArray, List.set_cons_zero, List.set_cons_succ, List.getElem_toArray, List.getElem_cons_zero, List.getElem_cons_succ])
    refine wpAnyH_take (i := 38) rfl (by kernel_rfl) (by kernel_rfl) (by kernel_rfl) (fun _ _ _ h => h) (Or.inl ⟨by rfl, by intro w hSw; (obtain ⟨c0, c1, c2, c3, c4, c5⟩ := bx _ hSw); (go_simp <;> with_reducible rfl)⟩) (by assumption) ?_
    (try simp only [Act.put, List.setIfInBounds_toArray, List.set_cons_zero, List.set_cons_succ, List.getElem_toArray, List.getElem_cons_zero, List.getElem_cons_succ])
    refine wpAnyH_take (i := 39) rfl (by kernel_rfl) (by kernel_rfl) (by kernel_rfl) (fun _ _ _ h => h) (Or.inl ⟨by rfl, by intro w hSw; (obtain ⟨c0, c1, c2, c3, c4, c5⟩ := bx _ hSw); (go_simp <;> with_reducible rfl)⟩) (by assumption) ?_
    (try simp only [Act.put, List.setIfInBounds_toArray, List.set_cons_zero, List.set_cons_succ, List.getElem_toArray, List.getElem_cons_zero, List.getElem_cons_succ])
    refine wpAnyH_take (i := 40) rfl (by kernel_rfl) (by kernel_rfl) (by kernel_rfl) (fun _ _ _ h => h) (Or.inl ⟨by rfl, by intro w hSw; (obtain ⟨c0, c1, c2, c3, c4, c5⟩ := bx _ hSw); (go_simp <;> with_reducible rfl)⟩) (by assumption) ?_
    (try simp only [Act.put, List.setIfInBounds_toArray, List.set_cons_zero, List.set_cons_succ, List.getElem_toArray, List.getElem_cons_zero, List.getElem_cons_succ])
    refine wpAnyH_take (i := 42) rfl (by kernel_rfl) (by kernel_rfl) (by kernel_rfl) (fun _ _ _ h => h) (Or.inl ⟨by rfl, by intro w hSw; (obtain ⟨c0, c1, c2, c3, c4, c5⟩ := bx _ hSw); (go_simp <;> with_reducible rfl)⟩) (by assumption) ?_
    (try simp only [Act.put, List.setIfInBounds_toArray, List.set_cons_zero, List.set_cons_succ, List.getElem_toArray, List.getElem_cons_zero, List.getElem_cons_succ])
    refine wpAnyH_take (i := 43) rfl (by kernel_rfl) (by kernel_rfl) (by kernel_rfl) (fun _ _ _ h => h) (Or.inl ⟨by rfl, by intro w hSw; (obtain ⟨c0, c1, c2, c3, c4, c5⟩ := bx _ hSw); (go_simp <;> with_reducible rfl)⟩) (by assumption) ?_
    (try simp only [Act.put, List.setIfInBounds_toArray, List.set_cons_zero, List.set_cons_succ, List.getElem_toArray, List.getElem_cons_zero, List.getElem_cons_succ])
    refine wpAnyH_take (i := 44) rfl (by kernel_rfl) (by kernel_rfl) (by kernel_rfl) (fun _ _ _ h => h) (Or.inl ⟨by rfl, by intro w hSw; (obtain ⟨c0, c1, c2, c3, c4, c5⟩ := bx _ hSw); have hq := hup w; (go_simp <;> with_reducible rfl)⟩) (by assumption) ?_
    (try simp only [Act.put, List.setIfInBounds_toArray, List.set_cons_zero, List.set_cons_succ, List.getElem_toArray, List.getElem_cons_zero, List.getElem_cons_succ])
    refine wpAnyH_ready (rs := [41]) (by kernel_rfl) (by simp) (AllReadyH.cons rfl (fun K hK => ?_) AllReadyH.nil)
    go_simp
    refine (HT2.out _ hB).mono ?_
    rintro e w5 ⟨AT, capT, rfl, hrT, hl⟩
    (try go_wp2_with fail)
    have hB' := hB.trans (hl.mono hB.size)
    clear hB hl hHeld
    have hB := hB'
    clear hB'
    refine hK.out _ _ hB (fun hHeld => ?_)
    clear hK K
    (try simp only [Act.put, List.setIfInBounds_toArray, List.set_cons_zero, List.set_cons_succ, List.getElem_toArray, List.getElem_cons_zero, List.getElem_cons_succ])
    refine wpAnyH_ready (rs := [45]) (by kernel_rfl) (by simp) (AllReadyH.cons rfl (fun K hK => ?_) AllReadyH.nil)
    go_simp
    have hS2 := sameS_yes (L.take n) AT AL capT capL _ hrT ((HRV.out.later hB).take n) (wfR_take HLW.out n) (by rw [HLT.out]; omega)
    rw [HLT.out] at hS2
    refine hS2.mono ?_
    rintro e w5 ⟨rfl, hl⟩
    (try go_wp2_with fail)
    have hB' := hB.trans (hl.mono hB.size)
    clear hB hl hHeld
    have hB := hB'
    clear hB'
    refine hK.out _ _ hB (fun hHeld => ?_)
    clear hK K
    (try simp only [Act.put, List.setIfInBounds_toArray, List.set_cons_zero, List.set_cons_succ, List.getElem_toArray, List.getElem_cons_zero, List.getElem_cons_succ])
    refine wpAnyH_take (i := 46) rfl (by kernel_rfl) (by kernel_rfl) (by kernel_rfl) (fun _ _ _ h => h) (Or.inl ⟨by rfl, by intro w hSw; (obtain ⟨c0, c1, c2, c3, c4, c5⟩ := bx _ hSw); (go_simp <;> with_reducible rfl)⟩) (by assumption) ?_
    (try simp only [Act.put, List.setIfInBounds_toArray, List.set_cons_zero, List.set_cons_succ, List.getElem_toArray, List.getElem_cons_zero, List.getElem_cons_succ])
    refine wpAnyH_take (i := 47) rfl (by kernel_rfl) (by kernel_rfl) (by kernel_rfl) (fun _ _ _ h => h) (Or.inl ⟨by rfl, by intro w hSw; (obtain ⟨c0, c1, c2, c3, c4, c5⟩ := bx _ hSw); (go_simp <;> with_reducible rfl)⟩) (by assumption) ?_
    (try simp only [Act.put, List.setIfInBounds_toArray, List.set_cons_zero, List.set_cons_succ, List.getElem_toArray, List.getElem_cons_zero, List.getElem_cons_succ])
    refine wpAnyH_done (by kernel_rfl) ?_ _
    clear hHeld
    go_wp2
    go_ret
    exact ⟨rfl, HBV.out.trans (hB.mono HBV.out.size)⟩
  · have HG := Lib.hid (great_is c x true w1 (by rw [Bool.not_eq_true] at hg; rw [hg]; rfl))
    simp only [cfgCells] at HG
    clear hg
    go_wp2_with fail
    refine HG.out.mono ?_
    rintro e w2 ⟨rfl, hb2⟩
    have HF := Lib.hid (HB1.out.trans (hb2.mono HB1.out.size))
    clear hb2
    go_wp2
    go_ret
    exact ⟨rfl, HF.out⟩
end Go.Proofs.Ytjnmgofkdimdaaa

namespace Go.Proofs.Ytjnmgofkdimdaaa
open Go.RowKit Go.Sort Go.ChangeShapes Go.WideShapes
set_option linter.unusedVariables false
set_option linter.unusedSimpArgs false

theorem u8_in {n : Int} (h : (Lit.int .u8 n).wf = true) : 0 ≤ n ∧ n ≤ 255 := by
  simp [Lit.wf, IntKind.min, IntKind.max, IntKind.signed, IntKind.bits] at h
  omega
end Go.Proofs.Ytjnmgofkdimdaaa
