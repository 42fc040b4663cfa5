/- LayoutGrows answers true. No condition but those in the statements. -/
import Derived.Test.YtjnmgofkdimdaaaLMore
import Derived.Test.YtjnmgofkdimdaaaLWakes
import Derived.BigQuiet
import Derived.IntWalk
import Derived.BigRegion
import Derived.Deep.RegionHeld3
namespace Go.Proofs.Ytjnmgofkdimdaaa
open Go.RowKit Go.Sort Go.ChangeShapes Go.WideShapes
set_option linter.unusedVariables false
set_option linter.unusedSimpArgs false

set_option maxRecDepth 100000 in
set_option maxHeartbeats 8000000 in
theorem lgrows_b (c : Cfg) (x : CfgAt) (x0 x1 x2 x3 x4 x5 x6 : Int) (w : World) (hx : CfgIn w w.heap.size c x) (wx : CfgWf c) (wn : wfN [.i64, .i64, .i64, .i64, .i64, .i64, .u32] [x0, x1, x2, x3, x4, x5, x6]) : Calls Try.prog 7 #[.agg (cfgCells c x), .agg #[.int .i64 x0, .int .i64 x1, .int .i64 x2, .int .i64 x3, .int .i64 x4, .int .i64 x5, .int .u32 x6]] w fun e w' => e = .returned (.bool true) ∧ Below w.heap.size w w' := by
  obtain ⟨i0, hi0, hz0, hz1, hz2⟩ := info_parts Try.infoC
  obtain ⟨j0, hj0, _, _, _⟩ := info_parts Try.infoSp
  obtain ⟨pa, pc, ca, cc, aa, ac, ba, bc⟩ := x
  obtain ⟨W, hW⟩ : ∃ u, Hid (u = (w.alloc (.cells (cfgCells c ⟨pa, pc, ca, cc, aa, ac, ba, bc⟩) 29)).alloc (.cells #[.int .i64 x0, .int .i64 x1, .int .i64 x2, .int .i64 x3, .int .i64 x4, .int .i64 x5, .int .u32 x6] 48)) := ⟨_, rfl⟩
  have hb0 : Below w.heap.size w W := by rw [hW.out]; exact ((Below.refl _ w).alloc (Nat.le_refl _) _).alloc (by simp) _
  have bx : CBox W w.heap.size c ⟨pa, pc, ca, cc, aa, ac, ba, bc⟩ := by rw [hW.out]; exact (cbox_new w c ⟨pa, pc, ca, cc, aa, ac, ba, bc⟩ 29).on ((Below.refl _ _).alloc (Nat.le_refl _) _)
  have hXB : W.heap[w.heap.size + 1]? = some (.cells #[.int .i64 x0, .int .i64 x1, .int .i64 x2, .int .i64 x3, .int .i64 x4, .int .i64 x5, .int .u32 x6] 48 (0, 0)) := by rw [hW.out]; exact heap_new_at _ _ (by simp)
  have hxW := hx.later hb0
  have HB0 := Lib.hid hb0; have HXW := Lib.hid hxW; have HXB := Lib.hid hXB
  simp only [cfgCells] at hW ⊢
  clear hx hb0 hxW hXB
  go_enter Try.func7, Try.ntmps7
  go_wp2_with (rw [← hW.out])
  refine (wakes_b W).mono ?_
  rintro e V ⟨rfl, hbV⟩
  have HXV := Lib.hid (HXW.out.later hbV)
  obtain ⟨c0, c1, c2, c3, c4, c5⟩ := bx _ hbV
  have HBV := Lib.hid (HB0.out.trans (hbV.mono HB0.out.size))
  have HXBV := Lib.hid ((hbV.block _ (Array.getElem?_eq_some_iff.1 HXB.out).1).trans HXB.out)
  have bxV := bx.on hbV
  clear hbV bx
  by_cases hg : cfgLe 100 c = true
  · have hg4 := of_decide_eq_true (show decide (c.parts.length ≤ 100 ∧ c.chans.length ≤ 100 ∧ c.win0.length ≤ 100 ∧ c.win1.length ≤ 100) = true from hg)
    have lx := cfgLe_few hg (by omega)
    have ld : CfgFew (moreC c [x0, x1, x2, x3, x4, x5, x6]) := ⟨lx.1, by simp [moreC]; omega, lx.2.2.1, lx.2.2.2⟩
    have wd : CfgWf (moreC c [x0, x1, x2, x3, x4, x5, x6]) := ⟨wx.wp, fun q hq => by rcases List.mem_append.1 hq with h | h; exact wx.wc q h; simp at h; subst h; exact wn, wx.wa, wx.wb, wx.w0, wx.w1⟩
    have HG := Lib.hid (great_is c ⟨pa, pc, ca, cc, aa, ac, ba, bc⟩ false V (by rw [hg]; rfl))
    simp only [cfgCells] at HG
    clear hg
    go_wp2_with fail
    refine HG.out.mono ?_
    rintro e V2 ⟨rfl, hb2⟩
    have HX2 := Lib.hid (HXV.out.later hb2)
    have HB2 := Lib.hid (HBV.out.trans (hb2.mono HBV.out.size))
    have hXB := (hb2.block _ (Array.getElem?_eq_some_iff.1 HXBV.out).1).trans HXBV.out
    have bx := bxV.on hb2
    have HRC := Lib.hid HX2.out.rc
    have HNC := Lib.hid HX2.out.lc.2.2
    obtain ⟨d0, d1, d2, d3, d4, d5⟩ := bxV _ hb2
    obtain ⟨D, hD0⟩ : ∃ u, Hid (u = V2.alloc (.cells (cfgCells c ⟨pa, pc, ca, cc, aa, ac, ba, bc⟩) 29)) := ⟨_, rfl⟩
    have hBD : Below V2.heap.size V2 D := by rw [hD0.out]; exact (Below.refl _ _).alloc (Nat.le_refl _) _
    have hD : D.heap[V2.heap.size]? = some (.cells (cfgCells c ⟨pa, pc, ca, cc, aa, ac, ba, bc⟩) 29 (0, 0)) := by rw [hD0.out]; exact heap_alloc_new _ _
    have hc100 := hg4.2.1
    simp only [cfgCells] at hD0
    clear hb2 c0 c1 c2 c3 c4 c5 HG
    go_wp2_with (rw [← hD0.out])
    clear d0 d1 d2 d3 d4 d5
    have hdV : V2.heap.size ≤ V2.heap.size := Nat.le_refl _
    refine wp_region_held_drew (S := fun W' => Below V2.heap.size V2 W') (by kernel_rfl) (hBD.drew) (fun hHeld => ?_)
    have hD : D.drew.heap[V2.heap.size]? = some (.cells (cfgCells c ⟨pa, pc, ca, cc, aa, ac, ba, bc⟩) 29 (0, 0)) := hD
    obtain ⟨D0, hDD⟩ : ∃ u, Hid (u = D.drew) := ⟨_, rfl⟩
    rw [← hDD.out] at hHeld hD ⊢
    refine wpAnyH_take (i := 1) rfl (by kernel_rfl) (by kernel_rfl) (by kernel_rfl) (fun _ _ _ h => h) (Or.inl ⟨by rfl, by intro w hSw; (have hqx := (hSw.block _ (Array.getElem?_eq_some_iff.1 hXB).1).trans hXB; have q0 := cell_blk hqx (i := 0) rfl; have q1 := cell_blk hqx (i := 1) rfl; have q2 := cell_blk hqx (i := 2) rfl; have q3 := cell_blk hqx (i := 3) rfl; have q4 := cell_blk hqx (i := 4) rfl; have q5 := cell_blk hqx (i := 5) rfl; have q6 := cell_blk hqx (i := 6) rfl; obtain ⟨c0, c1, c2, c3, c4, c5⟩ := bx _ hSw); (go_simp <;> with_reducible rfl)⟩) (by assumption) ?_
    (try simp only [Act.put, List.setIfInBounds_toArray, List.set_cons_zero, List.set_cons_succ, List.getElem_toArray, List.getElem_cons_zero, List.getElem_cons_succ])
    refine wpAnyH_take (i := 2) rfl (by kernel_rfl) (by kernel_rfl) (by kernel_rfl) (fun _ _ _ h => h) (Or.inl ⟨by rfl, by intro w hSw; (have hqx := (hSw.block _ (Array.getElem?_eq_some_iff.1 hXB).1).trans hXB; have q0 := cell_blk hqx (i := 0) rfl; have q1 := cell_blk hqx (i := 1) rfl; have q2 := cell_blk hqx (i := 2) rfl; have q3 := cell_blk hqx (i := 3) rfl; have q4 := cell_blk hqx (i := 4) rfl; have q5 := cell_blk hqx (i := 5) rfl; have q6 := cell_blk hqx (i := 6) rfl; obtain ⟨c0, c1, c2, c3, c4, c5⟩ := bx _ hSw); (go_simp <;> with_reducible rfl)⟩) (by assumption) ?_
    (try simp only [Act.put, List.setIfInBounds_toArray, List.set_cons_zero, List.set_cons_succ, List.getElem_toArray, List.getElem_cons_zero, List.getElem_cons_succ])
    refine wpAnyH_take (i := 4) rfl (by kernel_rfl) (by kernel_rfl) (by kernel_rfl) (fun _ _ _ h => h) (Or.inl ⟨by rfl, by intro w hSw; (have hqx := (hSw.block _ (Array.getElem?_eq_some_iff.1 hXB).1).trans hXB; have q0 := cell_blk hqx (i := 0) rfl; have q1 := cell_blk hqx (i := 1) rfl; have q2 := cell_blk hqx (i := 2) rfl; have q3 := cell_blk hqx (i := 3) rfl; have q4 := cell_blk hqx (i := 4) rfl; have q5 := cell_blk hqx (i := 5) rfl; have q6 := cell_blk hqx (i := 6) rfl; obtain ⟨c0, c1, c2, c3, c4, c5⟩ := bx _ hSw); (go_simp <;> with_reducible rfl)⟩) (by assumption) ?_
    (try simp only [Act.put, List.setIfInBounds_toArray, List.set_cons_zero, List.set_cons_succ, List.getElem_toArray, List.getElem_cons_zero, List.getElem_cons_succ])
    apply cut2
    rotate_left
    intro key
    have hB := hHeld
    have hD := hD
    have hHeld := hHeld
    refine wpAnyH_ready (rs := [0, 5]) (by kernel_rfl) (by simp) (AllReadyH.cons rfl (fun K hK => ?_) (AllReadyH.cons rfl (fun K hK => ?_) AllReadyH.nil))
    · go_simp
      obtain ⟨v1, hv1⟩ : ∃ v, Hid (v = D0.alloc (.cells #[] 48)) := ⟨_, rfl⟩
      rw [← hv1.out]
      have hl : Below D0.heap.size D0 v1 := by rw [hv1.out]; exact (Below.refl _ _).alloc (Nat.le_refl _) _
      have hE0 : v1.heap[D0.heap.size]? = some (.cells #[] 48 (0, 0)) := by rw [hv1.out]; exact heap_alloc_new _ _
      have hW0 : V2.heap.size ≤ D0.heap.size := hB.size
      have hB' := hB.trans (hl.mono hB.size)
      have hD' := (hl.block _ (Array.getElem?_eq_some_iff.1 hD).1).trans hD
      clear hB hD
      have hB := hB'; have hD := hD'
      clear hB' hD' hHeld
      refine hK.out _ _ hB (fun hHeld => ?_)
      clear hK K
      (try simp only [Act.put, List.setIfInBounds_toArray, List.set_cons_zero, List.set_cons_succ, List.getElem_toArray, List.getElem_cons_zero, List.getElem_cons_succ])
      refine wpAnyH_ready (rs := [3, 5]) (by kernel_rfl) (by simp) (AllReadyH.cons rfl (fun K hK => ?_) (AllReadyH.cons rfl (fun K hK => ?_) AllReadyH.nil))
      · have hG0 : OwnsOff v1 V2.heap.size 48 7 (.slice (some ⟨D0.heap.size, 0, none⟩) 0 0) 0 [] := ⟨rfl, .inr ⟨_, 0, 0, #[], rfl, hW0, hE0, Nat.le_refl _, by unfold maxLen; omega, by simp, rfl⟩⟩
        refine step_append_rowN rfl _ _ 23 rfl [.i64, .i64, .i64, .i64, .i64, .i64, .u32] (by decide) V2.heap.size 48 i0 (.agg #[.int .i64 0, .int .i64 0, .int .i64 0, .int .i64 0, .int .i64 0, .int .i64 0, .int .u32 0]) 56 Try.underlying23 hi0 hz0 hz1 hz2 rfl _ 0 [] rfl hG0 V2.heap.size ca cc c.chans rfl (HRC.out.below hB) wx.wc HNC.out (by unfold maxLen; omega) (by omega) hB.size ?_
        intro va v2 hown hgr hfr
        clear hfr
        have hnX : ∀ g : Nat, some g = (Value.slice (some ⟨D0.heap.size, 0, none⟩) 0 0).ownBlock → v1.heap[g]? = some (.cells #[] 48 (0, 0)) := fun g e => by rw [Option.some.inj e]; exact hE0
        have hD' := (hgr.block _ (Array.getElem?_eq_some_iff.1 hD).1 (fun e => by have := hnX _ e; rw [hD] at this; cases this)).trans hD
        have hB' := hB.grown hgr hB.size (fun k e => by rw [← Option.some.inj e]; exact hW0)
        obtain ⟨a1, c1, rfl, hv1, hm1⟩ := hown.slice
        simp only [Nat.zero_add, List.nil_append] at hown
        clear hnX hgr hG0 hE0 hW0
        simp only [Nat.zero_add]
        clear hB hD
        have hB := hB'; have hD := hD'
        clear hB' hD' hHeld
        refine hK.out _ _ hB (fun hHeld => ?_)
        clear hK K
        (try simp only [Act.put, List.setIfInBounds_toArray, List.set_cons_zero, List.set_cons_succ, List.getElem_toArray, List.getElem_cons_zero, List.getElem_cons_succ])
        refine wpAnyH_ready (rs := [5]) (by kernel_rfl) (by simp) (AllReadyH.cons rfl (fun K hK => ?_) AllReadyH.nil)
        go_simp
        obtain ⟨v3, hv3⟩ : ∃ v, Hid (v = v2.alloc (.cells #[.int .i64 x0, .int .i64 x1, .int .i64 x2, .int .i64 x3, .int .i64 x4, .int .i64 x5, .int .u32 x6] 48)) := ⟨_, rfl⟩
        rw [← hv3.out]
        have hl : Below v2.heap.size v2 v3 := by rw [hv3.out]; exact (Below.refl _ _).alloc (Nat.le_refl _) _
        have hEe : v3.heap[v2.heap.size]? = some (.cells #[.int .i64 x0, .int .i64 x1, .int .i64 x2, .int .i64 x3, .int .i64 x4, .int .i64 x5, .int .u32 x6] 48 (0, 0)) := by rw [hv3.out]; exact heap_alloc_new _ _
        have hWe : V2.heap.size ≤ v2.heap.size := hB.size
        have hB' := hB.trans (hl.mono hB.size)
        have hD' := (hl.block _ (Array.getElem?_eq_some_iff.1 hD).1).trans hD
        have hown := hown.keptB hl
        clear hB hD
        have hB := hB'; have hD := hD'
        clear hB' hD' hHeld
        refine hK.out _ _ hB (fun hHeld => ?_)
        clear hK K
        (try simp only [Act.put, List.setIfInBounds_toArray, List.set_cons_zero, List.set_cons_succ, List.getElem_toArray, List.getElem_cons_zero, List.getElem_cons_succ])
        refine wpAnyH_ready (rs := [6]) (by kernel_rfl) (by simp) (AllReadyH.cons rfl (fun K hK => ?_) AllReadyH.nil)
        refine step_append_off rfl _ _ 23 rfl V2.heap.size 48 i0 (.agg #[.int .i64 0, .int .i64 0, .int .i64 0, .int .i64 0, .int .i64 0, .int .i64 0, .int .u32 0]) 7 56 Try.underlying23 hi0 hz0 hz1 hz2 rfl (by decide) _ c.chans.length (rcells [.i64, .i64, .i64, .i64, .i64, .i64, .u32] c.chans) rfl hown ⟨v2.heap.size, 0, none⟩ 1 1 [.int .i64 x0, .int .i64 x1, .int .i64 x2, .int .i64 x3, .int .i64 x4, .int .i64 x5, .int .u32 x6] rfl rfl (news_block hEe) (by simp [Value.oneCell']) (by unfold maxLen; omega) (by omega) hB.size ?_
        intro vb v4 hown2 hgr hfr
        clear hfr
        have hD' := (hgr.block _ (Array.getElem?_eq_some_iff.1 hD).1 (fun e => by obtain ⟨cs, h⟩ := hown.typed _ e.symm; rw [hD] at h; cases h)).trans hD
        have hB' := hB.grown hgr hB.size (fun k e => (hown.lt k e).1)
        have hown' : OwnsOff v4 V2.heap.size 48 7 vb (c.chans.length + 1) (rcells [.i64, .i64, .i64, .i64, .i64, .i64, .u32] (c.chans ++ [[x0, x1, x2, x3, x4, x5, x6]])) := by rw [rcells_app]; exact hown2
        clear hgr hown hEe hown2
        obtain ⟨a2, c2, rfl, hv2, hm2⟩ := hown'.slice
        clear hB hD
        have hB := hB'; have hD := hD'
        clear hB' hD' hHeld
        refine hK.out _ _ hB (fun hHeld => ?_)
        clear hK K
        (try simp only [Act.put, List.setIfInBounds_toArray, List.set_cons_zero, List.set_cons_succ, List.getElem_toArray, List.getElem_cons_zero, List.getElem_cons_succ])
        refine wpAnyH_take (i := 7) rfl (by kernel_rfl) (by kernel_rfl) (by kernel_rfl) (fun _ _ _ h => h) (Or.inl ⟨by rfl, by intro w hSw; (have hqx := (hSw.block _ (Array.getElem?_eq_some_iff.1 hXB).1).trans hXB; have q0 := cell_blk hqx (i := 0) rfl; have q1 := cell_blk hqx (i := 1) rfl; have q2 := cell_blk hqx (i := 2) rfl; have q3 := cell_blk hqx (i := 3) rfl; have q4 := cell_blk hqx (i := 4) rfl; have q5 := cell_blk hqx (i := 5) rfl; have q6 := cell_blk hqx (i := 6) rfl; obtain ⟨c0, c1, c2, c3, c4, c5⟩ := bx _ hSw); (go_simp <;> with_reducible rfl)⟩) (by assumption) ?_
        (try simp only [Act.put, List.setIfInBounds_toArray, List.set_cons_zero, List.set_cons_succ, List.getElem_toArray, List.getElem_cons_zero, List.getElem_cons_succ])
        refine wpAnyH_ready (rs := [8]) (by kernel_rfl) (by simp) (AllReadyH.cons rfl (fun K hK => ?_) AllReadyH.nil)
        have z0 := cell_blk hD (i := 1) rfl
        have z1 : v4.frozen? ⟨V2.heap.size, 1, none⟩ = false := by simp [World.frozen?, hD]
        go_simp
        clear z0 z1
        obtain ⟨vd, hvd⟩ : ∃ v, Hid (v = v4.setCell ⟨V2.heap.size, 1, none⟩ (.slice a2 (c.chans.length + 1) c2)) := ⟨_, rfl⟩
        rw [← hvd.out]
        have hD' : vd.heap[V2.heap.size]? = some (.cells (cfgCells (moreC c [x0, x1, x2, x3, x4, x5, x6]) ⟨pa, pc, a2, c2, aa, ac, ba, bc⟩) 29 (0, 0)) := by rw [hvd.out]; simp [World.setCell, Array.getElem?_modify, hD, moreC]
        have hB' : Below V2.heap.size V2 vd := by rw [hvd.out]; exact hB.setCell (p := ⟨V2.heap.size, 1, none⟩) hdV _
        have hown4 : OwnsOff vd V2.heap.size 48 7 (.slice a2 (c.chans.length + 1) c2) (c.chans.length + 1) (rcells [.i64, .i64, .i64, .i64, .i64, .i64, .u32] (c.chans ++ [[x0, x1, x2, x3, x4, x5, x6]])) := by
          rw [hvd.out]
          exact hown'.kept (Only.setCell v4 ⟨V2.heap.size, 1, none⟩ _) (fun g hg e => by obtain ⟨cs, h⟩ := hown'.typed g hg; rw [show g = V2.heap.size from e, hD] at h; cases h)
        clear hown' hvd
        clear hB hD
        have hB := hB'; have hD := hD'
        clear hB' hD' hHeld
        refine hK.out _ _ hB (fun hHeld => ?_)
        clear hK K
        (try simp only [Act.put, List.setIfInBounds_toArray, List.set_cons_zero, List.set_cons_succ, List.getElem_toArray, List.getElem_cons_zero, List.getElem_cons_succ])
        refine wpAnyH_done (by kernel_rfl) ?_ _
        clear hHeld
        generalize (Value.slice (some ⟨D0.heap.size, 0, none⟩) 0 0) = s13
        generalize (Value.slice (some ⟨v2.heap.size, 0, none⟩) 1 1) = s18
        generalize (Value.slice a1 c.chans.length c1) = s16
        revert hm2; revert hv2; revert hown4; revert hD; revert hB; revert s18; revert s16; revert s13; revert c2; revert a2; revert vd
        exact key.get
      · go_simp
        obtain ⟨v2, hv2⟩ : ∃ v, Hid (v = v1.alloc (.cells #[.int .i64 x0, .int .i64 x1, .int .i64 x2, .int .i64 x3, .int .i64 x4, .int .i64 x5, .int .u32 x6] 48)) := ⟨_, rfl⟩
        rw [← hv2.out]
        have hl : Below v1.heap.size v1 v2 := by rw [hv2.out]; exact (Below.refl _ _).alloc (Nat.le_refl _) _
        have hEe : v2.heap[v1.heap.size]? = some (.cells #[.int .i64 x0, .int .i64 x1, .int .i64 x2, .int .i64 x3, .int .i64 x4, .int .i64 x5, .int .u32 x6] 48 (0, 0)) := by rw [hv2.out]; exact heap_alloc_new _ _
        have hWe : V2.heap.size ≤ v1.heap.size := hB.size
        have hB' := hB.trans (hl.mono hB.size)
        have hD' := (hl.block _ (Array.getElem?_eq_some_iff.1 hD).1).trans hD
        have hE0 := (hl.block _ (Array.getElem?_eq_some_iff.1 hE0).1).trans hE0
        clear hB hD
        have hB := hB'; have hD := hD'
        clear hB' hD' hHeld
        refine hK.out _ _ hB (fun hHeld => ?_)
        clear hK K
        (try simp only [Act.put, List.setIfInBounds_toArray, List.set_cons_zero, List.set_cons_succ, List.getElem_toArray, List.getElem_cons_zero, List.getElem_cons_succ])
        refine wpAnyH_ready (rs := [3]) (by kernel_rfl) (by simp) (AllReadyH.cons rfl (fun K hK => ?_) AllReadyH.nil)
        have hG0 : OwnsOff v2 V2.heap.size 48 7 (.slice (some ⟨D0.heap.size, 0, none⟩) 0 0) 0 [] := ⟨rfl, .inr ⟨_, 0, 0, #[], rfl, hW0, hE0, Nat.le_refl _, by unfold maxLen; omega, by simp, rfl⟩⟩
        refine step_append_rowN rfl _ _ 23 rfl [.i64, .i64, .i64, .i64, .i64, .i64, .u32] (by decide) V2.heap.size 48 i0 (.agg #[.int .i64 0, .int .i64 0, .int .i64 0, .int .i64 0, .int .i64 0, .int .i64 0, .int .u32 0]) 56 Try.underlying23 hi0 hz0 hz1 hz2 rfl _ 0 [] rfl hG0 V2.heap.size ca cc c.chans rfl (HRC.out.below hB) wx.wc HNC.out (by unfold maxLen; omega) (by omega) hB.size ?_
        intro va v3 hown hgr hfr
        clear hfr
        have hnX : ∀ g : Nat, some g = (Value.slice (some ⟨D0.heap.size, 0, none⟩) 0 0).ownBlock → v2.heap[g]? = some (.cells #[] 48 (0, 0)) := fun g e => by rw [Option.some.inj e]; exact hE0
        have hD' := (hgr.block _ (Array.getElem?_eq_some_iff.1 hD).1 (fun e => by have := hnX _ e; rw [hD] at this; cases this)).trans hD
        have hB' := hB.grown hgr hB.size (fun k e => by rw [← Option.some.inj e]; exact hW0)
        have hEe := (hgr.block v1.heap.size (Array.getElem?_eq_some_iff.1 hEe).1 (fun e => by have e := Option.some.inj e; rw [e, hE0] at hEe; cases hEe)).trans hEe
        obtain ⟨a1, c1, rfl, hv1, hm1⟩ := hown.slice
        simp only [Nat.zero_add, List.nil_append] at hown
        clear hnX hgr hG0 hE0 hW0
        simp only [Nat.zero_add]
        clear hB hD
        have hB := hB'; have hD := hD'
        clear hB' hD' hHeld
        refine hK.out _ _ hB (fun hHeld => ?_)
        clear hK K
        (try simp only [Act.put, List.setIfInBounds_toArray, List.set_cons_zero, List.set_cons_succ, List.getElem_toArray, List.getElem_cons_zero, List.getElem_cons_succ])
        refine wpAnyH_ready (rs := [6]) (by kernel_rfl) (by simp) (AllReadyH.cons rfl (fun K hK => ?_) AllReadyH.nil)
        refine step_append_off rfl _ _ 23 rfl V2.heap.size 48 i0 (.agg #[.int .i64 0, .int .i64 0, .int .i64 0, .int .i64 0, .int .i64 0, .int .i64 0, .int .u32 0]) 7 56 Try.underlying23 hi0 hz0 hz1 hz2 rfl (by decide) _ c.chans.length (rcells [.i64, .i64, .i64, .i64, .i64, .i64, .u32] c.chans) rfl hown ⟨v1.heap.size, 0, none⟩ 1 1 [.int .i64 x0, .int .i64 x1, .int .i64 x2, .int .i64 x3, .int .i64 x4, .int .i64 x5, .int .u32 x6] rfl rfl (news_block hEe) (by simp [Value.oneCell']) (by unfold maxLen; omega) (by omega) hB.size ?_
        intro vb v4 hown2 hgr hfr
        clear hfr
        have hD' := (hgr.block _ (Array.getElem?_eq_some_iff.1 hD).1 (fun e => by obtain ⟨cs, h⟩ := hown.typed _ e.symm; rw [hD] at h; cases h)).trans hD
        have hB' := hB.grown hgr hB.size (fun k e => (hown.lt k e).1)
        have hown' : OwnsOff v4 V2.heap.size 48 7 vb (c.chans.length + 1) (rcells [.i64, .i64, .i64, .i64, .i64, .i64, .u32] (c.chans ++ [[x0, x1, x2, x3, x4, x5, x6]])) := by rw [rcells_app]; exact hown2
        clear hgr hown hEe hown2
        obtain ⟨a2, c2, rfl, hv2, hm2⟩ := hown'.slice
        clear hB hD
        have hB := hB'; have hD := hD'
        clear hB' hD' hHeld
        refine hK.out _ _ hB (fun hHeld => ?_)
        clear hK K
        (try simp only [Act.put, List.setIfInBounds_toArray, List.set_cons_zero, List.set_cons_succ, List.getElem_toArray, List.getElem_cons_zero, List.getElem_cons_succ])
        refine wpAnyH_take (i := 7) rfl (by kernel_rfl) (by kernel_rfl) (by kernel_rfl) (fun _ _ _ h => h) (Or.inl ⟨by rfl, by intro w hSw; (have hqx := (hSw.block _ (Array.getElem?_eq_some_iff.1 hXB).1).trans hXB; have q0 := cell_blk hqx (i := 0) rfl; have q1 := cell_blk hqx (i := 1) rfl; have q2 := cell_blk hqx (i := 2) rfl; have q3 := cell_blk hqx (i := 3) rfl; have q4 := cell_blk hqx (i := 4) rfl; have q5 := cell_blk hqx (i := 5) rfl; have q6 := cell_blk hqx (i := 6) rfl; obtain ⟨c0, c1, c2, c3, c4, c5⟩ := bx _ hSw); (go_simp <;> with_reducible rfl)⟩) (by assumption) ?_
        (try simp only [Act.put, List.setIfInBounds_toArray, List.set_cons_zero, List.set_cons_succ, List.getElem_toArray, List.getElem_cons_zero, List.getElem_cons_succ])
        refine wpAnyH_ready (rs := [8]) (by kernel_rfl) (by simp) (AllReadyH.cons rfl (fun K hK => ?_) AllReadyH.nil)
        have z0 := cell_blk hD (i := 1) rfl
        have z1 : v4.frozen? ⟨V2.heap.size, 1, none⟩ = false := by simp [World.frozen?, hD]
        go_simp
        clear z0 z1
        obtain ⟨vd, hvd⟩ : ∃ v, Hid (v = v4.setCell ⟨V2.heap.size, 1, none⟩ (.slice a2 (c.chans.length + 1) c2)) := ⟨_, rfl⟩
        rw [← hvd.out]
        have hD' : vd.heap[V2.heap.size]? = some (.cells (cfgCells (moreC c [x0, x1, x2, x3, x4, x5, x6]) ⟨pa, pc, a2, c2, aa, ac, ba, bc⟩) 29 (0, 0)) := by rw [hvd.out]; simp [World.setCell, Array.getElem?_modify, hD, moreC]
        have hB' : Below V2.heap.size V2 vd := by rw [hvd.out]; exact hB.setCell (p := ⟨V2.heap.size, 1, none⟩) hdV _
        have hown4 : OwnsOff vd V2.heap.size 48 7 (.slice a2 (c.chans.length + 1) c2) (c.chans.length + 1) (rcells [.i64, .i64, .i64, .i64, .i64, .i64, .u32] (c.chans ++ [[x0, x1, x2, x3, x4, x5, x6]])) := by
          rw [hvd.out]
          exact hown'.kept (Only.setCell v4 ⟨V2.heap.size, 1, none⟩ _) (fun g hg e => by obtain ⟨cs, h⟩ := hown'.typed g hg; rw [show g = V2.heap.size from e, hD] at h; cases h)
        clear hown' hvd
        clear hB hD
        have hB := hB'; have hD := hD'
        clear hB' hD' hHeld
        refine hK.out _ _ hB (fun hHeld => ?_)
        clear hK K
        (try simp only [Act.put, List.setIfInBounds_toArray, List.set_cons_zero, List.set_cons_succ, List.getElem_toArray, List.getElem_cons_zero, List.getElem_cons_succ])
        refine wpAnyH_done (by kernel_rfl) ?_ _
        clear hHeld
        generalize (Value.slice (some ⟨D0.heap.size, 0, none⟩) 0 0) = s13
        generalize (Value.slice (some ⟨v1.heap.size, 0, none⟩) 1 1) = s18
        generalize (Value.slice a1 c.chans.length c1) = s16
        revert hm2; revert hv2; revert hown4; revert hD; revert hB; revert s18; revert s16; revert s13; revert c2; revert a2; revert vd
        exact key.get
    · go_simp
      obtain ⟨v1, hv1⟩ : ∃ v, Hid (v = D0.alloc (.cells #[.int .i64 x0, .int .i64 x1, .int .i64 x2, .int .i64 x3, .int .i64 x4, .int .i64 x5, .int .u32 x6] 48)) := ⟨_, rfl⟩
      rw [← hv1.out]
      have hl : Below D0.heap.size D0 v1 := by rw [hv1.out]; exact (Below.refl _ _).alloc (Nat.le_refl _) _
      have hEe : v1.heap[D0.heap.size]? = some (.cells #[.int .i64 x0, .int .i64 x1, .int .i64 x2, .int .i64 x3, .int .i64 x4, .int .i64 x5, .int .u32 x6] 48 (0, 0)) := by rw [hv1.out]; exact heap_alloc_new _ _
      have hWe : V2.heap.size ≤ D0.heap.size := hB.size
      have hB' := hB.trans (hl.mono hB.size)
      have hD' := (hl.block _ (Array.getElem?_eq_some_iff.1 hD).1).trans hD
      clear hB hD
      have hB := hB'; have hD := hD'
      clear hB' hD' hHeld
      refine hK.out _ _ hB (fun hHeld => ?_)
      clear hK K
      (try simp only [Act.put, List.setIfInBounds_toArray, List.set_cons_zero, List.set_cons_succ, List.getElem_toArray, List.getElem_cons_zero, List.getElem_cons_succ])
      refine wpAnyH_ready (rs := [0]) (by kernel_rfl) (by simp) (AllReadyH.cons rfl (fun K hK => ?_) AllReadyH.nil)
      go_simp
      obtain ⟨v2, hv2⟩ : ∃ v, Hid (v = v1.alloc (.cells #[] 48)) := ⟨_, rfl⟩
      rw [← hv2.out]
      have hl : Below v1.heap.size v1 v2 := by rw [hv2.out]; exact (Below.refl _ _).alloc (Nat.le_refl _) _
      have hE0 : v2.heap[v1.heap.size]? = some (.cells #[] 48 (0, 0)) := by rw [hv2.out]; exact heap_alloc_new _ _
      have hW0 : V2.heap.size ≤ v1.heap.size := hB.size
      have hB' := hB.trans (hl.mono hB.size)
      have hD' := (hl.block _ (Array.getElem?_eq_some_iff.1 hD).1).trans hD
      have hEe := (hl.block _ (Array.getElem?_eq_some_iff.1 hEe).1).trans hEe
      clear hB hD
      have hB := hB'; have hD := hD'
      clear hB' hD' hHeld
      refine hK.out _ _ hB (fun hHeld => ?_)
      clear hK K
      (try simp only [Act.put, List.setIfInBounds_toArray, List.set_cons_zero, List.set_cons_succ, List.getElem_toArray, List.getElem_cons_zero, List.getElem_cons_succ])
      refine wpAnyH_ready (rs := [3]) (by kernel_rfl) (by simp) (AllReadyH.cons rfl (fun K hK => ?_) AllReadyH.nil)
      have hG0 : OwnsOff v2 V2.heap.size 48 7 (.slice (some ⟨v1.heap.size, 0, none⟩) 0 0) 0 [] := ⟨rfl, .inr ⟨_, 0, 0, #[], rfl, hW0, hE0, Nat.le_refl _, by unfold maxLen; omega, by simp, rfl⟩⟩
      refine step_append_rowN rfl _ _ 23 rfl [.i64, .i64, .i64, .i64, .i64, .i64, .u32] (by decide) V2.heap.size 48 i0 (.agg #[.int .i64 0, .int .i64 0, .int .i64 0, .int .i64 0, .int .i64 0, .int .i64 0, .int .u32 0]) 56 Try.underlying23 hi0 hz0 hz1 hz2 rfl _ 0 [] rfl hG0 V2.heap.size ca cc c.chans rfl (HRC.out.below hB) wx.wc HNC.out (by unfold maxLen; omega) (by omega) hB.size ?_
      intro va v3 hown hgr hfr
      clear hfr
      have hnX : ∀ g : Nat, some g = (Value.slice (some ⟨v1.heap.size, 0, none⟩) 0 0).ownBlock → v2.heap[g]? = some (.cells #[] 48 (0, 0)) := fun g e => by rw [Option.some.inj e]; exact hE0
      have hD' := (hgr.block _ (Array.getElem?_eq_some_iff.1 hD).1 (fun e => by have := hnX _ e; rw [hD] at this; cases this)).trans hD
      have hB' := hB.grown hgr hB.size (fun k e => by rw [← Option.some.inj e]; exact hW0)
      have hEe := (hgr.block D0.heap.size (Array.getElem?_eq_some_iff.1 hEe).1 (fun e => by have e := Option.some.inj e; rw [e, hE0] at hEe; cases hEe)).trans hEe
      obtain ⟨a1, c1, rfl, hv1, hm1⟩ := hown.slice
      simp only [Nat.zero_add, List.nil_append] at hown
      clear hnX hgr hG0 hE0 hW0
      simp only [Nat.zero_add]
      clear hB hD
      have hB := hB'; have hD := hD'
      clear hB' hD' hHeld
      refine hK.out _ _ hB (fun hHeld => ?_)
      clear hK K
      (try simp only [Act.put, List.setIfInBounds_toArray, List.set_cons_zero, List.set_cons_succ, List.getElem_toArray, List.getElem_cons_zero, List.getElem_cons_succ])
      refine wpAnyH_ready (rs := [6]) (by kernel_rfl) (by simp) (AllReadyH.cons rfl (fun K hK => ?_) AllReadyH.nil)
      refine step_append_off rfl _ _ 23 rfl V2.heap.size 48 i0 (.agg #[.int .i64 0, .int .i64 0, .int .i64 0, .int .i64 0, .int .i64 0, .int .i64 0, .int .u32 0]) 7 56 Try.underlying23 hi0 hz0 hz1 hz2 rfl (by decide) _ c.chans.length (rcells [.i64, .i64, .i64, .i64, .i64, .i64, .u32] c.chans) rfl hown ⟨D0.heap.size, 0, none⟩ 1 1 [.int .i64 x0, .int .i64 x1, .int .i64 x2, .int .i64 x3, .int .i64 x4, .int .i64 x5, .int .u32 x6] rfl rfl (news_block hEe) (by simp [Value.oneCell']) (by unfold maxLen; omega) (by omega) hB.size ?_
      intro vb v4 hown2 hgr hfr
      clear hfr
      have hD' := (hgr.block _ (Array.getElem?_eq_some_iff.1 hD).1 (fun e => by obtain ⟨cs, h⟩ := hown.typed _ e.symm; rw [hD] at h; cases h)).trans hD
      have hB' := hB.grown hgr hB.size (fun k e => (hown.lt k e).1)
      have hown' : OwnsOff v4 V2.heap.size 48 7 vb (c.chans.length + 1) (rcells [.i64, .i64, .i64, .i64, .i64, .i64, .u32] (c.chans ++ [[x0, x1, x2, x3, x4, x5, x6]])) := by rw [rcells_app]; exact hown2
      clear hgr hown hEe hown2
      obtain ⟨a2, c2, rfl, hv2, hm2⟩ := hown'.slice
      clear hB hD
      have hB := hB'; have hD := hD'
      clear hB' hD' hHeld
      refine hK.out _ _ hB (fun hHeld => ?_)
      clear hK K
      (try simp only [Act.put, List.setIfInBounds_toArray, List.set_cons_zero, List.set_cons_succ, List.getElem_toArray, List.getElem_cons_zero, List.getElem_cons_succ])
      refine wpAnyH_take (i := 7) rfl (by kernel_rfl) (by kernel_rfl) (by kernel_rfl) (fun _ _ _ h => h) (Or.inl ⟨by rfl, by intro w hSw; (have hqx := (hSw.block _ (Array.getElem?_eq_some_iff.1 hXB).1).trans hXB; have q0 := cell_blk hqx (i := 0) rfl; have q1 := cell_blk hqx (i := 1) rfl; have q2 := cell_blk hqx (i := 2) rfl; have q3 := cell_blk hqx (i := 3) rfl; have q4 := cell_blk hqx (i := 4) rfl; have q5 := cell_blk hqx (i := 5) rfl; have q6 := cell_blk hqx (i := 6) rfl; obtain ⟨c0, c1, c2, c3, c4, c5⟩ := bx _ hSw); (go_simp <;> with_reducible rfl)⟩) (by assumption) ?_
      (try simp only [Act.put, List.setIfInBounds_toArray, List.set_cons_zero, List.set_cons_succ, List.getElem_toArray, List.getElem_cons_zero, List.getElem_cons_succ])
      refine wpAnyH_ready (rs := [8]) (by kernel_rfl) (by simp) (AllReadyH.cons rfl (fun K hK => ?_) AllReadyH.nil)
      have z0 := cell_blk hD (i := 1) rfl
      have z1 : v4.frozen? ⟨V2.heap.size, 1, none⟩ = false := by simp [World.frozen?, hD]
      go_simp
      clear z0 z1
      obtain ⟨vd, hvd⟩ : ∃ v, Hid (v = v4.setCell ⟨V2.heap.size, 1, none⟩ (.slice a2 (c.chans.length + 1) c2)) := ⟨_, rfl⟩
      rw [← hvd.out]
      have hD' : vd.heap[V2.heap.size]? = some (.cells (cfgCells (moreC c [x0, x1, x2, x3, x4, x5, x6]) ⟨pa, pc, a2, c2, aa, ac, ba, bc⟩) 29 (0, 0)) := by rw [hvd.out]; simp [World.setCell, Array.getElem?_modify, hD, moreC]
      have hB' : Below V2.heap.size V2 vd := by rw [hvd.out]; exact hB.setCell (p := ⟨V2.heap.size, 1, none⟩) hdV _
      have hown4 : OwnsOff vd V2.heap.size 48 7 (.slice a2 (c.chans.length + 1) c2) (c.chans.length + 1) (rcells [.i64, .i64, .i64, .i64, .i64, .i64, .u32] (c.chans ++ [[x0, x1, x2, x3, x4, x5, x6]])) := by
        rw [hvd.out]
        exact hown'.kept (Only.setCell v4 ⟨V2.heap.size, 1, none⟩ _) (fun g hg e => by obtain ⟨cs, h⟩ := hown'.typed g hg; rw [show g = V2.heap.size from e, hD] at h; cases h)
      clear hown' hvd
      clear hB hD
      have hB := hB'; have hD := hD'
      clear hB' hD' hHeld
      refine hK.out _ _ hB (fun hHeld => ?_)
      clear hK K
      (try simp only [Act.put, List.setIfInBounds_toArray, List.set_cons_zero, List.set_cons_succ, List.getElem_toArray, List.getElem_cons_zero, List.getElem_cons_succ])
      refine wpAnyH_done (by kernel_rfl) ?_ _
      clear hHeld
      generalize (Value.slice (some ⟨v1.heap.size, 0, none⟩) 0 0) = s13
      generalize (Value.slice (some ⟨D0.heap.size, 0, none⟩) 1 1) = s18
      generalize (Value.slice a1 c.chans.length c1) = s16
      revert hm2; revert hv2; revert hown4; revert hD; revert hB; revert s18; revert s16; revert s13; revert c2; revert a2; revert vd
      exact key.get
    intro vd a2 c2 s13 s16 s18 hB hD hown hv2 hm2
    have hXc := HX2.out.later hB
    obtain ⟨A', cap', hsl, hl1, hl2, hrC, hnC, -⟩ := OwnsOff.rowN (ks := [.i64, .i64, .i64, .i64, .i64, .i64, .u32]) (l := c.chans ++ [[x0, x1, x2, x3, x4, x5, x6]]) (by simpa using hown) wd.wc
    have e1 : A' = a2 := by injection hsl with h1 _ _; exact h1.symm
    have e2 : cap' = c2 := by injection hsl with _ _ h3; exact h3.symm
    subst e1 e2
    have hXd : CfgIn vd vd.heap.size (moreC c [x0, x1, x2, x3, x4, x5, x6]) ⟨pa, pc, A', cap', aa, ac, ba, bc⟩ := ⟨hXc.rp, hrC, hXc.ra, hXc.rb, hXc.lp, ⟨hl1, hl2, hnC⟩, hXc.la, hXc.lb⟩
    have bxd := cbox_of hD
    have bxc := bx.on hB
    have HXc := Lib.hid hXc; have HXd := Lib.hid hXd
    have HBd := Lib.hid (HB2.out.trans (hB.mono HB2.out.size))
    have hmore := fun h1 h2 => spans_more (c := c) (x := [x0, x1, x2, x3, x4, x5, x6]) h1 h2
    have hsize := fun h1 h2 => size_more (c := c) (x := [x0, x1, x2, x3, x4, x5, x6]) h1 h2
    obtain ⟨d, hd⟩ : ∃ d, moreC c [x0, x1, x2, x3, x4, x5, x6] = d := ⟨_, rfl⟩
    rw [hd] at ld wd HXd bxd hmore hsize
    have hD1 : ∀ w', Below vd.heap.size vd w' → _ := fun w' hb => bxd w' hb
    obtain ⟨q0, q1, q2, q3, q4, q5⟩ := bxc.quiet
    obtain ⟨p0, p1, p2, p3, p4, p5⟩ := bxd.quiet
    have hbc := Below.refl vd.heap.size vd
    have hHA := fun qv (h : acceptsB c = qv) => Lib.hid (fun d' os => Calls.regrown_of (racc_b c ⟨pa, pc, ca, cc, aa, ac, ba, bc⟩ qv (grow (redrawn vd d') os) (HXc.out.later (below_regrown vd d' os)) wx lx h))
    have hHD := fun qv (h : acceptsB d = qv) => Lib.hid (fun d' os => Calls.regrown_of (racc_b d ⟨pa, pc, A', cap', aa, ac, ba, bc⟩ qv (grow (redrawn vd d') os) (HXd.out.later (below_regrown vd d' os)) wd ld h))
    clear hB hD hown hXc hXd hrC hnC hl1 hl2 hv2 hm2 bx hd hD1
    simp only [cfgCells] at hHA hHD
    cases ha : acceptsB c with
    | false =>
      have HA := hHA _ ha
      clear hHA hHD
      go_wp2_with (((first | with_reducible refine wpList_on hbc ?_ | with_reducible refine wp_on hbc (by kernel_rfl) (by kernel_rfl) ?_); (repeat (first | go_big_quiet_step (first | with_reducible exact HA.out _ _))); with_reducible refine wpQuiet_nil ?_; intro wc hbc))
      go_ret
      exact ⟨rfl, HBd.out.trans (hbc.mono HBd.out.size)⟩
    | true =>
      have HA := hHA _ ha
      cases hdd : acceptsB d with
      | false =>
        have HD := hHD _ hdd
        clear hHA hHD
        go_wp2_with (((first | with_reducible refine wpList_on hbc ?_ | with_reducible refine wp_on hbc (by kernel_rfl) (by kernel_rfl) ?_); (repeat (first | go_big_quiet_step (first | with_reducible exact HA.out _ _ | with_reducible exact HD.out _ _))); with_reducible refine wpQuiet_nil ?_; intro wc hbc))
        go_ret
        exact ⟨rfl, HBd.out.trans (hbc.mono HBd.out.size)⟩
      | true =>
        have HD := hHD _ hdd
        have hm := hmore ha hdd
        have hs := hsize ha hdd
        have hwL := spansL_wf c
        have hwB := spansL_wf d
        have hn22 := spansL_len c
        have hz0 : 0 ≤ sizeN c ∧ sizeN c ≤ 1488 := by rw [show sizeN c = beforeN c c.chans.length from if_pos ha]; exact beforeN_in (accd_of ha) (Nat.le_refl _)
        have hz1 : 0 ≤ sizeN d ∧ sizeN d ≤ 1488 := by rw [show sizeN d = beforeN d d.chans.length from if_pos hdd]; exact beforeN_in (accd_of hdd) (Nat.le_refl _)
        have HT1 := Lib.hid (fun W' (hb : Below vd.heap.size vd W') => told99_row c ⟨pa, pc, ca, cc, aa, ac, ba, bc⟩ W' (HXc.out.later hb) wx lx)
        have HT2 := Lib.hid (fun W' (hb : Below vd.heap.size vd W') => told99_cap d ⟨pa, pc, A', cap', aa, ac, ba, bc⟩ W' (HXd.out.later hb) wd ld)
        have HS1 := Lib.hid (fun W' (hb : Below vd.heap.size vd W') => size8_b c ⟨pa, pc, ca, cc, aa, ac, ba, bc⟩ W' (HXc.out.later hb) wx lx)
        have HS2 := Lib.hid (fun W' (hb : Below vd.heap.size vd W') => size8_b d ⟨pa, pc, A', cap', aa, ac, ba, bc⟩ W' (HXd.out.later hb) wd ld)
        simp only [cfgCells] at HT1 HT2 HS1 HS2
        obtain ⟨LA, hLA⟩ : ∃ L, spansL c = L := ⟨_, rfl⟩
        obtain ⟨LB, hLB⟩ : ∃ L, spansL d = L := ⟨_, rfl⟩
        obtain ⟨zc, hzc⟩ : ∃ z, sizeN c = z := ⟨_, rfl⟩
        obtain ⟨zd, hzd⟩ : ∃ z, sizeN d = z := ⟨_, rfl⟩
        obtain ⟨sx, hsx⟩ : ∃ z, srcN [x0, x1, x2, x3, x4, x5, x6] = z := ⟨_, rfl⟩
        obtain ⟨bn, hbn⟩ : ∃ z, beforeN c c.chans.length = z := ⟨_, rfl⟩
        rw [hLA] at hm hwL hn22 HT1
        rw [hLB] at hm hwB HT2
        rw [hzc] at hs hz0 HS1
        rw [hzd] at hs hz1 HS2
        rw [hsx] at hm hs
        rw [hbn] at hm
        have hln : LB.length = LA.length + 2 := by rw [hm]; simp
        have htk : LB.take LA.length = LA := by rw [hm]; simp
        have hat0 : LB[LA.length]? = some [bn, sx] := by rw [hm]; simp
        have hat1 : LB[LA.length + 1]? = some [bn + sx, 1] := by rw [hm]; simp
        rw [hln] at HT2
        have HWL := Lib.hid hwL; have HWB := Lib.hid hwB; have HTK := Lib.hid htk; have HA0 := Lib.hid hat0; have HA1 := Lib.hid hat1; have HLN := Lib.hid hln
        obtain ⟨n, hn⟩ : ∃ n, LA.length = n := ⟨_, rfl⟩
        rw [hn] at HT1 HT2 HTK HA0 HA1 HLN hn22
        have HN := Lib.hid hn
        clear hHA hHD hmore hsize ha hdd hm hLA hLB hzc hzd hsx hbn hln htk hat0 hat1 hwL hwB hn
        go_wp2_with (((first | with_reducible refine wpList_on hbc ?_ | with_reducible refine wp_on hbc (by kernel_rfl) (by kernel_rfl) ?_); (repeat (first | go_big_quiet_step (first | with_reducible exact HA.out _ _ | with_reducible exact HD.out _ _))); with_reducible refine wpQuiet_nil ?_; intro wc hbc))
        clear HA HD q0 q1 q2 q3 q4 q5 p0 p1 p2 p3 p4 p5
        refine wp_region_held_drew (S := fun W' => Below vd.heap.size vd W') (by kernel_rfl) (hbc.drew) (fun hHeld => ?_)
        have hB := hHeld
        refine wpAnyH_take (i := 0) rfl (by kernel_rfl) (by kernel_rfl) (by kernel_rfl) (fun _ _ _ h => h) (Or.inl ⟨by rfl, by intro w hSw; (obtain ⟨c0, c1, c2, c3, c4, c5⟩ := bxc _ hSw; obtain ⟨d0, d1, d2, d3, d4, d5⟩ := bxd _ hSw); (go_simp <;> with_reducible rfl)⟩) (by assumption) ?_
        (try simp only [Act.put, List.setIfInBounds_toArray, List.set_cons_zero, List.set_cons_succ, List.getElem_toArray, List.getElem_cons_zero, List.getElem_cons_succ])
        refine wpAnyH_take (i := 2) rfl (by kernel_rfl) (by kernel_rfl) (by kernel_rfl) (fun _ _ _ h => h) (Or.inl ⟨by rfl, by intro w hSw; (obtain ⟨c0, c1, c2, c3, c4, c5⟩ := bxc _ hSw; obtain ⟨d0, d1, d2, d3, d4, d5⟩ := bxd _ hSw); (go_simp <;> with_reducible rfl)⟩) (by assumption) ?_
        (try simp only [Act.put, List.setIfInBounds_toArray, List.set_cons_zero, List.set_cons_succ, List.getElem_toArray, List.getElem_cons_zero, List.getElem_cons_succ])
        refine wpAnyH_ready (rs := [1]) (by kernel_rfl) (by simp) (AllReadyH.cons rfl (fun K hK => ?_) AllReadyH.nil)
        go_simp
        refine (HT1.out _ hB).mono ?_
        rintro e w5 ⟨AL, capL, rfl, hrA, hl⟩
        (try go_wp2_with fail)
        have hB' := hB.trans (hl.mono hB.size)
        clear hB hl hHeld
        have hB := hB'
        clear hB'
        refine hK.out _ _ hB (fun hHeld => ?_)
        clear hK K
        (try simp only [Act.put, List.setIfInBounds_toArray, List.set_cons_zero, List.set_cons_succ, List.getElem_toArray, List.getElem_cons_zero, List.getElem_cons_succ])
        refine wpAnyH_ready (rs := [3]) (by kernel_rfl) (by simp) (AllReadyH.cons rfl (fun K hK => ?_) AllReadyH.nil)
        go_simp
        refine (HT2.out _ hB).mono ?_
        rintro e w5 ⟨AB, capB, rfl, hcb, hrB, hl⟩
        (try go_wp2_with fail)
        have hrA := hrA.later hl
        have hB' := hB.trans (hl.mono hB.size)
        clear hB hl hHeld
        have hB := hB'
        clear hB'
        refine hK.out _ _ hB (fun hHeld => ?_)
        clear hK K
        (try simp only [Act.put, List.setIfInBounds_toArray, List.set_cons_zero, List.set_cons_succ, List.getElem_toArray, List.getElem_cons_zero, List.getElem_cons_succ])
        refine wpAnyH_take (i := 4) rfl (by kernel_rfl) (by kernel_rfl) (by kernel_rfl) (fun _ _ _ h => h) (Or.inl ⟨by rfl, by intro w hSw; (obtain ⟨c0, c1, c2, c3, c4, c5⟩ := bxc _ hSw; obtain ⟨d0, d1, d2, d3, d4, d5⟩ := bxd _ hSw); (go_simp <;> with_reducible rfl)⟩) (by assumption) ?_
        (try simp only [Act.put, List.setIfInBounds_toArray, List.set_cons_zero, List.set_cons_succ, List.getElem_toArray, List.getElem_cons_zero, List.getElem_cons_succ])
        refine wpAnyH_take (i := 5) rfl (by kernel_rfl) (by kernel_rfl) (by kernel_rfl) (fun _ _ _ h => h) (Or.inl ⟨by rfl, by intro w hSw; (obtain ⟨c0, c1, c2, c3, c4, c5⟩ := bxc _ hSw; obtain ⟨d0, d1, d2, d3, d4, d5⟩ := bxd _ hSw); (go_simp <;> with_reducible rfl)⟩) (by assumption) ?_
        (try simp only [Act.put, List.setIfInBounds_toArray, List.set_cons_zero, List.set_cons_succ, List.getElem_toArray, List.getElem_cons_zero, List.getElem_cons_succ])
        refine wpAnyH_done (by kernel_rfl) ?_ _
        have hup := fun w => upto_row (P := Try.prog) (t := 32) Try.underlying32 hj0 AB (n + 2) capB n (by omega) w
        have v0 := IntWalk.i64_in ((n : Int) + 2) (by omega)
        have v1 := IntWalk.i64_in ((n : Int) + 1) (by omega)
        have hSM := sameS_yes LA AL AB capL capB _ hrA (by have h := hrB.take n; rwa [HTK.out] at h) HWL.out (by rw [HN.out]; omega)
        rw [HN.out] at hSM
        have HSM := Lib.hid hSM
        have HRB := Lib.hid hrB
        clear hHeld hrA hrB hSM
        go_wp2_with (first | (with_reducible refine wpList_uptoG (by rfl) _ _ _ rfl _ _ _ rfl rfl (hup _) ?_) | (go_at_call 19; ((with_reducible refine HSM.out.mono ?_); rintro e w9 ⟨rfl, hl9⟩)))
        clear hup
        have hV5 := hB.trans (hl9.mono hB.size)
        obtain ⟨rb, ro, r0', r1', hAB, _, er0, -, kr0⟩ := (HRB.out.later hl9).at2 HWB.out (i := n) (by have := HLN.out; omega)
        obtain ⟨rb2, ro2, r2', r3', hAB2, _, er1, -, kr1⟩ := (HRB.out.later hl9).at2 HWB.out (i := n + 1) (by have := HLN.out; omega)
        rw [hAB] at hAB2
        injection hAB2 with hAB2
        injection hAB2 with h1 h2
        subst h1 h2
        have q0 := HA0.out
        have q1 := HA1.out
        rw [er0] at q0
        rw [er1] at q1
        injection q0 with q0
        injection q0 with e0 q0
        injection q0 with e1 _
        injection q1 with q1
        injection q1 with e2 q1
        injection q1 with e3 _
        subst e1 e3
        subst hAB
        have i0 : (0 : Int) ≤ (n : Int) := by omega
        have i1 : (n : Int) < (n : Int) + 2 := by omega
        have i2 : (0 : Int) ≤ (n : Int) + 1 := by omega
        have i3 : (n : Int) + 1 < (n : Int) + 2 := by omega
        have v2 := IntWalk.i64_in (zc + r1') (by omega)
        have v3 := IntWalk.i64_in (zc + r1' + 1) (by omega)
        have hzz : (zd == zc + r1' + 1) = true := by simp [hs]
        have HZZ := Lib.hid hs
        clear hs hB hl9 er0 er1 hbc
        refine wp_region_held_drew (S := fun W' => Below w9.heap.size w9 W') (by kernel_rfl) ((Below.refl _ _).drew) (fun hHeld => ?_)
        have hB := hHeld
        refine wpAnyH_take (i := 0) rfl (by kernel_rfl) (by kernel_rfl) (by kernel_rfl) (fun _ _ _ h => h) (Or.inl ⟨by rfl, by intro w hSw; (obtain ⟨c0, c1, c2, c3, c4, c5⟩ := bxc _ (hV5.trans (hSw.mono hV5.size)); obtain ⟨d0, d1, d2, d3, d4, d5⟩ := bxd _ (hV5.trans (hSw.mono hV5.size)); obtain ⟨r0, r1⟩ := kr0 _ hSw; obtain ⟨r2, r3⟩ := kr1 _ hSw); (go_simp <;> with_reducible rfl)⟩) (by assumption) ?_
        (try simp only [Act.put, List.setIfInBounds_toArray, List.set_cons_zero, List.set_cons_succ, List.getElem_toArray, List.getElem_cons_zero, List.getElem_cons_succ])
        refine wpAnyH_take (i := 2) rfl (by kernel_rfl) (by kernel_rfl) (by kernel_rfl) (fun _ _ _ h => h) (Or.inl ⟨by rfl, by intro w hSw; (obtain ⟨c0, c1, c2, c3, c4, c5⟩ := bxc _ (hV5.trans (hSw.mono hV5.size)); obtain ⟨d0, d1, d2, d3, d4, d5⟩ := bxd _ (hV5.trans (hSw.mono hV5.size)); obtain ⟨r0, r1⟩ := kr0 _ hSw; obtain ⟨r2, r3⟩ := kr1 _ hSw); (go_simp <;> with_reducible rfl)⟩) (by assumption) ?_
        (try simp only [Act.put, List.setIfInBounds_toArray, List.set_cons_zero, List.set_cons_succ, List.getElem_toArray, List.getElem_cons_zero, List.getElem_cons_succ])
        refine wpAnyH_take (i := 4) rfl (by kernel_rfl) (by kernel_rfl) (by kernel_rfl) (fun _ _ _ h => h) (Or.inl ⟨by rfl, by intro w hSw; (obtain ⟨c0, c1, c2, c3, c4, c5⟩ := bxc _ (hV5.trans (hSw.mono hV5.size)); obtain ⟨d0, d1, d2, d3, d4, d5⟩ := bxd _ (hV5.trans (hSw.mono hV5.size)); obtain ⟨r0, r1⟩ := kr0 _ hSw; obtain ⟨r2, r3⟩ := kr1 _ hSw); (go_simp <;> with_reducible rfl)⟩) (by assumption) ?_
        (try simp only [Act.put, List.setIfInBounds_toArray, List.set_cons_zero, List.set_cons_succ, List.getElem_toArray, List.getElem_cons_zero, List.getElem_cons_succ])
        refine wpAnyH_take (i := 5) rfl (by kernel_rfl) (by kernel_rfl) (by kernel_rfl) (fun _ _ _ h => h) (Or.inl ⟨by rfl, by intro w hSw; (obtain ⟨c0, c1, c2, c3, c4, c5⟩ := bxc _ (hV5.trans (hSw.mono hV5.size)); obtain ⟨d0, d1, d2, d3, d4, d5⟩ := bxd _ (hV5.trans (hSw.mono hV5.size)); obtain ⟨r0, r1⟩ := kr0 _ hSw; obtain ⟨r2, r3⟩ := kr1 _ hSw); (go_simp <;> with_reducible rfl)⟩) (by assumption) ?_
        (try simp only [Act.put, List.setIfInBounds_toArray, List.set_cons_zero, List.set_cons_succ, List.getElem_toArray, List.getElem_cons_zero, List.getElem_cons_succ])
        refine wpAnyH_take (i := 6) rfl (by kernel_rfl) (by kernel_rfl) (by kernel_rfl) (fun _ _ _ h => h) (Or.inl ⟨by rfl, by intro w hSw; (obtain ⟨c0, c1, c2, c3, c4, c5⟩ := bxc _ (hV5.trans (hSw.mono hV5.size)); obtain ⟨d0, d1, d2, d3, d4, d5⟩ := bxd _ (hV5.trans (hSw.mono hV5.size)); obtain ⟨r0, r1⟩ := kr0 _ hSw; obtain ⟨r2, r3⟩ := kr1 _ hSw); (go_simp <;> with_reducible rfl)⟩) (by assumption) ?_
        (try simp only [Act.put, List.setIfInBounds_toArray, List.set_cons_zero, List.set_cons_succ, List.getElem_toArray, List.getElem_cons_zero, List.getElem_cons_succ])
        refine wpAnyH_take (i := 7) rfl (by kernel_rfl) (by kernel_rfl) (by kernel_rfl) (fun _ _ _ h => h) (Or.inl ⟨by rfl, by intro w hSw; (obtain ⟨c0, c1, c2, c3, c4, c5⟩ := bxc _ (hV5.trans (hSw.mono hV5.size)); obtain ⟨d0, d1, d2, d3, d4, d5⟩ := bxd _ (hV5.trans (hSw.mono hV5.size)); obtain ⟨r0, r1⟩ := kr0 _ hSw; obtain ⟨r2, r3⟩ := kr1 _ hSw); (go_simp <;> with_reducible rfl)⟩) (by assumption) ?_
        (try simp only [Act.put, List.setIfInBounds_toArray, List.set_cons_zero, List.set_cons_succ, List.getElem_toArray, List.getElem_cons_zero, List.getElem_cons_succ])
        refine wpAnyH_take (i := 8) rfl (by kernel_rfl) (by kernel_rfl) (by kernel_rfl) (fun _ _ _ h => h) (Or.inl ⟨by rfl, by intro w hSw; (obtain ⟨c0, c1, c2, c3, c4, c5⟩ := bxc _ (hV5.trans (hSw.mono hV5.size)); obtain ⟨d0, d1, d2, d3, d4, d5⟩ := bxd _ (hV5.trans (hSw.mono hV5.size)); obtain ⟨r0, r1⟩ := kr0 _ hSw; obtain ⟨r2, r3⟩ := kr1 _ hSw); (go_simp <;> with_reducible rfl)⟩) (by assumption) ?_
        (try simp only [Act.put, List.setIfInBounds_toArray, List.set_cons_zero, List.set_cons_succ, List.getElem_toArray, List.getElem_cons_zero, List.getElem_cons_succ])
        refine wpAnyH_take (i := 9) rfl (by kernel_rfl) (by kernel_rfl) (by kernel_rfl) (fun _ _ _ h => h) (Or.inl ⟨by rfl, by intro w hSw; (obtain ⟨c0, c1, c2, c3, c4, c5⟩ := bxc _ (hV5.trans (hSw.mono hV5.size)); obtain ⟨d0, d1, d2, d3, d4, d5⟩ := bxd _ (hV5.trans (hSw.mono hV5.size)); obtain ⟨r0, r1⟩ := kr0 _ hSw; obtain ⟨r2, r3⟩ := kr1 _ hSw); (go_simp <;> with_reducible rfl)⟩) (by assumption) ?_
        (try simp only [Act.put, List.setIfInBounds_toArray, List.set_cons_zero, List.set_cons_succ, List.getElem_toArray, List.getElem_cons_zero, List.getElem_cons_succ])
        refine wpAnyH_ready (rs := [1]) (by kernel_rfl) (by simp) (AllReadyH.cons rfl (fun K hK => ?_) AllReadyH.nil)
        go_simp
        refine (HS2.out _ (hV5.trans (hB.mono hV5.size))).mono ?_
        rintro e w5 ⟨rfl, hl⟩
        (try go_wp2_with fail)
        have hB' := hB.trans (hl.mono hB.size)
        clear hB hl hHeld
        have hB := hB'
        clear hB'
        refine hK.out _ _ hB (fun hHeld => ?_)
        clear hK K
        (try simp only [Act.put, List.setIfInBounds_toArray, List.set_cons_zero, List.set_cons_succ, List.getElem_toArray, List.getElem_cons_zero, List.getElem_cons_succ])
        refine wpAnyH_ready (rs := [3]) (by kernel_rfl) (by simp) (AllReadyH.cons rfl (fun K hK => ?_) AllReadyH.nil)
        go_simp
        refine (HS1.out _ (hV5.trans (hB.mono hV5.size))).mono ?_
        rintro e w5 ⟨rfl, hl⟩
        (try go_wp2_with fail)
        have hB' := hB.trans (hl.mono hB.size)
        clear hB hl hHeld
        have hB := hB'
        clear hB'
        refine hK.out _ _ hB (fun hHeld => ?_)
        clear hK K
        (try simp only [Act.put, List.setIfInBounds_toArray, List.set_cons_zero, List.set_cons_succ, List.getElem_toArray, List.getElem_cons_zero, List.getElem_cons_succ])
        refine wpAnyH_take (i := 10) rfl (by kernel_rfl) (by kernel_rfl) (by kernel_rfl) (fun _ _ _ h => h) (Or.inl ⟨by rfl, by intro w hSw; (obtain ⟨c0, c1, c2, c3, c4, c5⟩ := bxc _ (hV5.trans (hSw.mono hV5.size)); obtain ⟨d0, d1, d2, d3, d4, d5⟩ := bxd _ (hV5.trans (hSw.mono hV5.size)); obtain ⟨r0, r1⟩ := kr0 _ hSw; obtain ⟨r2, r3⟩ := kr1 _ hSw); (go_simp <;> with_reducible rfl)⟩) (by assumption) ?_
        (try simp only [Act.put, List.setIfInBounds_toArray, List.set_cons_zero, List.set_cons_succ, List.getElem_toArray, List.getElem_cons_zero, List.getElem_cons_succ])
        refine wpAnyH_take (i := 11) rfl (by kernel_rfl) (by kernel_rfl) (by kernel_rfl) (fun _ _ _ h => h) (Or.inl ⟨by rfl, by intro w hSw; (obtain ⟨c0, c1, c2, c3, c4, c5⟩ := bxc _ (hV5.trans (hSw.mono hV5.size)); obtain ⟨d0, d1, d2, d3, d4, d5⟩ := bxd _ (hV5.trans (hSw.mono hV5.size)); obtain ⟨r0, r1⟩ := kr0 _ hSw; obtain ⟨r2, r3⟩ := kr1 _ hSw); (go_simp <;> with_reducible rfl)⟩) (by assumption) ?_
        (try simp only [Act.put, List.setIfInBounds_toArray, List.set_cons_zero, List.set_cons_succ, List.getElem_toArray, List.getElem_cons_zero, List.getElem_cons_succ])
        refine wpAnyH_take (i := 12) rfl (by kernel_rfl) (by kernel_rfl) (by kernel_rfl) (fun _ _ _ h => h) (Or.inl ⟨by rfl, by intro w hSw; (obtain ⟨c0, c1, c2, c3, c4, c5⟩ := bxc _ (hV5.trans (hSw.mono hV5.size)); obtain ⟨d0, d1, d2, d3, d4, d5⟩ := bxd _ (hV5.trans (hSw.mono hV5.size)); obtain ⟨r0, r1⟩ := kr0 _ hSw; obtain ⟨r2, r3⟩ := kr1 _ hSw); (go_simp <;> with_reducible rfl)⟩) (by assumption) ?_
        (try simp only [Act.put, List.setIfInBounds_toArray, List.set_cons_zero, List.set_cons_succ, List.getElem_toArray, List.getElem_cons_zero, List.getElem_cons_succ])
        refine wpAnyH_take (i := 13) rfl (by kernel_rfl) (by kernel_rfl) (by kernel_rfl) (fun _ _ _ h => h) (Or.inl ⟨by rfl, by intro w hSw; (obtain ⟨c0, c1, c2, c3, c4, c5⟩ := bxc _ (hV5.trans (hSw.mono hV5.size)); obtain ⟨d0, d1, d2, d3, d4, d5⟩ := bxd _ (hV5.trans (hSw.mono hV5.size)); obtain ⟨r0, r1⟩ := kr0 _ hSw; obtain ⟨r2, r3⟩ := kr1 _ hSw); (go_simp <;> with_reducible rfl)⟩) (by assumption) ?_
        (try simp only [Act.put, List.setIfInBounds_toArray, List.set_cons_zero, List.set_cons_succ, List.getElem_toArray, List.getElem_cons_zero, List.getElem_cons_succ])
        refine wpAnyH_take (i := 14) rfl (by kernel_rfl) (by kernel_rfl) (by kernel_rfl) (fun _ _ _ h => h) (Or.inl ⟨by rfl, by intro w hSw; (obtain ⟨c0, c1, c2, c3, c4, c5⟩ := bxc _ (hV5.trans (hSw.mono hV5.size)); obtain ⟨d0, d1, d2, d3, d4, d5⟩ := bxd _ (hV5.trans (hSw.mono hV5.size)); obtain ⟨r0, r1⟩ := kr0 _ hSw; obtain ⟨r2, r3⟩ := kr1 _ hSw); (go_simp <;> with_reducible rfl)⟩) (by assumption) ?_
        (try simp only [Act.put, List.setIfInBounds_toArray, List.set_cons_zero, List.set_cons_succ, List.getElem_toArray, List.getElem_cons_zero, List.getElem_cons_succ])
        refine wpAnyH_take (i := 15) rfl (by kernel_rfl) (by kernel_rfl) (by kernel_rfl) (fun _ _ _ h => h) (Or.inl ⟨by rfl, by intro w hSw; (obtain ⟨c0, c1, c2, c3, c4, c5⟩ := bxc _ (hV5.trans (hSw.mono hV5.size)); obtain ⟨d0, d1, d2, d3, d4, d5⟩ := bxd _ (hV5.trans (hSw.mono hV5.size)); obtain ⟨r0, r1⟩ := kr0 _ hSw; obtain ⟨r2, r3⟩ := kr1 _ hSw); (go_simp <;> with_reducible rfl)⟩) (by assumption) ?_
        (try simp only [Act.put, List.setIfInBounds_toArray, List.set_cons_zero, List.set_cons_succ, List.getElem_toArray, List.getElem_cons_zero, List.getElem_cons_succ])
        refine wpAnyH_take (i := 16) rfl (by kernel_rfl) (by kernel_rfl) (by kernel_rfl) (fun _ _ _ h => h) (Or.inl ⟨by rfl, by intro w hSw; (obtain ⟨c0, c1, c2, c3, c4, c5⟩ := bxc _ (hV5.trans (hSw.mono hV5.size)); obtain ⟨d0, d1, d2, d3, d4, d5⟩ := bxd _ (hV5.trans (hSw.mono hV5.size)); obtain ⟨r0, r1⟩ := kr0 _ hSw; obtain ⟨r2, r3⟩ := kr1 _ hSw); (go_simp <;> with_reducible rfl)⟩) (by assumption) ?_
        (try simp only [Act.put, List.setIfInBounds_toArray, List.set_cons_zero, List.set_cons_succ, List.getElem_toArray, List.getElem_cons_zero, List.getElem_cons_succ])
        refine wpAnyH_take (i := 17) rfl (by kernel_rfl) (by kernel_rfl) (by kernel_rfl) (fun _ _ _ h => h) (Or.inl ⟨by rfl, by intro w hSw; (obtain ⟨c0, c1, c2, c3, c4, c5⟩ := bxc _ (hV5.trans (hSw.mono hV5.size)); obtain ⟨d0, d1, d2, d3, d4, d5⟩ := bxd _ (hV5.trans (hSw.mono hV5.size)); obtain ⟨r0, r1⟩ := kr0 _ hSw; obtain ⟨r2, r3⟩ := kr1 _ hSw); (go_simp <;> with_reducible rfl)⟩) (by assumption) ?_
        (try simp only [Act.put, List.setIfInBounds_toArray, List.set_cons_zero, List.set_cons_succ, List.getElem_toArray, List.getElem_cons_zero, List.getElem_cons_succ])
        refine wpAnyH_take (i := 18) rfl (by kernel_rfl) (by kernel_rfl) (by kernel_rfl) (fun _ _ _ h => h) (Or.inl ⟨by rfl, by intro w hSw; (obtain ⟨c0, c1, c2, c3, c4, c5⟩ := bxc _ (hV5.trans (hSw.mono hV5.size)); obtain ⟨d0, d1, d2, d3, d4, d5⟩ := bxd _ (hV5.trans (hSw.mono hV5.size)); obtain ⟨r0, r1⟩ := kr0 _ hSw; obtain ⟨r2, r3⟩ := kr1 _ hSw); (go_simp <;> with_reducible rfl)⟩) (by assumption) ?_
        (try simp only [Act.put, List.setIfInBounds_toArray, List.set_cons_zero, List.set_cons_succ, List.getElem_toArray, List.getElem_cons_zero, List.getElem_cons_succ])
        refine wpAnyH_take (i := 19) rfl (by kernel_rfl) (by kernel_rfl) (by kernel_rfl) (fun _ _ _ h => h) (Or.inl ⟨by rfl, by intro w hSw; (obtain ⟨c0, c1, c2, c3, c4, c5⟩ := bxc _ (hV5.trans (hSw.mono hV5.size)); obtain ⟨d0, d1, d2, d3, d4, d5⟩ := bxd _ (hV5.trans (hSw.mono hV5.size)); obtain ⟨r0, r1⟩ := kr0 _ hSw; obtain ⟨r2, r3⟩ := kr1 _ hSw); (go_simp <;> with_reducible rfl)⟩) (by assumption) ?_
        (try simp only [Act.put, List.setIfInBounds_toArray, List.set_cons_zero, List.set_cons_succ, List.getElem_toArray, List.getElem_cons_zero, List.getElem_cons_succ])
        refine wpAnyH_take (i := 20) rfl (by kernel_rfl) (by kernel_rfl) (by kernel_rfl) (fun _ _ _ h => h) (Or.inl ⟨by rfl, by intro w hSw; (obtain ⟨c0, c1, c2, c3, c4, c5⟩ := bxc _ (hV5.trans (hSw.mono hV5.size)); obtain ⟨d0, d1, d2, d3, d4, d5⟩ := bxd _ (hV5.trans (hSw.mono hV5.size)); obtain ⟨r0, r1⟩ := kr0 _ hSw; obtain ⟨r2, r3⟩ := kr1 _ hSw); (go_simp <;> with_reducible rfl)⟩) (by assumption) ?_
        (try simp only [Act.put, List.setIfInBounds_toArray, List.set_cons_zero, List.set_cons_succ, List.getElem_toArray, List.getElem_cons_zero, List.getElem_cons_succ])
        refine wpAnyH_take (i := 21) rfl (by kernel_rfl) (by kernel_rfl) (by kernel_rfl) (fun _ _ _ h => h) (Or.inl ⟨by rfl, by intro w hSw; (obtain ⟨c0, c1, c2, c3, c4, c5⟩ := bxc _ (hV5.trans (hSw.mono hV5.size)); obtain ⟨d0, d1, d2, d3, d4, d5⟩ := bxd _ (hV5.trans (hSw.mono hV5.size)); obtain ⟨r0, r1⟩ := kr0 _ hSw; obtain ⟨r2, r3⟩ := kr1 _ hSw); (go_simp <;> with_reducible rfl)⟩) (by assumption) ?_
        (try simp only [Act.put, List.setIfInBounds_toArray, List.set_cons_zero, List.set_cons_succ, List.getElem_toArray, List.getElem_cons_zero, List.getElem_cons_succ])
        refine wpAnyH_take (i := 22) rfl (by kernel_rfl) (by kernel_rfl) (by kernel_rfl) (fun _ _ _ h => h) (Or.inl ⟨by rfl, by intro w hSw; (obtain ⟨c0, c1, c2, c3, c4, c5⟩ := bxc _ (hV5.trans (hSw.mono hV5.size)); obtain ⟨d0, d1, d2, d3, d4, d5⟩ := bxd _ (hV5.trans (hSw.mono hV5.size)); obtain ⟨r0, r1⟩ := kr0 _ hSw; obtain ⟨r2, r3⟩ := kr1 _ hSw); (go_simp <;> with_reducible rfl)⟩) (by assumption) ?_
        (try simp only [Act.put, List.setIfInBounds_toArray, List.set_cons_zero, List.set_cons_succ, List.getElem_toArray, List.getElem_cons_zero, List.getElem_cons_succ])
        refine wpAnyH_take (i := 23) rfl (by kernel_rfl) (by kernel_rfl) (by kernel_rfl) (fun _ _ _ h => h) (Or.inl ⟨by rfl, by intro w hSw; (obtain ⟨c0, c1, c2, c3, c4, c5⟩ := bxc _ (hV5.trans (hSw.mono hV5.size)); obtain ⟨d0, d1, d2, d3, d4, d5⟩ := bxd _ (hV5.trans (hSw.mono hV5.size)); obtain ⟨r0, r1⟩ := kr0 _ hSw; obtain ⟨r2, r3⟩ := kr1 _ hSw); (go_simp <;> with_reducible rfl)⟩) (by assumption) ?_
        (try simp only [Act.put, List.setIfInBounds_toArray, List.set_cons_zero, List.set_cons_succ, List.getElem_toArray, List.getElem_cons_zero, List.getElem_cons_succ])
        refine wpAnyH_done (by kernel_rfl) ?_ _
        have HF := Lib.hid (HBd.out.trans ((hV5.trans (hB.mono hV5.size)).mono HBd.out.size))
        clear hHeld
        go_wp2
        go_ret
        exact ⟨rfl, HF.out⟩
  · have HG := Lib.hid (great_is c ⟨pa, pc, ca, cc, aa, ac, ba, bc⟩ true V (by rw [Bool.not_eq_true] at hg; rw [hg]; rfl))
    simp only [cfgCells] at HG
    clear hg
    go_wp2_with fail
    refine HG.out.mono ?_
    rintro e w2 ⟨rfl, hb2⟩
    have HF := Lib.hid (HBV.out.trans (hb2.mono HBV.out.size))
    clear hb2
    go_wp2
    go_ret
    exact ⟨rfl, HF.out⟩
end Go.Proofs.Ytjnmgofkdimdaaa
