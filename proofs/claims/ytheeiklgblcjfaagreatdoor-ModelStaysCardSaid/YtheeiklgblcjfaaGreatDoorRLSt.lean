/- Texts of the ring, joined, what is used of them. No condition but those in the statements. -/
import Derived.BigQuiet
import Derived.BigRegion
import Derived.Deep.MidRow
import Derived.Deep.RegionHeld3
import Derived.Deep.Upon
import Derived.IntWalk
import Derived.Test.YtheeiklgblcjfaaGreatDoorRgr
import Derived.Test.YtheeiklgblcjfaaGreatDoorRgs
import Derived.Test.YtheeiklgblcjfaaGreatDoorRgx
namespace Go.Proofs.YtheeiklgblcjfaaGreatDoor
open Go.RowKit Go.Sort
set_option linter.unusedVariables false
set_option linter.unusedSimpArgs false
set_option linter.unusedVariables false
set_option linter.unusedSimpArgs false
set_option maxRecDepth 100000
theorem infoSt9:(Tryz.prog.info? 59).map (fun i => (i.zero,i.size,i.bytes)) = some (some (.agg #[.int .i64 0,.bool false,.slice none 0 0,.slice none 0 0]),4,64):=by kernel_rfl
theorem st_len9 {w:World} {own:Nat → Tg8} {n0:Nat} {c:Cfg} {M:Md8} {A:Mx8} (h:MAt w own n0 c M A) (ht:M.t ≤ 100000) (p:Nat) (hp:p < c.parts.length):(st8 M (p:Int)).made.length ≤ 1000000 ∧ (st8 M (p:Int)).valid.length ≤ 1000000:=by
  obtain ⟨s,hs,est,hms⟩:=mat_at h hp
  have hsz:=h.sz s.s (List.mem_of_getElem? hms)
  rw [est]
  omega
theorem cell_same9 {w w':World} {b:Nat} (he:w'.heap[b]? = w.heap[b]?) (j:Nat):w'.cell? ⟨b,j,none⟩ = w.cell? ⟨b,j,none⟩:=by simp [World.cell?,he]
theorem cat_same {w w':World} {b o:Nat} {v:CV} (h:CAt w b o v) (he:w'.heap[b]? = w.heap[b]?):CAt w' b o v:=fun j x hx => (cell_same9 he (o + j)).trans (h j x hx)
set_option maxHeartbeats 25600000 in
theorem modelStays_b (c:Cfg) (x:CfgAt) (l:List AV) (Al:Option Addr) (lk:Nat) (y:CV) (w:World) (hT:TabsAt w) (hx:CfgIn w w.heap.size c x) (wx:CfgWf c) (hr:ARow w w.heap.size Al l) (hn:Al = none → l = []) (hz:l.length * 200 ≤ 140737488351232) (hyw:CWf y) (hyr:CRows w w.heap.size y):Calls Tryz.prog 4 #[.agg (cfgCells c x),.slice Al l.length lk,.agg (cCells y).toArray] w fun e w' => e = .returned (.bool true) ∧ Below w.heap.size w w':=by
  obtain ⟨iA,hiA,hzA,hsA,hbA⟩:=info_parts infoA21
  obtain ⟨W1,HW1,hB1,hWs1,bx⟩:=one_cbox w c x 29
  obtain ⟨W,HW,hB2,hWs2,hX0⟩:=box17 W1 y
  obtain ⟨yb,hyb⟩:∃ n,n = W1.heap.size:=⟨_,rfl⟩
  rw [← hyb] at hX0
  have HYB:=Lib.hid hyb
  have hB0:Below w.heap.size w W:=hB1.trans (hB2.mono hB1.size)
  have HBX:=Lib.hid (fun (V:World) (hV:Below W.heap.size W V) => bx V (hB2.trans (hV.mono hB2.size)))
  have HY:=Lib.hid (fun (V:World) (hV:Below W.heap.size W V) => hX0.later hV hX0.lt)
  have HYBL:=Lib.hid hX0.lt
  have HWK:=Lib.hid (wakes18_b W (hT.later hB0))
  have HGR:=Lib.hid (fun (V:World) (hV:Below w.heap.size w V) (A:Option Addr) (k:Nat) (hrow:ARow V V.heap.size A (l ++ [⟨0,y⟩])) => great18_b c x (l ++ [⟨0,y⟩]) A k V (hx.later hV) wx hrow)
  have HNW:=Lib.hid (fun (V:World) (hV:Below w.heap.size w V) (lx:CfgFew c) (hac:acceptsB c = true) => new8_b c x V (hx.later hV) wx lx hac)
  have HCR:=Lib.hid (fun (V:World) (hV:Below w.heap.size w V) (i:Nat) (a:AV) (ha:(l ++ [⟨0,y⟩])[i]? = some a) => show CRows V V.heap.size a.x ∧ CWf a.x from by
    by_cases hi:i < l.length
    · rw [List.getElem?_append_left hi] at ha
      obtain ⟨b,o,a',-,-,ha',hwf,hc⟩:=hr.at_ hi
      rw [ha] at ha';cases ha'
      exact ⟨(hc V hV).2.more hV.size,hwf⟩
    · have hil:i = l.length:=by have:=(List.getElem?_eq_some_iff.1 ha).1;simp at this;omega
      subst hil
      simp at ha;subst ha
      exact ⟨(hyr.below hV).more hV.size,hyw⟩)
  have HR:=Lib.hid hr;have HT:=Lib.hid hT;have HWX:=Lib.hid wx;have HNIL:=Lib.hid hn;have HZL:=Lib.hid hz
  have HX:=Lib.hid hx;have HYW:=Lib.hid hyw;have HYR:=Lib.hid hyr
  have HB0:=Lib.hid hB0
  obtain ⟨c0,c1,c2,c3,c4,c5⟩:=HBX.out W (Below.refl _ _)
  obtain ⟨pa,pc,ca,cc,aa,ac,ba,bc⟩:=x
  simp only [cfgCells,List.length_append,List.length_cons,List.length_nil,Nat.zero_add] at HW1 HGR HNW ⊢
  clear hT hx wx hr hn hz hyw hyr hB0 hWs1 hWs2 bx c0 c1 c2 c3 c4 c5 hX0 hyb hB1 hB2
  go_enter Tryz.func4,Tryz.ntmps4
  go_wp2_with (first | (rw [← HW1.out]) | (rw [← HW.out];(try simp only [← HYB.out])))
  refine HWK.out.mono ?_
  rintro e1 w1 ⟨rfl,hb1⟩
  have HB1:=Lib.hid (HB0.out.trans (hb1.mono HB0.out.size))
  have HBW1:=Lib.hid hb1
  have HY1:=Lib.hid (fun (V:World) (hV:Below w1.heap.size w1 V) => HY.out V (HBW1.out.trans (hV.mono HBW1.out.size)))
  have HRW:=Lib.hid (fun (V:World) (hV:Below w1.heap.size w1 V) => HR.out.later (HB1.out.trans (hV.mono HB1.out.size)))
  clear HWK hb1
  go_wp2_with fail
  apply cut9
  rotate_left
  · intro key
    refine wp_region_held_drew (S:=(fun W' => Below w1.heap.size w1 W')) (by kernel_rfl) (by exact (Below.refl _ _).drew) (fun hHeld => ?_)
    obtain ⟨D0,HD0⟩:∃ u,Hid (u = w1.drew):=⟨_,rfl⟩
    rw [← HD0.out] at hHeld ⊢
    have hB:=hHeld
    refine wpAnyH_take (i:=0) rfl (by kernel_rfl) (by kernel_rfl) (by kernel_rfl) (fun _ _ _ h => h) (Or.inl ⟨by rfl,by intro w hSw;obtain ⟨c0,c1,c2,c3,c4,c5⟩:=HBX.out _ (HBW1.out.trans (hSw.mono HBW1.out.size));(go_simp <;> with_reducible rfl)⟩) (by assumption) ?_
    (try simp only [Act.put,List.setIfInBounds_toArray,List.set_cons_zero,List.set_cons_succ,List.getElem_toArray,List.getElem_cons_zero,List.getElem_cons_succ])
    refine wpAnyH_take (i:=2) rfl (by kernel_rfl) (by kernel_rfl) (by kernel_rfl) (fun _ _ _ h => h) (Or.inl ⟨by rfl,by intro w hSw;(go_simp <;> with_reducible rfl)⟩) (by assumption) ?_
    (try simp only [Act.put,List.setIfInBounds_toArray,List.set_cons_zero,List.set_cons_succ,List.getElem_toArray,List.getElem_cons_zero,List.getElem_cons_succ])
    refine wpAnyH_take (i:=4) rfl (by kernel_rfl) (by kernel_rfl) (by kernel_rfl) (fun _ _ _ h => h) (held_loadC (by rfl) _ rfl yb 0 y rfl (fun w hSw => HY1.out w hSw)) (by assumption) ?_
    (try simp only [Act.put,List.setIfInBounds_toArray,List.set_cons_zero,List.set_cons_succ,List.getElem_toArray,List.getElem_cons_zero,List.getElem_cons_succ])
    refine wpAnyH_take (i:=5) rfl (by kernel_rfl) (by kernel_rfl) (by kernel_rfl) (fun _ _ _ h => h) (held_build rfl 46 _ rfl [(1,.agg (cCells y).toArray)] _ (built_act y) (by kernel_rfl)) (by assumption) ?_
    (try simp only [Act.put,List.setIfInBounds_toArray,List.set_cons_zero,List.set_cons_succ,List.getElem_toArray,List.getElem_cons_zero,List.getElem_cons_succ])
    refine wpAnyH_ready (rs:=[1,6]) (by kernel_rfl) (by simp) (AllReadyH.cons rfl (fun K hK => ?_) (AllReadyH.cons rfl (fun K hK => ?_) AllReadyH.nil))
    · go_simp
      obtain ⟨v1,hv1⟩:∃ v,Hid (v = D0.alloc (.cells #[] 46)):=⟨_,rfl⟩
      rw [← hv1.out]
      have hl:Below D0.heap.size D0 v1:=by rw [hv1.out];exact (Below.refl _ _).alloc (Nat.le_refl _) _
      have hE0:v1.heap[D0.heap.size]? = some (.cells #[] 46 (0,0)):=by rw [hv1.out];exact heap_alloc_new _ _
      obtain ⟨eb,heb⟩:∃ n,n = D0.heap.size:=⟨_,rfl⟩
      rw [← heb] at hE0 ⊢
      have hEl:w1.heap.size ≤ eb:=by have:=hB.size;omega
      have HEB:=Lib.hid heb
      clear heb

      have hG0:OwnsOff v1 w1.heap.size 46 21 (.slice (some ⟨eb,0,none⟩) 0 0) 0 []:=⟨rfl,.inr ⟨_,0,0,#[],rfl,hEl,hE0,Nat.le_refl _,by unfold maxLen;omega,by simp,rfl⟩⟩
      have hB':=hB.trans (hl.mono hB.size)
      clear hl hE0 hv1
      clear hB
      have hB:=hB'
      clear hB'
      refine hK.out _ _ hB (fun hHeld => ?_)
      clear hK K
      (try simp only [Act.put,List.setIfInBounds_toArray,List.set_cons_zero,List.set_cons_succ,List.getElem_toArray,List.getElem_cons_zero,List.getElem_cons_succ])
      refine wpAnyH_ready (rs:=[3,6]) (by kernel_rfl) (by simp) (AllReadyH.cons rfl (fun K hK => ?_) (AllReadyH.cons rfl (fun K hK => ?_) AllReadyH.nil))
      · refine step_append_acts rfl _ _ rfl w1.heap.size _ 0 [] rfl hG0 Al lk l rfl (HRW.out v1 hB) HNIL.out (by have:=HZL.out;unfold maxLen;omega) (by have:=HZL.out;omega) hB.size ?_
        intro va v2 hown hgr hfr
        have hB':=hB.grown hgr hB.size (fun k e => by rw [← Option.some.inj e];exact hEl)
        obtain ⟨a1,c1,rfl,-,-⟩:=hown.slice
        simp only [Nat.zero_add,List.nil_append] at hown

        clear hG0 hgr hfr hEl
        simp only [Nat.zero_add]
        clear hB
        have hB:=hB'
        clear hB'
        refine hK.out _ _ hB (fun hHeld => ?_)
        clear hK K
        (try simp only [Act.put,List.setIfInBounds_toArray,List.set_cons_zero,List.set_cons_succ,List.getElem_toArray,List.getElem_cons_zero,List.getElem_cons_succ])
        refine wpAnyH_ready (rs:=[6]) (by kernel_rfl) (by simp) (AllReadyH.cons rfl (fun K hK => ?_) AllReadyH.nil)
        refine step_slice_act rfl _ rfl ⟨0,y⟩ (by kernel_rfl) ?_
        obtain ⟨v3,hv3⟩:∃ v,Hid (v = v2.alloc (.cells (aC ⟨0,y⟩).toArray 46)):=⟨_,rfl⟩
        rw [← hv3.out]
        have hl:Below v2.heap.size v2 v3:=by rw [hv3.out];exact (Below.refl _ _).alloc (Nat.le_refl _) _
        have hEb:v3.heap[v2.heap.size]? = some (.cells (aC ⟨0,y⟩).toArray 46 (0,0)):=by rw [hv3.out];exact heap_alloc_new _ _
        obtain ⟨fb,hfb⟩:∃ n,n = v2.heap.size:=⟨_,rfl⟩
        rw [← hfb] at hEb ⊢
        have HFB:=Lib.hid hfb
        clear hfb
        replace hown:=hown.keptB hl
        have hB':=hB.trans (hl.mono hB.size)
        clear hl hv3
        clear hB
        have hB:=hB'
        clear hB'
        refine hK.out _ _ hB (fun hHeld => ?_)
        clear hK K
        (try simp only [Act.put,List.setIfInBounds_toArray,List.set_cons_zero,List.set_cons_succ,List.getElem_toArray,List.getElem_cons_zero,List.getElem_cons_succ])
        refine wpAnyH_ready (rs:=[7]) (by kernel_rfl) (by simp) (AllReadyH.cons rfl (fun K hK => ?_) AllReadyH.nil)
        refine step_append_off rfl _ _ 30 rfl w1.heap.size 46 iA (.agg #[.int .i64 0,.int .i64 0,.int .i64 0,.int .i64 0,.int .u64 0,.slice none 0 0,.int .i64 0,.slice none 0 0,.bool false,.int .i64 0,.bool false,.int .i64 0,.int .i64 0,.int .i64 0,.int .i64 0,.int .i64 0,.int .i64 0,.int .i64 0,.int .i64 0,.int .i64 0,.int .i64 0]) 21 200 Tryz.underlying30 hiA hzA hsA hbA rfl (by decide) _ l.length (asC l) rfl hown ⟨fb,0,none⟩ 1 1 (aC ⟨0,y⟩) rfl (by rw [aC_len]) (news_block hEb) (aC_ones _) (by have:=HZL.out;unfold maxLen;omega) (by have:=HZL.out;omega) hB.size ?_
        intro vb v4 hown2 hgr hfr
        have hB':=hB.grown hgr hB.size (fun k e => (hown.lt k e).1)
        have hbw:=HB1.out.trans (hB'.mono HB1.out.size)
        obtain ⟨a2,c2,rfl,hrow⟩:=arow_own (l:=l ++ [⟨0,y⟩]) (by rw [asC_app,asC_one,List.length_append];exact hown2) (HCR.out _ hbw)
        simp only [List.length_append,List.length_cons,List.length_nil,Nat.zero_add]
        have HRO:=Lib.hid hrow
        clear hown hown2 hgr hfr hEb hrow hbw
        clear hB
        have hB:=hB'
        clear hB'
        refine hK.out _ _ hB (fun hHeld => ?_)
        clear hK K
        (try simp only [Act.put,List.setIfInBounds_toArray,List.set_cons_zero,List.set_cons_succ,List.getElem_toArray,List.getElem_cons_zero,List.getElem_cons_succ])
        refine wpAnyH_ready (rs:=[8]) (by kernel_rfl) (by simp) (AllReadyH.cons rfl (fun K hK => ?_) AllReadyH.nil)
        go_simp
        refine (HGR.out _ (HB1.out.trans (hB.mono HB1.out.size)) _ _ HRO.out).mono ?_
        rintro e5 w5 ⟨⟨g,rfl,hg⟩,hb5⟩
        (try go_wp2_with fail)
        have hB':=hB.trans (hb5.mono hB.size)
        clear hb5 HRO
        clear hB
        have hB:=hB'
        clear hB'
        refine hK.out _ _ hB (fun hHeld => ?_)
        clear hK K
        (try simp only [Act.put,List.setIfInBounds_toArray,List.set_cons_zero,List.set_cons_succ,List.getElem_toArray,List.getElem_cons_zero,List.getElem_cons_succ])
        refine wpAnyH_done (by kernel_rfl) ?_ _
        clear hHeld
        have HB5:=Lib.hid hB
        clear hB
        cases g with
        | true =>
          clear key hg
          go_wp2_with fail
          go_ret
          exact ⟨rfl,HB1.out.trans (HB5.out.mono HB1.out.size)⟩
        | false =>
          have HGF:=Lib.hid (hg rfl)
          clear hg HEB HFB
          revert HGF HB5
          revert w5
          revert c2;revert a2;revert c1;revert a1;revert fb;revert eb
          exact key.get
      · refine step_slice_act rfl _ rfl ⟨0,y⟩ (by kernel_rfl) ?_
        obtain ⟨v2,hv2⟩:∃ v,Hid (v = v1.alloc (.cells (aC ⟨0,y⟩).toArray 46)):=⟨_,rfl⟩
        rw [← hv2.out]
        have hl:Below v1.heap.size v1 v2:=by rw [hv2.out];exact (Below.refl _ _).alloc (Nat.le_refl _) _
        have hEb:v2.heap[v1.heap.size]? = some (.cells (aC ⟨0,y⟩).toArray 46 (0,0)):=by rw [hv2.out];exact heap_alloc_new _ _
        obtain ⟨fb,hfb⟩:∃ n,n = v1.heap.size:=⟨_,rfl⟩
        rw [← hfb] at hEb ⊢
        have HFB:=Lib.hid hfb
        clear hfb
        have hne:eb ≠ fb:=by have:=hG0.lt eb rfl;have:=HFB.out;omega
        replace hG0:=hG0.keptB hl
        have hB':=hB.trans (hl.mono hB.size)
        clear hl hv2
        clear hB
        have hB:=hB'
        clear hB'
        refine hK.out _ _ hB (fun hHeld => ?_)
        clear hK K
        (try simp only [Act.put,List.setIfInBounds_toArray,List.set_cons_zero,List.set_cons_succ,List.getElem_toArray,List.getElem_cons_zero,List.getElem_cons_succ])
        refine wpAnyH_ready (rs:=[3]) (by kernel_rfl) (by simp) (AllReadyH.cons rfl (fun K hK => ?_) AllReadyH.nil)
        refine step_append_acts rfl _ _ rfl w1.heap.size _ 0 [] rfl hG0 Al lk l rfl (HRW.out v2 hB) HNIL.out (by have:=HZL.out;unfold maxLen;omega) (by have:=HZL.out;omega) hB.size ?_
        intro va v3 hown hgr hfr
        have hB':=hB.grown hgr hB.size (fun k e => by rw [← Option.some.inj e];exact hEl)
        obtain ⟨a1,c1,rfl,-,-⟩:=hown.slice
        simp only [Nat.zero_add,List.nil_append] at hown
        replace hEb:=(hgr.block fb (Array.getElem?_eq_some_iff.1 hEb).1 (fun e => hne (Option.some.inj e).symm)).trans hEb
        clear hne
        clear hG0 hgr hfr hEl
        simp only [Nat.zero_add]
        clear hB
        have hB:=hB'
        clear hB'
        refine hK.out _ _ hB (fun hHeld => ?_)
        clear hK K
        (try simp only [Act.put,List.setIfInBounds_toArray,List.set_cons_zero,List.set_cons_succ,List.getElem_toArray,List.getElem_cons_zero,List.getElem_cons_succ])
        refine wpAnyH_ready (rs:=[7]) (by kernel_rfl) (by simp) (AllReadyH.cons rfl (fun K hK => ?_) AllReadyH.nil)
        refine step_append_off rfl _ _ 30 rfl w1.heap.size 46 iA (.agg #[.int .i64 0,.int .i64 0,.int .i64 0,.int .i64 0,.int .u64 0,.slice none 0 0,.int .i64 0,.slice none 0 0,.bool false,.int .i64 0,.bool false,.int .i64 0,.int .i64 0,.int .i64 0,.int .i64 0,.int .i64 0,.int .i64 0,.int .i64 0,.int .i64 0,.int .i64 0,.int .i64 0]) 21 200 Tryz.underlying30 hiA hzA hsA hbA rfl (by decide) _ l.length (asC l) rfl hown ⟨fb,0,none⟩ 1 1 (aC ⟨0,y⟩) rfl (by rw [aC_len]) (news_block hEb) (aC_ones _) (by have:=HZL.out;unfold maxLen;omega) (by have:=HZL.out;omega) hB.size ?_
        intro vb v4 hown2 hgr hfr
        have hB':=hB.grown hgr hB.size (fun k e => (hown.lt k e).1)
        have hbw:=HB1.out.trans (hB'.mono HB1.out.size)
        obtain ⟨a2,c2,rfl,hrow⟩:=arow_own (l:=l ++ [⟨0,y⟩]) (by rw [asC_app,asC_one,List.length_append];exact hown2) (HCR.out _ hbw)
        simp only [List.length_append,List.length_cons,List.length_nil,Nat.zero_add]
        have HRO:=Lib.hid hrow
        clear hown hown2 hgr hfr hEb hrow hbw
        clear hB
        have hB:=hB'
        clear hB'
        refine hK.out _ _ hB (fun hHeld => ?_)
        clear hK K
        (try simp only [Act.put,List.setIfInBounds_toArray,List.set_cons_zero,List.set_cons_succ,List.getElem_toArray,List.getElem_cons_zero,List.getElem_cons_succ])
        refine wpAnyH_ready (rs:=[8]) (by kernel_rfl) (by simp) (AllReadyH.cons rfl (fun K hK => ?_) AllReadyH.nil)
        go_simp
        refine (HGR.out _ (HB1.out.trans (hB.mono HB1.out.size)) _ _ HRO.out).mono ?_
        rintro e5 w5 ⟨⟨g,rfl,hg⟩,hb5⟩
        (try go_wp2_with fail)
        have hB':=hB.trans (hb5.mono hB.size)
        clear hb5 HRO
        clear hB
        have hB:=hB'
        clear hB'
        refine hK.out _ _ hB (fun hHeld => ?_)
        clear hK K
        (try simp only [Act.put,List.setIfInBounds_toArray,List.set_cons_zero,List.set_cons_succ,List.getElem_toArray,List.getElem_cons_zero,List.getElem_cons_succ])
        refine wpAnyH_done (by kernel_rfl) ?_ _
        clear hHeld
        have HB5:=Lib.hid hB
        clear hB
        cases g with
        | true =>
          clear key hg
          go_wp2_with fail
          go_ret
          exact ⟨rfl,HB1.out.trans (HB5.out.mono HB1.out.size)⟩
        | false =>
          have HGF:=Lib.hid (hg rfl)
          clear hg HEB HFB
          revert HGF HB5
          revert w5
          revert c2;revert a2;revert c1;revert a1;revert fb;revert eb
          exact key.get
    · refine step_slice_act rfl _ rfl ⟨0,y⟩ (by kernel_rfl) ?_
      obtain ⟨v1,hv1⟩:∃ v,Hid (v = D0.alloc (.cells (aC ⟨0,y⟩).toArray 46)):=⟨_,rfl⟩
      rw [← hv1.out]
      have hl:Below D0.heap.size D0 v1:=by rw [hv1.out];exact (Below.refl _ _).alloc (Nat.le_refl _) _
      have hEb:v1.heap[D0.heap.size]? = some (.cells (aC ⟨0,y⟩).toArray 46 (0,0)):=by rw [hv1.out];exact heap_alloc_new _ _
      obtain ⟨fb,hfb⟩:∃ n,n = D0.heap.size:=⟨_,rfl⟩
      rw [← hfb] at hEb ⊢
      have HFB:=Lib.hid hfb
      clear hfb

      have hB':=hB.trans (hl.mono hB.size)
      clear hl hv1
      clear hB
      have hB:=hB'
      clear hB'
      refine hK.out _ _ hB (fun hHeld => ?_)
      clear hK K
      (try simp only [Act.put,List.setIfInBounds_toArray,List.set_cons_zero,List.set_cons_succ,List.getElem_toArray,List.getElem_cons_zero,List.getElem_cons_succ])
      refine wpAnyH_ready (rs:=[1]) (by kernel_rfl) (by simp) (AllReadyH.cons rfl (fun K hK => ?_) AllReadyH.nil)
      go_simp
      obtain ⟨v2,hv2⟩:∃ v,Hid (v = v1.alloc (.cells #[] 46)):=⟨_,rfl⟩
      rw [← hv2.out]
      have hl:Below v1.heap.size v1 v2:=by rw [hv2.out];exact (Below.refl _ _).alloc (Nat.le_refl _) _
      have hE0:v2.heap[v1.heap.size]? = some (.cells #[] 46 (0,0)):=by rw [hv2.out];exact heap_alloc_new _ _
      obtain ⟨eb,heb⟩:∃ n,n = v1.heap.size:=⟨_,rfl⟩
      rw [← heb] at hE0 ⊢
      have hEl:w1.heap.size ≤ eb:=by have:=hB.size;omega
      have HEB:=Lib.hid heb
      clear heb
      have hne:eb ≠ fb:=by have:=(Array.getElem?_eq_some_iff.1 hEb).1;have:=HEB.out;omega
      replace hEb:=(hl.block fb (Array.getElem?_eq_some_iff.1 hEb).1).trans hEb
      have hG0:OwnsOff v2 w1.heap.size 46 21 (.slice (some ⟨eb,0,none⟩) 0 0) 0 []:=⟨rfl,.inr ⟨_,0,0,#[],rfl,hEl,hE0,Nat.le_refl _,by unfold maxLen;omega,by simp,rfl⟩⟩
      have hB':=hB.trans (hl.mono hB.size)
      clear hl hE0 hv2
      clear hB
      have hB:=hB'
      clear hB'
      refine hK.out _ _ hB (fun hHeld => ?_)
      clear hK K
      (try simp only [Act.put,List.setIfInBounds_toArray,List.set_cons_zero,List.set_cons_succ,List.getElem_toArray,List.getElem_cons_zero,List.getElem_cons_succ])
      refine wpAnyH_ready (rs:=[3]) (by kernel_rfl) (by simp) (AllReadyH.cons rfl (fun K hK => ?_) AllReadyH.nil)
      refine step_append_acts rfl _ _ rfl w1.heap.size _ 0 [] rfl hG0 Al lk l rfl (HRW.out v2 hB) HNIL.out (by have:=HZL.out;unfold maxLen;omega) (by have:=HZL.out;omega) hB.size ?_
      intro va v3 hown hgr hfr
      have hB':=hB.grown hgr hB.size (fun k e => by rw [← Option.some.inj e];exact hEl)
      obtain ⟨a1,c1,rfl,-,-⟩:=hown.slice
      simp only [Nat.zero_add,List.nil_append] at hown
      replace hEb:=(hgr.block fb (Array.getElem?_eq_some_iff.1 hEb).1 (fun e => hne (Option.some.inj e).symm)).trans hEb
      clear hne
      clear hG0 hgr hfr hEl
      simp only [Nat.zero_add]
      clear hB
      have hB:=hB'
      clear hB'
      refine hK.out _ _ hB (fun hHeld => ?_)
      clear hK K
      (try simp only [Act.put,List.setIfInBounds_toArray,List.set_cons_zero,List.set_cons_succ,List.getElem_toArray,List.getElem_cons_zero,List.getElem_cons_succ])
      refine wpAnyH_ready (rs:=[7]) (by kernel_rfl) (by simp) (AllReadyH.cons rfl (fun K hK => ?_) AllReadyH.nil)
      refine step_append_off rfl _ _ 30 rfl w1.heap.size 46 iA (.agg #[.int .i64 0,.int .i64 0,.int .i64 0,.int .i64 0,.int .u64 0,.slice none 0 0,.int .i64 0,.slice none 0 0,.bool false,.int .i64 0,.bool false,.int .i64 0,.int .i64 0,.int .i64 0,.int .i64 0,.int .i64 0,.int .i64 0,.int .i64 0,.int .i64 0,.int .i64 0,.int .i64 0]) 21 200 Tryz.underlying30 hiA hzA hsA hbA rfl (by decide) _ l.length (asC l) rfl hown ⟨fb,0,none⟩ 1 1 (aC ⟨0,y⟩) rfl (by rw [aC_len]) (news_block hEb) (aC_ones _) (by have:=HZL.out;unfold maxLen;omega) (by have:=HZL.out;omega) hB.size ?_
      intro vb v4 hown2 hgr hfr
      have hB':=hB.grown hgr hB.size (fun k e => (hown.lt k e).1)
      have hbw:=HB1.out.trans (hB'.mono HB1.out.size)
      obtain ⟨a2,c2,rfl,hrow⟩:=arow_own (l:=l ++ [⟨0,y⟩]) (by rw [asC_app,asC_one,List.length_append];exact hown2) (HCR.out _ hbw)
      simp only [List.length_append,List.length_cons,List.length_nil,Nat.zero_add]
      have HRO:=Lib.hid hrow
      clear hown hown2 hgr hfr hEb hrow hbw
      clear hB
      have hB:=hB'
      clear hB'
      refine hK.out _ _ hB (fun hHeld => ?_)
      clear hK K
      (try simp only [Act.put,List.setIfInBounds_toArray,List.set_cons_zero,List.set_cons_succ,List.getElem_toArray,List.getElem_cons_zero,List.getElem_cons_succ])
      refine wpAnyH_ready (rs:=[8]) (by kernel_rfl) (by simp) (AllReadyH.cons rfl (fun K hK => ?_) AllReadyH.nil)
      go_simp
      refine (HGR.out _ (HB1.out.trans (hB.mono HB1.out.size)) _ _ HRO.out).mono ?_
      rintro e5 w5 ⟨⟨g,rfl,hg⟩,hb5⟩
      (try go_wp2_with fail)
      have hB':=hB.trans (hb5.mono hB.size)
      clear hb5 HRO
      clear hB
      have hB:=hB'
      clear hB'
      refine hK.out _ _ hB (fun hHeld => ?_)
      clear hK K
      (try simp only [Act.put,List.setIfInBounds_toArray,List.set_cons_zero,List.set_cons_succ,List.getElem_toArray,List.getElem_cons_zero,List.getElem_cons_succ])
      refine wpAnyH_done (by kernel_rfl) ?_ _
      clear hHeld
      have HB5:=Lib.hid hB
      clear hB
      cases g with
      | true =>
        clear key hg
        go_wp2_with fail
        go_ret
        exact ⟨rfl,HB1.out.trans (HB5.out.mono HB1.out.size)⟩
      | false =>
        have HGF:=Lib.hid (hg rfl)
        clear hg HEB HFB
        revert HGF HB5
        revert w5
        revert c2;revert a2;revert c1;revert a1;revert fb;revert eb
        exact key.get
  intro eb fb a1 c1 a2 c2 w5 HB5 HGF
  obtain ⟨hg1,hac,hll,hfine⟩:=HGF.out
  have HFI:=Lib.hid hfine;have HAC:=Lib.hid hac;have HLL:=Lib.hid (show l.length + 1 ≤ 60 from by simpa using hll)
  have HLX:=Lib.hid (cfgLe_few hg1 (show 100 ≤ 1000000 by omega))
  have HB2:=Lib.hid (HB1.out.trans (HB5.out.mono HB1.out.size))
  have HBW2:=Lib.hid (HBW1.out.trans (HB5.out.mono HBW1.out.size))
  obtain ⟨c0,c1',c2',c3,c4,c5⟩:=HBX.out w5 HBW2.out
  clear hg1 hac hll hfine HGF
  go_wp2_with fail
  refine (HNW.out w5 HB2.out HLX.out HAC.out).mono ?_
  rintro e3 w3 ⟨own0_,Z0,rfl,hM0,hb3,-⟩
  obtain ⟨mb,hmb⟩:∃ mb,Z0.b = mb:=⟨_,rfl⟩
  rw [hmb]
  obtain ⟨n0,hn0⟩:∃ n,n = w5.heap.size:=⟨_,rfl⟩
  rw [← hn0] at hM0
  have HN0:=Lib.hid (show w.heap.size ≤ n0 ∧ n0 ≤ w3.heap.size from ⟨by have:=HB2.out.size;omega,by have:=hb3.size;omega⟩)
  have HBW:=Lib.hid (HBW2.out.trans (hb3.mono HBW2.out.size))
  have HBWN:=Lib.hid (show W.heap.size ≤ n0 from by have:=HBW2.out.size;omega)
  have HB3:=Lib.hid (HB2.out.trans (hb3.mono HB2.out.size))
  have HYL:=Lib.hid (fun (V:World) (hV:Below n0 w3 V) => HY.out V (HBW.out.trans (hV.mono HBWN.out)))
  have HYN:=Lib.hid (show yb < n0 from by have:=HYBL.out;have:=HBWN.out;omega)
  have HI0:Hid (StI w n0 c 0 mb w3 own0_ (new8 c) Z0):=Lib.hid ⟨hmb,hM0,Nat.le_refl _,HB3.out,HN0.out.1⟩
  clear c0 c1' c2' c3 c4 c5 hM0 hb3 hmb hn0 HNW
  go_wp2_with fail
  go_loopw [35] (fun ix wr => ∃ i:Nat,i ≤ l.length ∧ ix = .int .i64 i ∧ StE w n0 c i mb wr ∧ Below n0 w3 wr) (fun ix _ => l.length - (intOf ix).toNat)
  case atStart => exact ⟨0,Nat.zero_le _,rfl,⟨_,_,_,HI0.out⟩,Below.refl _ _⟩
  case round =>
    obtain ⟨i,hi,rfl,⟨own,M,Z,hA⟩,hbr⟩:=hrel
    have HA:=Lib.hid hA;have HLO0:=Lib.hid hbr
    have HII:=Lib.hid (show i ≤ 60 from by have:=HLL.out;omega)
    clear hA hbr
    by_cases hlt:i < l.length
    · have s1:(i:Int) < (l.length:Int):=by omega
      obtain ⟨b,o,a,eA,hlb,ha,hwf,hc⟩:=HR.out.at_ hlt
      subst eA
      have HLT:=Lib.hid hlt
      have HFA:=Lib.hid (HFI.out i a (by rw [List.getElem?_append_left hlt];exact ha))
      have HWF:=Lib.hid hwf;have HC:=Lib.hid hc
      have HXR:=Lib.hid (hc wr HA.out.bel).1
      obtain ⟨X1,X2,HX1,HX2,hth,hxb2,hxv⟩:=varA wr a
      have HXB:=Lib.hid hxb2;have HXV:=Lib.hid hxv;have HTH:=Lib.hid hth
      clear hxb2 hxv hth
      have HAX:=Lib.hid (HA.out.later HXB.out)
      have HLX2:=Lib.hid (HLO0.out.trans (HXB.out.mono (Nat.le_trans HN0.out.2 HLO0.out.size)))
      have HCX:CAt X2 wr.heap.size 1 a.x:=HXV.out.call
      obtain ⟨⟨R,M'⟩,hR⟩:∃ r,do8 c M a.x = r:=⟨_,rfl⟩
      have HRR:=Lib.hid hR
      have HDA:=do_any HAX.out.mat HWX.out HLX.out a.x HWF.out ((HC.out X2 HAX.out.bel).2.more HAX.out.bel.size) (by have:=HFA.out.rd;omega) HAC.out (by have:=HAX.out.tk;have:=HII.out;omega) (HT.out.later HAX.out.bel) (fun hp q hq hm => by
        obtain ⟨b',o',h4,h5,-⟩:=(HC.out X2 HAX.out.bel).2.rr hp
        rw [h4] at hq;cases hq
        rw [low_free9 HAX.out.mat (k:=b') (by have:=HA.out.low;omega)] at hm;exact hm) HFA.out.st HFA.out.t1 R M' hR
      rw [HAX.out.mb] at HDA
      have HDA:=Lib.hid HDA
      clear hlt ha hwf hc hlb hi hR
      go_wp2_with (first | (rw [← HX1.out]) | (with_reducible refine wpList_store_mid (by kernel_rfl) _ _ _ rfl wr.heap.size 0 (aC a).toArray (by kernel_rfl) (by kernel_rfl) HTH.out (aC_infoA a) (aC_one a) ?_) | (rw [← HX2.out]) | (with_reducible refine wpList_loadA (by with_unfolding_all rfl) _ rfl _ _ _ (by with_unfolding_all rfl) HXR.out ?_) | (with_reducible refine wpList_loadC (by with_unfolding_all rfl) _ rfl _ _ _ (by with_unfolding_all rfl) HCX ?_))
      refine HDA.out.mono ?_
      rintro e6 w6 ⟨rA,rk,rfl,-,-,hT6⟩
      obtain ⟨own',Z',hI,hlow,-,-⟩:=HAX.out.turn hT6 (by have h:=do8_t9 c M a.x;rw [HRR.out] at h;exact Nat.le_of_eq h)
      have HI:=Lib.hid hI
      have HLO:=Lib.hid (HLX2.out.trans hlow)
      clear hT6 hI hlow HCX
      have hwi:IntKind.i64.wrap ((i:Int) + 1) = (i:Int) + 1:=IntWalk.i64_in _ (by have:=HII.out;omega)
      go_wp2_with fail
      go_roundw
      case rel => exact ⟨i + 1,by have:=HLT.out;omega,by go_num,⟨_,_,_,HI.out⟩,HLO.out⟩
      case measure => simp [intOf];have:=HLT.out;omega
    · have s1:¬ ((i:Int) < (l.length:Int)):=by omega
      clear hlt hi
      obtain ⟨d0,d1,d2,d3,d4,d5⟩:=HBX.out wr (HBW.out.trans (HLO0.out.mono HBWN.out))
      go_wp2_with fail
      clear d0 d1 d2 d3 d4 d5 s1
      obtain ⟨wo,rfl⟩:∃ wo,wo = wr:=⟨_,rfl⟩
      go_loopw [10,47] (fun wv ix wv2 => ∃ (p:Nat) (rs:List RR),p ≤ c.parts.length ∧ ix = .int .i64 p ∧ StI w n0 c i mb wv2 own M Z ∧ WasAt wv2 own n0 M wv p rs ∧ Below n0 wo wv2) (fun _ ix _ => c.parts.length - (intOf ix).toNat)
      case atStart => exact ⟨0,[],Nat.zero_le _,rfl,HA.out,WasAt.nil _ _ _ _,Below.refl _ _⟩
      case round =>
        obtain ⟨p,rs,hp,rfl,hA2,hwas,hbv⟩:=hrel
        have HA2:=Lib.hid hA2;have HWS:=Lib.hid hwas;have HBV:=Lib.hid hbv
        clear hA2 hwas hbv
        obtain ⟨Aw,kw,rfl,-,-⟩:=HWS.out.own_.slice
        by_cases hlt:p < c.parts.length
        · have s1:(p:Int) < (c.parts.length:Int):=by omega
          have HSG:=standing_f HA2.out.mat (by have:=HA2.out.tk;have:=HII.out;omega) p hlt
          rw [HA2.out.mb] at HSG
          have HSG:=Lib.hid HSG
          obtain ⟨s,hs⟩:∃ s,st8 M (p:Int) = s:=⟨_,rfl⟩
          rw [hs] at HSG
          have HST:=Lib.hid hs
          have HLP:=Lib.hid hlt
          clear hs hlt
          go_wp2_with fail
          refine HSG.out.mono ?_
          rintro e5 w5 ⟨A1,k1,A2,k2,rfl,hm5,hv5,hb5,hf1,hf2⟩
          obtain ⟨W6,HW6,hB6,hs6,x6⟩:=box_new w5 #[.int .i64 (p:Int),.bool s.sn,.slice A1 s.made.length k1,.slice A2 s.valid.length k2] 59
          obtain ⟨xb,hxb⟩:∃ k,k = w5.heap.size:=⟨_,rfl⟩
          have hX6:=x6 W6 (Below.refl _ _)
          rw [← hxb] at hX6
          have EX:=Lib.hid hxb
          have x0:W6.cell? ⟨xb,0,none⟩ = some (.int .i64 (p:Int)):=blk_at hX6 (i:=0) rfl
          have x1:W6.cell? ⟨xb,1,none⟩ = some (.bool s.sn):=blk_at hX6 (i:=1) rfl
          have x2:W6.cell? ⟨xb,2,none⟩ = some (.slice A1 s.made.length k1):=blk_at hX6 (i:=2) rfl
          have x3:W6.cell? ⟨xb,3,none⟩ = some (.slice A2 s.valid.length k2):=blk_at hX6 (i:=3) rfl
          have HXL:=Lib.hid (Array.getElem?_eq_some_iff.1 hX6).1
          have HM6:=Lib.hid (hm5.later8 hB6)
          have HV6:=Lib.hid (hv5.later8 hB6)
          have HF1:=Lib.hid hf1;have HF2:=Lib.hid hf2
          have HB6:=Lib.hid (hb5.trans (hB6.mono hb5.size))
          clear hm5 hv5 hb5 hB6 hs6 x6 hxb hX6 hf1 hf2
          have HA6:=Lib.hid (HA2.out.later HB6.out)
          have HW6S:=Lib.hid (HWS.out.later HB6.out)
          have hown6:=HW6S.out.own_
          have hn0:n0 ≤ (W6.alloc (.cells #[.int .i64 (p:Int),.bool s.sn,.slice A1 s.made.length k1,.slice A2 s.valid.length k2] 59)).heap.size:=by have:=HA6.out.mat.n0le;simp;omega
          obtain ⟨i0,hi0,hz0,hz1,hz2⟩:=info_parts infoSt9
          go_wp2_with (first | (rw [← HW6.out];(try simp only [← EX.out])) | (at_builtin;refine wpList_append_off _ rfl _ _ 65 rfl n0 59 i0 (.agg #[.int .i64 0,.bool false,.slice none 0 0,.slice none 0 0]) 4 64 Tryz.underlying65 hi0 hz0 hz1 hz2 rfl (by decide) _ _ _ rfl (hown6.keptB ((Below.refl _ _).alloc (Nat.le_refl _) _)) ⟨W6.heap.size,0,none⟩ 1 1 [.int .i64 (p:Int),.bool s.sn,.slice A1 s.made.length k1,.slice A2 s.valid.length k2] rfl rfl (news_block (heap_alloc_new W6 _)) (by simp [Value.oneCell']) (by have:=HLX.out.1;have:=HLP.out;unfold maxLen;omega) (by have:=HLX.out.1;have:=HLP.out;omega) hn0 ?_))
          intro v' w9 hown' hgr hfr
          have hszr:wr.heap.size ≤ W6.heap.size:=HB6.out.size
          obtain ⟨hM9,hW9,hlow9⟩:=WasAt.grow HA6.out.mat HW6S.out ⟨(p:Int),s,A1,k1,A2,k2⟩ ⟨rfl,HST.out.symm⟩ HM6.out HV6.out
            (fun hn q hq => ⟨HA2.out.mat.free _ (HF1.out hn q hq),fun e => by have h1:=(HWS.out.own_.lt _ e).2;have h2:=HF1.out hn q hq;omega⟩)
            (fun hn q hq => ⟨HA2.out.mat.free _ (HF2.out hn q hq),fun e => by have h1:=(HWS.out.own_.lt _ e).2;have h2:=HF2.out hn q hq;omega⟩)
            hown' hgr (fun g hg => by have h:=hfr g hg;simpa using h)
          have HI9:Hid (StI w n0 c i mb w9 own M Z):=Lib.hid ⟨HA2.out.mb,hM9,HA2.out.tk,HA6.out.bel.trans (hlow9.mono HA2.out.low),HA2.out.low⟩
          have HW9:=Lib.hid hW9
          have HB9:=Lib.hid ((HBV.out.trans (HB6.out.mono HA2.out.mat.n0le)).trans hlow9)
          clear hown' hgr hfr hM9 hW9 hlow9 x0 x1 x2 x3 hown6 hn0 hszr s1
          have hwp:IntKind.i64.wrap ((p:Int) + 1) = (p:Int) + 1:=IntWalk.i64_in _ (by have:=HLP.out;have:=HLX.out.1;omega)
          go_wp2_with fail
          go_roundw
          case rel => exact ⟨p + 1,_,by have:=HLP.out;omega,by go_num,HI9.out,HW9.out,HB9.out⟩
          case measure => simp [intOf];have:=HLP.out;omega
        · have s1:¬ ((p:Int) < (c.parts.length:Int)):=by omega
          have hpp:p = c.parts.length:=by omega
          subst hpp
          clear hlt hp
          have HY9:CAt wr yb 0 y:=HYL.out wr (HLO0.out.trans HBV.out)
          have HBWR:=Lib.hid (HBW.out.trans ((HLO0.out.trans HBV.out).mono HBWN.out))
          obtain ⟨⟨R,M'⟩,hR⟩:∃ r,do8 c M y = r:=⟨_,rfl⟩
          have HRR:=Lib.hid hR
          have hFy:=HFI.out l.length ⟨0,y⟩ (by simp)
          have HFY:=Lib.hid hFy
          have HCY:=Lib.hid (fun (V:World) (hV:Below w.heap.size w V) => (HYR.out.below hV).more hV.size)
          have HDA:=do_any HA2.out.mat HWX.out HLX.out y HYW.out (HCY.out wr HA2.out.bel) (by have:=hFy.rd;show y.rd.length ≤ 1000000;have h:y.rd.length ≤ 40:=this;omega) HAC.out (by have:=HA2.out.tk;have:=HII.out;omega) (HT.out.later HA2.out.bel) (fun hp q hq hm => by
            obtain ⟨b',o',h4,h5,-⟩:=HYR.out.rr hp
            rw [h4] at hq;cases hq
            rw [low_free9 HA2.out.mat (k:=b') (by have:=HA2.out.low;omega)] at hm;exact hm) hFy.st hFy.t1 R M' hR
          rw [HA2.out.mb] at HDA
          have HDA:=Lib.hid HDA
          clear hR hFy
          go_wp2_with (first | (with_reducible refine wpList_loadC (by with_unfolding_all rfl) _ rfl _ _ _ (by with_unfolding_all rfl) HY9 ?_))
          refine HDA.out.mono ?_
          rintro e6 w6 ⟨rA,rk,rfl,-,-,hT6⟩
          have hM't:M'.t = M.t + 1:=by have h:=do8_t9 c M y;rw [HRR.out] at h;exact h
          obtain ⟨own',Z',hI6,hlow6,hown6,honly6⟩:=HA2.out.turn hT6 (Nat.le_of_eq hM't)
          have hW6:=HWS.out.turn hown6 honly6
          obtain ⟨W7,HW7,hB7,hs7,x7⟩:=box_new w6 #[.int .i64 R.code,.slice rA R.data.length rk,.bool R.valid,.int .i64 R.count] 42
          obtain ⟨ab,hab⟩:∃ k,k = w6.heap.size:=⟨_,rfl⟩
          have hX7:=x7 W7 (Below.refl _ _)
          rw [← hab] at hX7
          have E7:=Lib.hid hab
          have HX7:=Lib.hid hX7
          have HAF:=Lib.hid (show own' ab = .free from hI6.mat.free _ (by omega))
          have HABL:=Lib.hid (Array.getElem?_eq_some_iff.1 hX7).1
          have g0:W7.cell? ⟨ab,0,none⟩ = some (.int .i64 R.code):=blk_at hX7 (i:=0) rfl
          have g1:W7.cell? ⟨ab,1,none⟩ = some (.slice rA R.data.length rk):=blk_at hX7 (i:=1) rfl
          have HI7:=Lib.hid (hI6.later hB7)
          have HW7S:=Lib.hid (hW6.later hB7)
          have hbn7:Below n0 wr W7:=hlow6.trans (hB7.mono hI6.mat.n0le)
          have HLO7:=Lib.hid ((HLO0.out.trans HBV.out).trans hbn7)
          have HY7:CAt W7 yb 0 y:=HYL.out W7 HLO7.out
          have yop:W7.cell? ⟨yb,1,none⟩ = some (.int .i64 y.op):=HY7.b_op
          clear hT6 hI6 hlow6 hown6 honly6 hW6 hB7 hs7 x7 hab hX7 hbn7 HY9
          by_cases h0:R.code = 0
          · have q0:(R.code == 0) = true:=by simp [h0]
            clear g1 yop HY7 h0
            go_wp2_with (rw [← HW7.out];(try simp only [← E7.out]))
            go_ret
            exact ⟨rfl,HI7.out.bel⟩
          have q0:(R.code == 0) = false:=by simp [h0]
          by_cases h2:R.code = 2
          · have q2:(R.code == 2) = true:=by simp [h2]
            clear g1 yop HY7 h2 h0
            go_wp2_with (rw [← HW7.out];(try simp only [← E7.out]))
            go_ret
            exact ⟨rfl,HI7.out.bel⟩
          have q2:(R.code == 2) = false:=by simp [h2]
          by_cases h14:R.code = 1 ∧ y.op = 4
          · have q1:(R.code == 1) = true:=by simp [h14.1]
            have q4:(y.op == 4) = true:=by simp [h14.2]
            clear g1 HY7 h14 h2 h0
            go_wp2_with (rw [← HW7.out];(try simp only [← E7.out]))
            go_ret
            exact ⟨rfl,HI7.out.bel⟩
          obtain ⟨hd1,hd2⟩:=do8_refused (c:=c) (M:=M) (x:=y) (by rw [HRR.out];exact h0) (by rw [HRR.out];exact h2) (by rw [HRR.out];exact h14)
          obtain ⟨z,hz⟩:∃ z,ref8 c M y = z:=⟨_,rfl⟩
          rw [hz] at hd1 hd2
          rw [HRR.out] at hd1
          injection hd1 with hr1 hr2
          subst hr1 hr2
          have HD2:=Lib.hid hd2
          obtain ⟨d0,d1,d2,d3,d4,d5⟩:=HBX.out W7 (HBW.out.trans (HLO7.out.mono HBWN.out))
          clear hz hd2 hM't HY7 HRR
          simp only [code8,List.length_nil] at *
          have hk14:(z == 1) = false ∨ ((z == 1) = true ∧ (y.op == 4) = false):=by
            by_cases h1:z = 1
            · exact .inr ⟨by simp [h1],by simp;exact fun h => h14 ⟨h1,h⟩⟩
            · exact .inl (by simp [h1])
          clear h0 h2 h14
          rcases hk14 with q1 | ⟨q1,q4⟩
          all_goals
            go_wp2_with (rw [← HW7.out];(try simp only [← E7.out]))
            (try clear q4)
            clear q0 q1 q2 yop d0 d1 d2 d3 d4 d5 g0 g1
            obtain ⟨wq,hwq⟩:∃ wq,wq = W7:=⟨_,rfl⟩
            rw [← hwq]
            have HI7:Hid (StI w n0 c (i + 1) mb wq own' (tick8 M) Z'):=Lib.hid (by rw [hwq];exact HI7.out)
            have HW7S:Hid (WasAt wq own' n0 M (.slice Aw c.parts.length kw) c.parts.length rs):=Lib.hid (by rw [hwq];exact HW7S.out)
            have HLO7:Hid (Below n0 w3 wq):=Lib.hid (by rw [hwq];exact HLO7.out)
            have HX7:Hid (wq.heap[ab]? = some (.cells #[.int .i64 z,.slice rA 0 rk,.bool false,.int .i64 0] 42 (0,0))):=Lib.hid (by rw [hwq];exact HX7.out)
            have HABL:Hid (ab < wq.heap.size):=Lib.hid (by rw [hwq];exact HABL.out)
            clear hwq HW7 E7
            obtain ⟨d0,d1,d2,d3,d4,d5⟩:=HBX.out wq (HBW.out.trans (HLO7.out.mono HBWN.out))
            (try go_wp2_with fail)
            clear d0 d1 d2 d3 d4 d5
            go_loopw [86] (fun ix wv => ∃ p:Nat,p ≤ c.parts.length ∧ ix = .int .i64 p ∧ Below wq.heap.size wq wv) (fun ix _ => c.parts.length - (intOf ix).toNat)
            case atStart => exact ⟨0,Nat.zero_le _,rfl,Below.refl _ _⟩
            case round =>
              obtain ⟨p,hp,rfl,hbv⟩:=hrel
              have HBV2:=Lib.hid hbv
              have HA3:=Lib.hid (HI7.out.later hbv)
              have HW3:=Lib.hid (HW7S.out.later hbv)
              clear hbv
              by_cases hlt:p < c.parts.length
              · have s1:(p:Int) < (c.parts.length:Int):=by omega
                obtain ⟨r,hr⟩:∃ r,rs[p]? = some r:=⟨_,List.getElem?_eq_getElem (by rw [HW3.out.len];exact hlt)⟩
                have HRP:=Lib.hid hr
                clear hr
                have HSG:=standing_f HA3.out.mat (by have:=HA3.out.tk;have:=HII.out;omega) p hlt
                rw [HA3.out.mb] at HSG
                have HSG:=Lib.hid HSG
                obtain ⟨s,hs⟩:∃ s,st8 (tick8 M) (p:Int) = s:=⟨_,rfl⟩
                rw [hs] at HSG
                have HST:=Lib.hid hs
                have HLP:=Lib.hid hlt
                clear hs hlt
                go_wp2_with fail
                refine HSG.out.mono ?_
                rintro e5 w5 ⟨A1,k1,A2,k2,rfl,hm5,hv5,hb5,hf1,hf2⟩
                obtain ⟨W6,HW6,hB6,hs6,x6⟩:=box_new w5 #[.int .i64 (p:Int),.bool s.sn,.slice A1 s.made.length k1,.slice A2 s.valid.length k2] 59
                obtain ⟨xb,hxb⟩:∃ k,k = w5.heap.size:=⟨_,rfl⟩
                have hX6:=x6 W6 (Below.refl _ _)
                rw [← hxb] at hX6
                have EX:=Lib.hid hxb
                have x0:W6.cell? ⟨xb,0,none⟩ = some (.int .i64 (p:Int)):=blk_at hX6 (i:=0) rfl
                have x1:W6.cell? ⟨xb,1,none⟩ = some (.bool s.sn):=blk_at hX6 (i:=1) rfl
                have x2:W6.cell? ⟨xb,2,none⟩ = some (.slice A1 s.made.length k1):=blk_at hX6 (i:=2) rfl
                have x3:W6.cell? ⟨xb,3,none⟩ = some (.slice A2 s.valid.length k2):=blk_at hX6 (i:=3) rfl
                have HXL:=Lib.hid (Array.getElem?_eq_some_iff.1 hX6).1
                have HM6:=Lib.hid (hm5.later8 hB6)
                have HV6:=Lib.hid (hv5.later8 hB6)
                have HF1:=Lib.hid hf1;have HF2:=Lib.hid hf2
                have HB6:=Lib.hid (hb5.trans (hB6.mono hb5.size))
                clear hm5 hv5 hb5 hB6 hs6 x6 hxb hX6 hf1 hf2
                have HW6S:=Lib.hid (HW3.out.later HB6.out)
                obtain ⟨e1,e2,r1,r2,-,-⟩:=HW6S.out.at_ p r HRP.out
                have hsr:r.s = s:=by rw [e2];exact HST.out
                obtain ⟨gw,ow,capw,hv,_,hgw,_,_,_,hcw⟩:=OwnsOff.lies HW6S.out.own_ (by have:=HLP.out;omega)
                injection hv with hv1 hv2 hv3
                subst hv1 hv3
                have hcell:∀ j v,j < 4 → (rC r)[j]? = some v → W6.cell? ⟨gw,ow + p * 4 + j,none⟩ = some v:=fun j v hj hv => by
                  rw [Nat.add_assoc];exact hcw _ v ((rsC_at HRP.out j hj).trans hv)
                have t0:W6.cell? ⟨gw,ow + p * 4,none⟩ = some (.int .i64 (p:Int)):=by have h:=hcell 0 _ (by omega) rfl;rw [e1] at h;exact h
                have t1:W6.cell? ⟨gw,ow + p * 4 + 1,none⟩ = some (.bool s.sn):=by have h:=hcell 1 _ (by omega) rfl;rw [hsr] at h;exact h
                have t2:W6.cell? ⟨gw,ow + p * 4 + 2,none⟩ = some (.slice r.A1 s.made.length r.k1):=by have h:=hcell 2 _ (by omega) rfl;rw [hsr] at h;exact h
                have t3:W6.cell? ⟨gw,ow + p * 4 + 3,none⟩ = some (.slice r.A2 s.valid.length r.k2):=by have h:=hcell 3 _ (by omega) rfl;rw [hsr] at h;exact h
                rw [hsr] at r1 r2
                have hsz:=HA3.out.mat
                have HSL:=Lib.hid (show s.made.length ≤ 1000000 ∧ s.valid.length ≤ 1000000 from by
                  rw [← HST.out];exact st_len9 HA3.out.mat (by have:=HA3.out.tk;have:=HII.out;omega) p HLP.out)
                have HGL:=Lib.hid hgw
                have HT0:=Lib.hid t0;have HT1:=Lib.hid t1;have HT2:=Lib.hid t2;have HT3:=Lib.hid t3
                have HR1:=Lib.hid r1;have HR2:=Lib.hid r2
                have i0:(0:Int) ≤ (p:Int):=by omega
                have HRS:=Lib.hid (fun (V:World) (hV:Below W6.heap.size W6 V) => sameStand_eq (p:Int) s.sn s.made s.valid A1 r.A1 A2 r.A2 k1 r.k1 k2 r.k2 V (HM6.out.later8 hV) (HR1.out.later8 hV) (HV6.out.later8 hV) (HR2.out.later8 hV) HSL.out.1 HSL.out.2)
                clear e1 e2 r1 r2 hsr hcell t0 t1 t2 t3 hsz hgw hcw
                go_wp2_with (rw [← HW6.out];(try simp only [← EX.out]))
                refine wp_region_held_drew (S:=(fun W' => Below W6.heap.size W6 W')) (by kernel_rfl) (by exact (Below.refl _ _).drew) (fun hHeld => ?_)
                refine wpAnyH_take (i:=0) rfl (by kernel_rfl) (by kernel_rfl) (by kernel_rfl) (fun _ _ _ h => h) (Or.inl ⟨by rfl,by intro w hSw;have z0:=(hSw.cell (p:=⟨xb,0,none⟩) HXL.out).trans x0;have z1:=(hSw.cell (p:=⟨xb,1,none⟩) HXL.out).trans x1;have z2:=(hSw.cell (p:=⟨xb,2,none⟩) HXL.out).trans x2;have z3:=(hSw.cell (p:=⟨xb,3,none⟩) HXL.out).trans x3;(go_simp <;> with_reducible rfl)⟩) (by assumption) ?_
                (try simp only [Act.put,List.setIfInBounds_toArray,List.set_cons_zero,List.set_cons_succ,List.getElem_toArray,List.getElem_cons_zero,List.getElem_cons_succ])
                refine wpAnyH_take (i:=1) rfl (by kernel_rfl) (by kernel_rfl) (by kernel_rfl) (fun _ _ _ h => h) (Or.inl ⟨by rfl,by intro w hSw;(go_simp <;> with_reducible rfl)⟩) (by assumption) ?_
                (try simp only [Act.put,List.setIfInBounds_toArray,List.set_cons_zero,List.set_cons_succ,List.getElem_toArray,List.getElem_cons_zero,List.getElem_cons_succ])
                refine wpAnyH_take (i:=2) rfl (by kernel_rfl) (by kernel_rfl) (by kernel_rfl) (fun _ _ _ h => h) (Or.inl ⟨by rfl,by intro w hSw;(go_simp <;> with_reducible rfl)⟩) (by assumption) ?_
                (try simp only [Act.put,List.setIfInBounds_toArray,List.set_cons_zero,List.set_cons_succ,List.getElem_toArray,List.getElem_cons_zero,List.getElem_cons_succ])
                refine wpAnyH_take (i:=3) rfl (by kernel_rfl) (by kernel_rfl) (by kernel_rfl) (fun _ _ _ h => h) (Or.inl ⟨by rfl,by intro w hSw;(go_simp <;> with_reducible rfl)⟩) (by assumption) ?_
                (try simp only [Act.put,List.setIfInBounds_toArray,List.set_cons_zero,List.set_cons_succ,List.getElem_toArray,List.getElem_cons_zero,List.getElem_cons_succ])
                refine wpAnyH_take (i:=4) rfl (by kernel_rfl) (by kernel_rfl) (by kernel_rfl) (fun _ _ _ h => h) (Or.inl ⟨by rfl,by intro w hSw;have z0:=(hSw.cell (p:=⟨gw,ow + p * 4,none⟩) HGL.out).trans HT0.out;have z1:=(hSw.cell (p:=⟨gw,ow + p * 4 + 1,none⟩) HGL.out).trans HT1.out;have z2:=(hSw.cell (p:=⟨gw,ow + p * 4 + 2,none⟩) HGL.out).trans HT2.out;have z3:=(hSw.cell (p:=⟨gw,ow + p * 4 + 3,none⟩) HGL.out).trans HT3.out;(go_simp <;> with_reducible rfl)⟩) (by assumption) ?_
                (try simp only [Act.put,List.setIfInBounds_toArray,List.set_cons_zero,List.set_cons_succ,List.getElem_toArray,List.getElem_cons_zero,List.getElem_cons_succ])
                refine wpAnyH_ready (rs:=[5]) (by kernel_rfl) (by simp) (AllReadyH.cons rfl (fun K hK => ?_) AllReadyH.nil)
                go_simp
                refine (HRS.out _ ((Below.refl _ _).drew)).mono ?_
                rintro e8 w8 ⟨rfl,hb8⟩
                (try go_wp2_with fail)
                have HB8:=Lib.hid ((Below.refl W6.heap.size W6).drew.trans (hb8.mono (by exact Nat.le_refl _)))
                clear hb8 hHeld
                refine hK.out _ _ (by exact HB8.out) (fun hHeld => ?_)
                clear hK K
                (try simp only [Act.put,List.setIfInBounds_toArray,List.set_cons_zero,List.set_cons_succ,List.getElem_toArray,List.getElem_cons_zero,List.getElem_cons_succ])
                refine wpAnyH_take (i:=6) rfl (by kernel_rfl) (by kernel_rfl) (by kernel_rfl) (fun _ _ _ h => h) (Or.inl ⟨by rfl,by intro w hSw;(go_simp <;> with_reducible rfl)⟩) (by assumption) ?_
                (try simp only [Act.put,List.setIfInBounds_toArray,List.set_cons_zero,List.set_cons_succ,List.getElem_toArray,List.getElem_cons_zero,List.getElem_cons_succ])
                refine wpAnyH_done (by kernel_rfl) ?_ _
                clear hHeld
                have HBE:=Lib.hid (HBV2.out.trans ((HB6.out.trans (HB8.out.mono HB6.out.size)).mono HBV2.out.size))
                have hwp:IntKind.i64.wrap ((p:Int) + 1) = (p:Int) + 1:=IntWalk.i64_in _ (by have:=HLP.out;have:=HLX.out.1;omega)
                clear x0 x1 x2 x3 s1 i0
                go_wp2_with fail
                go_roundw
                case rel => exact ⟨p + 1,by have:=HLP.out;omega,by go_num,HBE.out⟩
                case measure => simp [intOf];have:=HLP.out;omega
              · have s1:¬ ((p:Int) < (c.parts.length:Int)):=by omega
                clear hlt hp
                have hX9:wr.heap[ab]? = _:=(HBV2.out.block ab HABL.out).trans HX7.out
                have g1:wr.cell? ⟨ab,1,none⟩ = some (.slice rA 0 rk):=blk_at hX9 (i:=1) rfl
                have HY9:CAt wr yb 0 y:=HYL.out wr (HLO7.out.trans (HBV2.out.mono HI7.out.mat.n0le))
                have HX9:=Lib.hid hX9
                clear hX9
                go_wp2_with fail
                obtain ⟨V0,HV0⟩:∃ u,Hid (u = wr.drew):=⟨_,rfl⟩
                have hb0:Below wr.heap.size wr V0:=by rw [HV0.out];exact (Below.refl _ _).drew
                have HA4:=Lib.hid ((HI7.out.later HBV2.out).later hb0)
                have HDA:=do_any HA4.out.mat HWX.out HLX.out y HYW.out (HCY.out V0 HA4.out.bel) (by have:=HFY.out.rd;show y.rd.length ≤ 1000000;have h:y.rd.length ≤ 40:=this;omega) HAC.out (by have:=HA4.out.tk;have:=HII.out;omega) (HT.out.later HA4.out.bel) (fun hp q hq hm => by
                  obtain ⟨b',o',h4,h5,-⟩:=HYR.out.rr hp
                  rw [h4] at hq;cases hq
                  rw [low_free9 HA4.out.mat (k:=b') (by have:=HA4.out.low;omega)] at hm;exact hm) HFY.out.st HFY.out.t1 _ _ HD2.out
                rw [HA4.out.mb] at HDA
                (try simp only [code8,List.length_nil] at HDA)
                have HDA:=Lib.hid HDA
                have HLS:=Lib.hid (show yb < V0.heap.size ∧ ab < V0.heap.size from ⟨by have:=HY9.lt;have:=hb0.size;omega,by have:=HABL.out;have:=HBV2.out.size;have:=hb0.size;omega⟩)
                have HFQ:=Lib.hid (show own' yb = .free ∧ own' ab = .free from ⟨low_free9 HA4.out.mat HYN.out,HAF.out⟩)
                have HVS:=Lib.hid (show V0.heap[yb]? = wr.heap[yb]? ∧ V0.heap[ab]? = wr.heap[ab]? from by rw [HV0.out];exact ⟨rfl,rfl⟩)
                clear hb0 s1 g1
                refine wp_region_held_drew (S:=(fun W' => W'.heap[yb]? = wr.heap[yb]? ∧ W'.heap[ab]? = wr.heap[ab]?)) (by kernel_rfl) (by exact ⟨rfl,rfl⟩) (fun hHeld => ?_)
                rw [← HV0.out] at hHeld ⊢
                refine wpAnyH_take (i:=0) rfl (by kernel_rfl) (by kernel_rfl) (by kernel_rfl) (fun _ _ _ h => h) (Or.inl ⟨by rfl,by intro w hSw;(go_simp <;> with_reducible rfl)⟩) (by assumption) ?_
                (try simp only [Act.put,List.setIfInBounds_toArray,List.set_cons_zero,List.set_cons_succ,List.getElem_toArray,List.getElem_cons_zero,List.getElem_cons_succ])
                refine wpAnyH_take (i:=1) rfl (by kernel_rfl) (by kernel_rfl) (by kernel_rfl) (fun _ _ _ h => h) (Or.inl ⟨by rfl,by intro w hSw;have z0:=(cell_same9 hSw.2 0).trans (blk_at HX9.out (i:=0) rfl);have z1:=(cell_same9 hSw.2 1).trans (blk_at HX9.out (i:=1) rfl);have z2:=(cell_same9 hSw.2 2).trans (blk_at HX9.out (i:=2) rfl);have z3:=(cell_same9 hSw.2 3).trans (blk_at HX9.out (i:=3) rfl);(go_simp <;> with_reducible rfl)⟩) (by assumption) ?_
                (try simp only [Act.put,List.setIfInBounds_toArray,List.set_cons_zero,List.set_cons_succ,List.getElem_toArray,List.getElem_cons_zero,List.getElem_cons_succ])
                refine wpAnyH_take (i:=2) rfl (by kernel_rfl) (by kernel_rfl) (by kernel_rfl) (fun _ _ _ h => h) (Or.inl ⟨by rfl,by intro w hSw;(go_simp <;> with_reducible rfl)⟩) (by assumption) ?_
                (try simp only [Act.put,List.setIfInBounds_toArray,List.set_cons_zero,List.set_cons_succ,List.getElem_toArray,List.getElem_cons_zero,List.getElem_cons_succ])
                refine wpAnyH_take (i:=3) rfl (by kernel_rfl) (by kernel_rfl) (by kernel_rfl) (fun _ _ _ h => h) (Or.inl ⟨by rfl,by intro w hSw;(go_simp <;> with_reducible rfl)⟩) (by assumption) ?_
                (try simp only [Act.put,List.setIfInBounds_toArray,List.set_cons_zero,List.set_cons_succ,List.getElem_toArray,List.getElem_cons_zero,List.getElem_cons_succ])
                refine wpAnyH_take (i:=4) rfl (by kernel_rfl) (by kernel_rfl) (by kernel_rfl) (fun _ _ _ h => h) (Or.inl ⟨by rfl,by intro w hSw;(go_simp <;> with_reducible rfl)⟩) (by assumption) ?_
                (try simp only [Act.put,List.setIfInBounds_toArray,List.set_cons_zero,List.set_cons_succ,List.getElem_toArray,List.getElem_cons_zero,List.getElem_cons_succ])
                refine wpAnyH_take (i:=5) rfl (by kernel_rfl) (by kernel_rfl) (by kernel_rfl) (fun _ _ _ h => h) (Or.inl ⟨by rfl,by intro w hSw;(go_simp <;> with_reducible rfl)⟩) (by assumption) ?_
                (try simp only [Act.put,List.setIfInBounds_toArray,List.set_cons_zero,List.set_cons_succ,List.getElem_toArray,List.getElem_cons_zero,List.getElem_cons_succ])
                refine wpAnyH_take (i:=6) rfl (by kernel_rfl) (by kernel_rfl) (by kernel_rfl) (fun _ _ _ h => h) (held_loadC (by rfl) _ rfl yb 0 y rfl (fun w hSw => cat_same HY9 hSw.1)) (by assumption) ?_
                (try simp only [Act.put,List.setIfInBounds_toArray,List.set_cons_zero,List.set_cons_succ,List.getElem_toArray,List.getElem_cons_zero,List.getElem_cons_succ])
                refine wpAnyH_take (i:=8) rfl (by kernel_rfl) (by kernel_rfl) (by kernel_rfl) (fun _ _ _ h => h) (Or.inl ⟨by rfl,by intro w hSw;have z0:=(cell_same9 hSw.2 0).trans (blk_at HX9.out (i:=0) rfl);have z1:=(cell_same9 hSw.2 1).trans (blk_at HX9.out (i:=1) rfl);have z2:=(cell_same9 hSw.2 2).trans (blk_at HX9.out (i:=2) rfl);have z3:=(cell_same9 hSw.2 3).trans (blk_at HX9.out (i:=3) rfl);(go_simp <;> with_reducible rfl)⟩) (by assumption) ?_
                (try simp only [Act.put,List.setIfInBounds_toArray,List.set_cons_zero,List.set_cons_succ,List.getElem_toArray,List.getElem_cons_zero,List.getElem_cons_succ])
                refine wpAnyH_ready (rs:=[7]) (by kernel_rfl) (by simp) (AllReadyH.cons rfl (fun K hK => ?_) AllReadyH.nil)
                go_simp
                refine HDA.out.mono ?_
                rintro e5 w5 ⟨rB,rl,rfl,-,-,hT5⟩
                (try go_wp2_with fail)
                obtain ⟨own5,Z5,hI5,hlow5,hown5,honly5⟩:=HA4.out.turn hT5 (Nat.le_refl _)
                have HS5:=Lib.hid (And.intro ((honly5.block yb HLS.out.1 (by rw [HFQ.out.1];exact fun h => h)).trans HVS.out.1) ((honly5.block ab HLS.out.2 (by rw [HFQ.out.2];exact fun h => h)).trans HVS.out.2))
                have HB5':=Lib.hid hI5.bel
                have HZ5:=Lib.hid honly5.size
                have HSA:=Lib.hid (sameAns_eq z false 0 [] rB rA rl rk w5 (fun h => absurd h (by simp)) (fun h => absurd h (by simp)) (by simp))
                (try simp only [List.length_nil] at HSA)
                clear hT5 hI5 hlow5 hown5 honly5 hHeld
                refine hK.out _ _ (by exact HS5.out) (fun hHeld => ?_)
                clear hK K
                (try simp only [Act.put,List.setIfInBounds_toArray,List.set_cons_zero,List.set_cons_succ,List.getElem_toArray,List.getElem_cons_zero,List.getElem_cons_succ])
                refine wpAnyH_ready (rs:=[9]) (by kernel_rfl) (by simp) (AllReadyH.cons rfl (fun K hK => ?_) AllReadyH.nil)
                go_simp
                refine HSA.out.mono ?_
                rintro e8 w8 ⟨rfl,hb8⟩
                (try go_wp2_with fail)
                have HB8:=Lib.hid (HB5'.out.trans (hb8.mono HB5'.out.size))
                have HS8:=Lib.hid (And.intro ((hb8.block yb (Nat.lt_of_lt_of_le HLS.out.1 HZ5.out)).trans HS5.out.1) ((hb8.block ab (Nat.lt_of_lt_of_le HLS.out.2 HZ5.out)).trans HS5.out.2))
                clear hb8 hHeld
                refine hK.out _ _ (by exact HS8.out) (fun hHeld => ?_)
                clear hK K
                (try simp only [Act.put,List.setIfInBounds_toArray,List.set_cons_zero,List.set_cons_succ,List.getElem_toArray,List.getElem_cons_zero,List.getElem_cons_succ])
                refine wpAnyH_take (i:=10) rfl (by kernel_rfl) (by kernel_rfl) (by kernel_rfl) (fun _ _ _ h => h) (Or.inl ⟨by rfl,by intro w hSw;(go_simp <;> with_reducible rfl)⟩) (by assumption) ?_
                (try simp only [Act.put,List.setIfInBounds_toArray,List.set_cons_zero,List.set_cons_succ,List.getElem_toArray,List.getElem_cons_zero,List.getElem_cons_succ])
                refine wpAnyH_take (i:=11) rfl (by kernel_rfl) (by kernel_rfl) (by kernel_rfl) (fun _ _ _ h => h) (Or.inl ⟨by rfl,by intro w hSw;(go_simp <;> with_reducible rfl)⟩) (by assumption) ?_
                (try simp only [Act.put,List.setIfInBounds_toArray,List.set_cons_zero,List.set_cons_succ,List.getElem_toArray,List.getElem_cons_zero,List.getElem_cons_succ])
                refine wpAnyH_done (by kernel_rfl) ?_ _
                clear hHeld
                go_wp2_with fail
                (try go_ret)
                exact ⟨rfl,HB8.out⟩
end Go.Proofs.YtheeiklgblcjfaaGreatDoor
