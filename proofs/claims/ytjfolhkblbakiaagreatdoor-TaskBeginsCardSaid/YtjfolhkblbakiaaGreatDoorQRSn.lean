/- Texts of the ring, joined, what is used of them. No condition but those in the statements. -/
import Derived.BigQuiet
import Derived.BigRegion
import Derived.Deep.MidRow
import Derived.Deep.RegionHeld3
import Derived.Deep.Upon
import Derived.IntWalk
import Derived.Laws.EntriesVeiled
import Derived.LoopIn
import Derived.LoopNIn
import Derived.OpenShut
import Derived.OwnWalkIn
import Derived.RangeFuncBound
import Derived.RangeFuncBox
import Derived.RangeFuncCalls
import Derived.RangeFuncLeaves
import Derived.RangeFuncNested
import Derived.Shelf.Abstract
import Derived.Shelf.RegionOpen
import Derived.TacticsInMore
import Derived.Test.YtjfolhkblbakiaaGreatDoorQgE
namespace Go.Proofs.YtjfolhkblbakiaaGreatDoor
open Go.RowKit Go.Sort Go.Shelf
set_option linter.unusedVariables false
set_option linter.unusedSimpArgs false
set_option linter.unusedVariables false
set_option linter.unusedSimpArgs false
open Go.Proofs.YtjfolhkblbakiaaGreatDoor.Simp
set_option maxRecDepth 100000
set_option maxHeartbeats 6400000
attribute [local go_sem] Oper.semAt_some
theorem alloc_cellQ {w:World} {b o:Nat} {u:Value} {ob:Obj} (h:w.cell? ⟨b,o,none⟩ = some u):(w.alloc ob).cell? ⟨b,o,none⟩ = some u:=by
  have hb:Below w.heap.size w (w.alloc ob):=(Below.refl _ _).alloc (Nat.le_refl _) _
  exact (hb.cell (p:=⟨b,o,none⟩) (World.block_lt_of_cell? _ _ h)).trans h
theorem alloc_frozenQ {w:World} {b o:Nat} {u:Value} {ob:Obj} (h:w.frozen? ⟨b,o,none⟩ = false) (hc:w.cell? ⟨b,o,none⟩ = some u):(w.alloc ob).frozen? ⟨b,o,none⟩ = false:=by
  have hb:Below w.heap.size w (w.alloc ob):=(Below.refl _ _).alloc (Nat.le_refl _) _
  exact (hb.frozen (p:=⟨b,o,none⟩) (World.block_lt_of_cell? _ _ hc)).trans h
theorem newSt_in (c:Cfg) (x:CfgAt) (k:Nat) (F:Qr) (own:Int) (data:List Int) (db dof dc:Nat) (w:World) (hx:CfgIn w w.heap.size c x) (wx:CfgWf c) (lx:CfgFew c) (hF:QrOf c k F) (h0:0 ≤ own ∧ own ≤ 4294967295)
    (hd:∃ cs ty mm,w.heap[db]? = some (.cells cs ty mm) ∧ ∀ j,j < data.length → cs[dof + j]? = some (.int .u32 (data.getD j 0))) (hn:1 ≤ data.length ∧ data.length ≤ F.n) :
    CallsIn Fence.wide 5 Tryz.prog 74 #[.agg (cfgCells c x),.int .i64 (k:Int),.int .u32 own,.slice (some ⟨db,dof,none⟩) data.length dc] w fun e w' => ∃ ob S,e = .returned (.pointer (some ⟨ob,0,none⟩)) ∧ SAt w' S ob F (2 * k + 1) (startQ data own) ∧ (∀ k,S k → w.heap.size ≤ k) ∧ Below w.heap.size w w':=by
  obtain ⟨W1,HW1,hB1,hWs1,bx⟩:=one_cbox w c x 29
  obtain ⟨W,HW⟩:∃ u,Hid (u = W1.alloc (.cells #[.slice (some ⟨db,dof,none⟩) data.length dc] 34)):=⟨_,rfl⟩
  have hBW:Below W1.heap.size W1 W:=by rw [HW.out];exact (Below.refl _ _).alloc (Nat.le_refl _) _
  have hB:=hB1.trans (hBW.mono hB1.size)
  obtain ⟨bd,hbd⟩:∃ b,b = W1.heap.size:=⟨_,rfl⟩
  have hsW:W.heap.size = w.heap.size + 2 ∧ bd = w.heap.size + 1:=⟨by rw [HW.out];simp [hWs1],by omega⟩
  have HBD:=Lib.hid (show W.heap[bd]? = some (.cells #[.slice (some ⟨db,dof,none⟩) data.length dc] 34 (0,0)) from by rw [HW.out];exact heap_new_q _ _ hbd)
  have HBG:=Lib.hid (begin_b c x k F own W (hx.later hB) wx lx hF h0)
  have HSW:=Lib.hid hsW
  have HBW:=Lib.hid hB
  obtain ⟨pa,pc,ca,cc,aa,ac,ba,bc⟩:=x
  obtain ⟨w0,w1,w2,w3,w4,w5⟩:=bx _ hBW
  simp only [cfgCells] at HW1 HBG ⊢
  have hlow:=hF.low
  have HDD:=Lib.hid hd
  have HBDE:=Lib.hid hbd
  clear hx hB1 hBW hB hsW bx hWs1 hd hbd
  refine callsIn_of_wp_marks Tryz.func74 rfl trivial ?_ rfl
  simp only [Tryz.ntmps74,List.size_toArray,List.length_cons,List.length_nil,Nat.reduceAdd,Nat.reduceSub,Array.replicate_succ,Array.replicate_zero,List.push_toArray,List.append_toArray,List.nil_append,List.cons_append]
  gi_wp2_with (first | (rw [← HW1.out]) | (rw [← HW.out]))
  simp only [← HBDE.out]
  refine ⟨trivial,(callsIn_wide.2 HBG.out).mono ?_⟩
  rintro e v1 ⟨ob,rfl,hob,hlo,hb1⟩
  obtain ⟨bo,hbo⟩:∃ b,b = v1.heap.size:=⟨_,rfl⟩
  obtain ⟨V,HV⟩:∃ u,Hid (u = v1.alloc (.cells #[.pointer (some ⟨ob,0,none⟩)] 159)):=⟨_,rfl⟩
  have hbV:Below v1.heap.size v1 V:=by rw [HV.out];exact (Below.refl _ _).alloc (Nat.le_refl _) _
  have hBO:V.heap[bo]? = some (.cells #[.pointer (some ⟨ob,0,none⟩)] 159 (0,0)):=by rw [HV.out];exact heap_new_q _ _ hbo
  have hOB:OBlk V ob own F.d F.n F.src F.dst (cellQ F own) (2 * k + 1) (.slice none 0 0):=hob.at_ (hbV.block _ hob.lt)
  have hBW2:Below W.heap.size W V:=hb1.trans (hbV.mono hb1.size)
  have hBD2:V.heap[bd]? = some (.cells #[.slice (some ⟨db,dof,none⟩) data.length dc] 34 (0,0)):=(hBW2.block _ (Array.getElem?_eq_some_iff.1 HBD.out).1).trans HBD.out
  have co:V.cell? ⟨bo,0,none⟩ = some (.pointer (some ⟨ob,0,none⟩)):=blk_cell hBO rfl
  have cd:V.cell? ⟨bd,0,none⟩ = some (.slice (some ⟨db,dof,none⟩) data.length dc):=blk_cell hBD2 rfl
  have c7:V.cell? ⟨ob,7,none⟩ = some (.slice none 0 0):=hOB.cell rfl
  have g7:=hOB.frozen 7
  have hbol:w.heap.size ≤ bo:=by have:=hBW2.size;have:=hb1.size;have:=HSW.out;omega
  have hobo:ob ≠ bo:=by have:=hob.lt;omega
  have hobd:ob ≠ bd:=by have:=HSW.out;omega
  have HOB:=Lib.hid hOB;have HBO:=Lib.hid hBO;have HBD2:=Lib.hid hBD2;have HBW2:=Lib.hid hBW2;have HBOE:=Lib.hid hbo
  have HLO:=Lib.hid (show w.heap.size ≤ ob by have:=HSW.out;omega)
  have hdl17:data.length ≤ 16:=by have:=hF.low;omega
  have HML:=Lib.hid (fun (W':World) => mk_len_b ob data.length W')
  clear hob hb1 hbV hBO hOB hBW2 hBD2 hbo hlo w0 w1 w2 w3 w4 w5
  gi_wp2_with (first | (simp only [← HBOE.out];rw [← HV.out]))
  refine wpIn_wide.2 ?_
  refine wp_region_noPanic ?_
  refine wp_region_held_drew (S:=(fun W' => W'.cell? ⟨bo,0,none⟩ = some (.pointer (some ⟨ob,0,none⟩)) ∧ W'.cell? ⟨bd,0,none⟩ = some (.slice (some ⟨db,dof,none⟩) data.length dc))) (by kernel_rfl) (by exact ⟨co,cd⟩) (fun hHeld => ?_)
  refine wpAnyH_take (i:=0) rfl (by kernel_rfl) (by kernel_rfl) (by kernel_rfl) (fun _ _ _ h => h) (Or.inl ⟨by rfl,by intro w hSw;(skip);(go_simp <;> with_reducible rfl)⟩) (by assumption) ?_
  (try simp only [Act.put,List.setIfInBounds_toArray,List.set_cons_zero,List.set_cons_succ,List.getElem_toArray,List.getElem_cons_zero,List.getElem_cons_succ])
  refine wpAnyH_take (i:=1) rfl (by kernel_rfl) (by kernel_rfl) (by kernel_rfl) (fun _ _ _ h => h) (Or.inl ⟨by rfl,by intro w hSw;(skip);(go_simp <;> with_reducible rfl)⟩) (by assumption) ?_
  (try simp only [Act.put,List.setIfInBounds_toArray,List.set_cons_zero,List.set_cons_succ,List.getElem_toArray,List.getElem_cons_zero,List.getElem_cons_succ])
  refine wpAnyH_take (i:=2) rfl (by kernel_rfl) (by kernel_rfl) (by kernel_rfl) (fun _ _ _ h => h) (Or.inl ⟨by rfl,by intro w hSw;(skip);(go_simp <;> with_reducible rfl)⟩) (by assumption) ?_
  (try simp only [Act.put,List.setIfInBounds_toArray,List.set_cons_zero,List.set_cons_succ,List.getElem_toArray,List.getElem_cons_zero,List.getElem_cons_succ])
  refine wpAnyH_take (i:=3) rfl (by kernel_rfl) (by kernel_rfl) (by kernel_rfl) (fun _ _ _ h => h) (Or.inl ⟨by rfl,by intro w hSw;(skip);(go_simp <;> with_reducible rfl)⟩) (by assumption) ?_
  (try simp only [Act.put,List.setIfInBounds_toArray,List.set_cons_zero,List.set_cons_succ,List.getElem_toArray,List.getElem_cons_zero,List.getElem_cons_succ])
  refine wpAnyH_take (i:=4) rfl (by kernel_rfl) (by kernel_rfl) (by kernel_rfl) (fun _ _ _ h => h) (Or.inl ⟨by rfl,by intro w hSw;(skip);(go_simp <;> with_reducible rfl)⟩) (by assumption) ?_
  (try simp only [Act.put,List.setIfInBounds_toArray,List.set_cons_zero,List.set_cons_succ,List.getElem_toArray,List.getElem_cons_zero,List.getElem_cons_succ])
  refine wpAnyH_take (i:=5) rfl (by kernel_rfl) (by kernel_rfl) (by kernel_rfl) (fun _ _ _ h => h) (Or.inl ⟨by rfl,by intro w hSw;(skip);(go_simp <;> with_reducible rfl)⟩) (by assumption) ?_
  (try simp only [Act.put,List.setIfInBounds_toArray,List.set_cons_zero,List.set_cons_succ,List.getElem_toArray,List.getElem_cons_zero,List.getElem_cons_succ])
  refine wpAnyH_ready (rs:=[6]) (by kernel_rfl) (by simp) (AllReadyH.cons rfl (fun K hK => ?_) AllReadyH.nil)
  go_simp
  refine (HML.out _).mono ?_
  rintro e v2 ⟨rfl,hb2,hs2,y1,y2⟩
  have HS2:=Lib.hid hs2
  clear hs2
  have obl:ob < V.drew.heap.size:=HOB.out.lt
  have e7:v2.cell? ⟨ob,7,none⟩ = some (.slice none 0 0):=(hb2.cell (p:=⟨ob,7,none⟩) obl).trans c7
  have f7:v2.frozen? ⟨ob,7,none⟩ = false:=(hb2.frozen (p:=⟨ob,7,none⟩) obl).trans g7
  refine hK.out _ _ (by exact ⟨(hb2.cell (p:=⟨bo,0,none⟩) (World.block_lt_of_cell? _ _ (And.left hHeld))).trans (And.left hHeld),(hb2.cell (p:=⟨bd,0,none⟩) (World.block_lt_of_cell? _ _ (And.right hHeld))).trans (And.right hHeld)⟩) (fun hHeld => ?_)
  clear hK K
  (try simp only [Act.put,List.setIfInBounds_toArray,List.set_cons_zero,List.set_cons_succ,List.getElem_toArray,List.getElem_cons_zero,List.getElem_cons_succ])
  refine wpAnyH_ready (rs:=[7]) (by kernel_rfl) (by simp) (AllReadyH.cons rfl (fun K hK => ?_) AllReadyH.nil)
  go_simp
  obtain ⟨v4,HV4⟩:∃ u,Hid (u = v2.alloc (.cells #[.func (.func 102) #[.pointer (some ⟨ob,0,none⟩)] #[],.func (.func 148) #[] #[.pointer (some ⟨V.heap.size,0,none⟩),.pointer (some ⟨V.heap.size + 1,0,none⟩)]] 204)):=⟨_,rfl⟩
  rw [← HV4.out]
  have e8:v4.cell? ⟨ob,7,none⟩ = some (.slice none 0 0):=by rw [HV4.out];exact alloc_cellQ e7
  have f8:v4.frozen? ⟨ob,7,none⟩ = false:=by rw [HV4.out];exact alloc_frozenQ f7 e7
  refine hK.out _ _ (by rw [HV4.out];exact ⟨alloc_cellQ (And.left hHeld),alloc_cellQ (And.right hHeld)⟩) (fun hHeld => ?_)
  clear hK K
  (try simp only [Act.put,List.setIfInBounds_toArray,List.set_cons_zero,List.set_cons_succ,List.getElem_toArray,List.getElem_cons_zero,List.getElem_cons_succ])
  refine wpAnyH_take (i:=8) rfl (by kernel_rfl) (by kernel_rfl) (by kernel_rfl) (fun _ _ _ h => h) (Or.inl ⟨by rfl,by intro w hSw;(skip);(go_simp <;> with_reducible rfl)⟩) (by assumption) ?_
  (try simp only [Act.put,List.setIfInBounds_toArray,List.set_cons_zero,List.set_cons_succ,List.getElem_toArray,List.getElem_cons_zero,List.getElem_cons_succ])
  refine wpAnyH_take (i:=9) rfl (by kernel_rfl) (by kernel_rfl) (by kernel_rfl) (fun _ _ _ h => h) (Or.inl ⟨by rfl,by intro w hSw;(skip);(go_simp <;> with_reducible rfl)⟩) (by assumption) ?_
  (try simp only [Act.put,List.setIfInBounds_toArray,List.set_cons_zero,List.set_cons_succ,List.getElem_toArray,List.getElem_cons_zero,List.getElem_cons_succ])
  refine wpAnyH_ready (rs:=[10]) (by kernel_rfl) (by simp) (AllReadyH.cons rfl (fun K hK => ?_) AllReadyH.nil)
  go_simp
  refine hK.out _ _ (by exact ⟨cell_set_ne (And.left hHeld) hobo,cell_set_ne (And.right hHeld) hobd⟩) (fun hHeld => ?_)
  clear hK K
  (try simp only [Act.put,List.setIfInBounds_toArray,List.set_cons_zero,List.set_cons_succ,List.getElem_toArray,List.getElem_cons_zero,List.getElem_cons_succ])
  refine wpAnyH_done (by kernel_rfl) ?_ _
  refine NoPanic.normal ?_
  rw [HV4.out]
  clear hHeld e8 f8 e7 f7 obl
  obtain ⟨ce,hce⟩:∃ ce,cellQ F own = ce:=⟨_,rfl⟩
  rw [hce] at HOB
  have HCE:=Lib.hid hce
  obtain ⟨g,hg⟩:∃ g,g = v2.heap.size:=⟨_,rfl⟩
  obtain ⟨X,HX⟩:∃ u,Hid (u = (v2.alloc (.cells #[.func (.func 102) #[.pointer (some ⟨ob,0,none⟩)] #[],.func (.func 148) #[] #[.pointer (some ⟨V.heap.size,0,none⟩),.pointer (some ⟨V.heap.size + 1,0,none⟩)]] 204)).setCell ⟨ob,7,none⟩ (.slice (some ⟨g,0,none⟩) 2 2)):=⟨_,rfl⟩
  have hvs:=hb2.size
  have hVd:V.drew.heap.size = V.heap.size:=rfl
  have hga:(v2.alloc (.cells #[.func (.func 102) #[.pointer (some ⟨ob,0,none⟩)] #[],.func (.func 148) #[] #[.pointer (some ⟨V.heap.size,0,none⟩),.pointer (some ⟨V.heap.size + 1,0,none⟩)]] 204)).heap[g]? = some (.cells #[.func (.func 102) #[.pointer (some ⟨ob,0,none⟩)] #[],.func (.func 148) #[] #[.pointer (some ⟨V.heap.size,0,none⟩),.pointer (some ⟨V.heap.size + 1,0,none⟩)]] 204 (0,0)):=heap_new_q _ _ hg
  have hgo:g ≠ ob:=by have:=HOB.out.lt;omega
  have hXK:∀ (b:Nat) (o:Obj),v2.heap[b]? = some o → b ≠ ob → X.heap[b]? = some o:=fun b o h h1 => by
    rw [HX.out,Below.heap_setCell _ _ _ _ (by simpa using h1)]
    exact (Below.heap_alloc _ _ _ (Array.getElem?_eq_some_iff.1 h).1).trans h
  have hXg:X.heap[g]? = some (.cells #[.func (.func 102) #[.pointer (some ⟨ob,0,none⟩)] #[],.func (.func 148) #[] #[.pointer (some ⟨V.heap.size,0,none⟩),.pointer (some ⟨V.heap.size + 1,0,none⟩)]] 204 (0,0)):=by rw [HX.out,Below.heap_setCell _ _ _ _ (by simpa using hgo)];exact hga
  have hV2:∀ (b:Nat) (o:Obj),V.heap[b]? = some o → v2.heap[b]? = some o:=fun b o h => (hb2.block b (Array.getElem?_eq_some_iff.1 h).1).trans h
  have hU0:UndX w X w.heap.size ob bo own F ce (2 * k + 1) (.slice (some ⟨g,0,none⟩) 2 2) [.func (.func 102) #[.pointer (some ⟨ob,0,none⟩)] #[],.func (.func 148) #[] #[.pointer (some ⟨V.heap.size,0,none⟩),.pointer (some ⟨V.heap.size + 1,0,none⟩)]]:=by
    refine ⟨?_,?_,?_,hXK _ _ (hV2 _ _ HBO.out) (Ne.symm hobo),HLO.out,hbol,Nat.le_refl _⟩
    · have h1:Below w.heap.size w v2:=HBW.out.trans ((HBW2.out.trans (Below.trans (Below.refl _ _).drew (hb2.mono (by have:=HBW2.out.size;omega)))).mono HBW.out.size)
      rw [HX.out]
      exact (h1.alloc h1.size _).setCell (p:=⟨ob,7,none⟩) HLO.out _
    · rw [HX.out]
      exact OBlk.setSteps (sv:=.slice none 0 0) ((Below.heap_alloc _ _ _ (by have:=HOB.out.lt;omega)).trans (hV2 _ _ HOB.out)) _
    · exact ⟨rfl,.inr ⟨g,0,2,_,rfl,by have:=HBW2.out.size;have:=HBW.out.size;omega,hXg,Nat.le_refl _,by unfold maxLen;omega,by simp,rfl⟩⟩
  have hl1:X.heap[V.heap.size]? = some (.cells #[.pointer (some ⟨ob,0,none⟩)] 159 (0,0)):=hXK _ _ y1 (by have:=HOB.out.lt;omega)
  have hl2:X.heap[(V.heap.size + 1)]? = some (.cells #[.int .i64 (data.length:Int)] 3 (0,0)):=hXK _ _ y2 (by have:=HOB.out.lt;omega)
  have hXd:X.heap[bd]? = some (.cells #[.slice (some ⟨db,dof,none⟩) data.length dc] 34 (0,0)):=hXK _ _ (hV2 _ _ HBD2.out) (Ne.symm hobd)
  have ko:X.cell? ⟨bo,0,none⟩ = some (.pointer (some ⟨ob,0,none⟩)):=blk_cell hU0.box rfl
  have kd:X.cell? ⟨bd,0,none⟩ = some (.slice (some ⟨db,dof,none⟩) data.length dc):=blk_cell hXd rfl
  have HU0:=Lib.hid hU0;have HL1:=Lib.hid hl1;have HL2:=Lib.hid hl2;have HXD:=Lib.hid hXd;have HG:=Lib.hid hg
  obtain ⟨d1,hd1⟩:∃ b,b = V.heap.size:=⟨_,rfl⟩
  have HD1:=Lib.hid hd1
  have hd1l:w.heap.size ≤ d1:=by have:=HBW2.out.size;have:=HBW.out.size;omega
  have HMS:=Lib.hid (mk_msg_b data.length 105 #[.pointer (some ⟨bo,0,none⟩),.pointer (some ⟨bd,0,none⟩)] X)
  clear hU0 hl1 hl2 hXd hXg hXK hV2 hga hgo hvs hVd hb2 y1 y2 co cd c7 g7 hg hd1
  gi_wp2_with (first | (simp only [← HG.out];rw [← HX.out]))
  refine ⟨trivial,(callsIn_wide.2 HMS.out).mono ?_⟩
  rintro e v3 ⟨rfl,hb3,hs3,z1,z2⟩
  simp only [← HD1.out]
  rw [← HD1.out] at HU0 HL1 HL2
  have hb3w:=hb3
  have hU3:=HU0.out.later hb3
  have hk3:=fun (b:Nat) (o:Obj) (h:X.heap[b]? = some o) => (hb3.block b (Array.getElem?_eq_some_iff.1 h).1).trans h
  have HL13:=Lib.hid (hk3 _ _ HL1.out)
  have HL23:=Lib.hid (hk3 _ _ HL2.out)
  have hdd3:∃ cs ty mm,db < w.heap.size ∧ v3.heap[db]? = some (.cells cs ty mm) ∧ ∀ j,j < data.length → cs[dof + j]? = some (.int .u32 (data.getD j 0)):=by
    obtain ⟨cs,ty,mm,h1,h2⟩:=HDD.out
    exact ⟨cs,ty,mm,(Array.getElem?_eq_some_iff.1 h1).1,(hU3.below.block db (Array.getElem?_eq_some_iff.1 h1).1).trans h1,h2⟩
  obtain ⟨bn,hbn⟩:∃ b,b = X.heap.size:=⟨_,rfl⟩
  obtain ⟨bf,hbf⟩:∃ b,b = X.heap.size + 1:=⟨_,rfl⟩
  rw [← hbn] at z1
  rw [← hbf] at z2
  have HTL:=Lib.hid (msgS_tells (5 - 1) (by omega) ob bn bf bo bd db data.length dof dc data w.heap.size (by omega) v3 z1 z2 hU3.box hU3.below.size (hk3 _ _ HXD.out) hdd3)
  have HBN:=Lib.hid hbn;have HBF:=Lib.hid hbf
  have hwv:w.heap.size ≤ v3.heap.size:=hU3.below.size
  have HU3:=Lib.hid hU3
  obtain ⟨i0,hi0,hz0,hz1,hz2⟩:=info_parts Tryz.infoF12
  clear ko kd hb3w hU3 hk3 hdd3 z1 z2 hbn hbf hb3 hs3
  simp only [← HBF.out]
  simp only [← HBN.out]
  gi_wp2
  refine wpIn_rangeFunc_tells rfl (by omega) (gf:=150) (lb:=#[.pointer (some ⟨bn,0,none⟩),.pointer (some ⟨bf,0,none⟩)]) rfl trivial (enters_of Tryz.func150 (by kernel_rfl) rfl) HTL.out (fun h k => h.trans k) (fun W lp o o' hl ho hc _ => ⟨stands_put o' ho hc,fun i hi => by first | exact World.putObj_heap_other (by omega) | simp [World.putObj,show lp ≠ i by omega]⟩) (Below.refl _ _) (fun _ => rfl)
    (fun (pre:List Value) (Y:World) => ∃ sv,UndX w Y w.heap.size ob bo own F ce (2 * k + 1) sv (([.func (.func 102) #[.pointer (some ⟨ob,0,none⟩)] #[],.func (.func 148) #[] #[.pointer (some ⟨d1,0,none⟩),.pointer (some ⟨d1 + 1,0,none⟩)]]:List Value) ++ pre) ∧ Stands v3 Y ∧ pre.length ≤ data.length ∧ ∀ (j:Nat) (v:Value),pre[j]? = some v → IsWord ob j (data.getD j 0) v3.heap.size v Y)
    ?hI ?hG ⟨_,HU3.out,Stands.refl _,Nat.zero_le _,(fun j v h => by cases h)⟩ ?a1 ?assign ?body ?done
  case hI =>
    rintro pre Y Z row ⟨sv,h1,h2,h3,h4⟩ hg hr
    have hst:=stands_grown hg (fun r e => (hr r e).2)
    exact ⟨sv,h1.turn hg (fun r e => ⟨Nat.le_trans hwv (hr r e).1,(hr r e).2⟩),h2.trans hst,h3,fun j v hv => (h4 j v hv).stands hst⟩
  case hG =>
    intro pre v Y Z row h hg hr
    exact IsWord.stands h (stands_grown hg (fun r e => (hr r e).2))
  case assign =>
    intro lp v Y K hK
    gi_wp2
    exact hK
  case body =>
    rintro lp pre v Y ⟨sv,hU,hst,hpl,hw⟩ hG hlt
    obtain ⟨a,cp,rfl,hcp1,hcp2⟩:=hU.row.slice
    have hG0:=hG
    obtain ⟨b1,b2,b3,rfl,-⟩:=hG
    have co:Y.cell? ⟨bo,0,none⟩ = some (.pointer (some ⟨ob,0,none⟩)):=blk_cell hU.box rfl
    have c7:Y.cell? ⟨ob,7,none⟩ = some (.slice a (([.func (.func 102) #[.pointer (some ⟨ob,0,none⟩)] #[],.func (.func 148) #[] #[.pointer (some ⟨d1,0,none⟩),.pointer (some ⟨d1 + 1,0,none⟩)]]:List Value) ++ pre).length cp):=hU.blk.cell rfl
    have g7:=hU.blk.frozen 7
    have hne:=hU.ne
    have HUB:=Lib.hid hU.below
    obtain ⟨fs,hfs⟩:∃ fs,fs = ([.func (.func 102) #[.pointer (some ⟨ob,0,none⟩)] #[],.func (.func 148) #[] #[.pointer (some ⟨d1,0,none⟩),.pointer (some ⟨d1 + 1,0,none⟩)]]:List Value) ++ pre:=⟨_,rfl⟩
    have hfl:fs.length ≤ 18:=by rw [hfs];simp;omega
    rw [← hfs] at hU c7
    have HW:=Lib.hid hw;have HST:=Lib.hid hst;have HGG:=Lib.hid hG0;have HFS:=Lib.hid hfs
    clear hw hst hG0 hfs
    have hone:∀ u ∈ ([.func (.func 151) #[] #[.pointer (some ⟨b1,0,none⟩),.pointer (some ⟨b2,0,none⟩),.pointer (some ⟨b3,0,none⟩)]]:List Value),u.oneCell' = true:=by simp [Value.oneCell']
    gi_wp2
    refine wpIn_region_till (fun W' => W'.cell? ⟨bo,0,none⟩ = some (.pointer (some ⟨ob,0,none⟩)) ∧ W'.cell? ⟨ob,7,none⟩ = some (.slice a fs.length cp)) 10 (by kernel_rfl) (fun ⟨_,_,h⟩ => h) (by kernel_rfl) (by exact ⟨co,c7⟩) (fun hHeld => ?_)
    refine till_load (i:=0) rfl (by kernel_rfl) (by kernel_rfl) (by kernel_rfl) (fun _ _ _ h => h) (by kernel_rfl) (by kernel_rfl) (by kernel_rfl) (Or.inl ⟨by rfl,by intro w hSw;(have z0:=And.left hSw;have z1:=And.right hSw);(go_simp <;> with_reducible rfl)⟩) (by assumption) ?_
    (try simp only [Act.put,List.setIfInBounds_toArray,List.set_cons_zero,List.set_cons_succ,List.getElem_toArray,List.getElem_cons_zero,List.getElem_cons_succ])
    refine till_load (i:=1) rfl (by kernel_rfl) (by kernel_rfl) (by kernel_rfl) (fun _ _ _ h => h) (by kernel_rfl) (by kernel_rfl) (by kernel_rfl) (Or.inl ⟨by rfl,by intro w hSw;(have z0:=And.left hSw;have z1:=And.right hSw);(go_simp <;> with_reducible rfl)⟩) (by assumption) ?_
    (try simp only [Act.put,List.setIfInBounds_toArray,List.set_cons_zero,List.set_cons_succ,List.getElem_toArray,List.getElem_cons_zero,List.getElem_cons_succ])
    refine till_take (i:=2) rfl (by kernel_rfl) (by kernel_rfl) (by kernel_rfl) (fun _ _ _ h => h) (by kernel_rfl) (Or.inl ⟨by rfl,by intro w _;(go_simp <;> with_reducible rfl)⟩) (by assumption) ?_
    (try simp only [Act.put,List.setIfInBounds_toArray,List.set_cons_zero,List.set_cons_succ,List.getElem_toArray,List.getElem_cons_zero,List.getElem_cons_succ])
    refine till_take (i:=3) rfl (by kernel_rfl) (by kernel_rfl) (by kernel_rfl) (fun _ _ _ h => h) (by kernel_rfl) (Or.inl ⟨by rfl,by intro w _;(go_simp <;> with_reducible rfl)⟩) (by assumption) ?_
    (try simp only [Act.put,List.setIfInBounds_toArray,List.set_cons_zero,List.set_cons_succ,List.getElem_toArray,List.getElem_cons_zero,List.getElem_cons_succ])
    refine till_load (i:=4) rfl (by kernel_rfl) (by kernel_rfl) (by kernel_rfl) (fun _ _ _ h => h) (by kernel_rfl) (by kernel_rfl) (by kernel_rfl) (Or.inl ⟨by rfl,by intro w hSw;(have z0:=And.left hSw;have z1:=And.right hSw);(go_simp <;> with_reducible rfl)⟩) (by assumption) ?_
    (try simp only [Act.put,List.setIfInBounds_toArray,List.set_cons_zero,List.set_cons_succ,List.getElem_toArray,List.getElem_cons_zero,List.getElem_cons_succ])
    refine till_take (i:=5) rfl (by kernel_rfl) (by kernel_rfl) (by kernel_rfl) (fun _ _ _ h => h) (by kernel_rfl) (Or.inl ⟨by rfl,by intro w _;(go_simp <;> with_reducible rfl)⟩) (by assumption) ?_
    (try simp only [Act.put,List.setIfInBounds_toArray,List.set_cons_zero,List.set_cons_succ,List.getElem_toArray,List.getElem_cons_zero,List.getElem_cons_succ])
    have hU5:=hU
    refine till_one (i:=6) (by kernel_rfl) rfl (fun K hK => ?_)
    go_simp
    obtain ⟨w5,hw5⟩:∃ u,Hid (u = (Y.alloc (.cells #[.func (.func 151) #[] #[.pointer (some ⟨b1,0,none⟩),.pointer (some ⟨b2,0,none⟩),.pointer (some ⟨b3,0,none⟩)]] 204)).drew):=⟨_,rfl⟩
    rw [← hw5.out]
    have hl5:Below Y.heap.size Y w5:=by rw [hw5.out];exact ((Below.refl _ _).alloc (Nat.le_refl _) _).drew
    have hE5:w5.heap[Y.heap.size]? = some (.cells #[.func (.func 151) #[] #[.pointer (some ⟨b1,0,none⟩),.pointer (some ⟨b2,0,none⟩),.pointer (some ⟨b3,0,none⟩)]] 204 (0,0)):=by rw [hw5.out];exact heap_alloc_new _ _
    have hU6:=hU5.later hl5
    obtain ⟨g5,hg5⟩:∃ b,b = Y.heap.size:=⟨_,rfl⟩
    rw [← hg5] at hE5
    have HG5:=Lib.hid hg5
    (try simp only [← HG5.out])
    have HL5:=Lib.hid hl5
    clear hl5 hg5
    refine hK.out _ _ (by exact ⟨blk_cell hU6.box rfl,hU6.blk.cell rfl⟩) (fun hHeld => ?_)
    clear hK K
    (try simp only [Act.put,List.setIfInBounds_toArray,List.set_cons_zero,List.set_cons_succ,List.getElem_toArray,List.getElem_cons_zero,List.getElem_cons_succ])
    refine till_one (i:=7) (by kernel_rfl) rfl (fun K hK => ?_)
    refine step_append_off rfl _ _ 206 rfl (w.heap.size) 204 i0 .nilFunc 1 8 Tryz.underlying206 hi0 hz0 hz1 hz2 rfl (by decide) _ fs.length fs rfl hU6.row ⟨g5,0,none⟩ 1 1 [.func (.func 151) #[] #[.pointer (some ⟨b1,0,none⟩),.pointer (some ⟨b2,0,none⟩),.pointer (some ⟨b3,0,none⟩)]] rfl rfl (news_block hE5) hone (by unfold maxLen;omega) (by omega) (Nat.le_trans hU6.lo.2.2 hU6.below.size) ?_
    intro v' w6 hown' hgr hfr
    obtain ⟨hUZ,hSZ,hKZ,hb6,hx6,hOZ⟩:=hU6.app (xs:=[.func (.func 151) #[] #[.pointer (some ⟨b1,0,none⟩),.pointer (some ⟨b2,0,none⟩),.pointer (some ⟨b3,0,none⟩)]]) hown' hgr rfl
    obtain ⟨a',cp',rfl,-,-⟩:=hown'.slice
    have e7:=hb6.cell (j:=7) rfl
    have f7:=hb6.frozen 7
    have HUZ:=Lib.hid hUZ;have HSZ:=Lib.hid hSZ;have HKZ:=Lib.hid hKZ;have HOZ:=Lib.hid hOZ;have HFR:=Lib.hid hfr
    clear hUZ hSZ hKZ hOZ hown' hgr hfr hE5 hU6
    refine hK.out _ _ (by exact ⟨blk_cell hx6 rfl,hb6.cell rfl⟩) (fun hHeld => ?_)
    clear hK K
    (try simp only [Act.put,List.setIfInBounds_toArray,List.set_cons_zero,List.set_cons_succ,List.getElem_toArray,List.getElem_cons_zero,List.getElem_cons_succ])
    refine till_take (i:=8) rfl (by kernel_rfl) (by kernel_rfl) (by kernel_rfl) (fun _ _ _ h => h) (by kernel_rfl) (Or.inl ⟨by rfl,by intro w _;(go_simp <;> with_reducible rfl)⟩) (by assumption) ?_
    (try simp only [Act.put,List.setIfInBounds_toArray,List.set_cons_zero,List.set_cons_succ,List.getElem_toArray,List.getElem_cons_zero,List.getElem_cons_succ])
    refine till_take (i:=9) rfl (by kernel_rfl) (by kernel_rfl) (by kernel_rfl) (fun _ _ _ h => h) (by kernel_rfl) (Or.inl ⟨by rfl,by intro w _;(go_simp <;> with_reducible rfl)⟩) (by assumption) ?_
    (try simp only [Act.put,List.setIfInBounds_toArray,List.set_cons_zero,List.set_cons_succ,List.getElem_toArray,List.getElem_cons_zero,List.getElem_cons_succ])
    clear hHeld
    refine till_last (by kernel_rfl) rfl (fun K hK => ?_)
    go_simp
    refine hK.out _ _ ?_
    clear hK K
    (try simp only [Act.put,List.setIfInBounds_toArray,List.set_cons_zero,List.set_cons_succ,List.getElem_toArray,List.getElem_cons_zero,List.getElem_cons_succ])
    refine till_done (by kernel_rfl) ?_ _
    gi_wp2
    have hs5:Stands Y _:=(Stands.below HL5.out).trans HSZ.out
    refine ⟨(KeepsOthers.from ⟨HL5.out.size,fun i o hi _ => (HL5.out.block i (Array.getElem?_eq_some_iff.1 hi).1).trans hi⟩ _).trans (HKZ.out.from _),⟨hs5,fun i hi => (HUZ.out.below.block i hi).trans (HUB.out.block i hi).symm⟩,.slice a' (fs.length + 1) cp',?_,HST.out.trans hs5,by simp;omega,fun j v hv => ?_⟩
    · rw [← List.append_assoc,← HFS.out];exact HUZ.out
    · rcases Nat.lt_or_ge j pre.length with hj | hj
      · rw [List.getElem?_append_left hj] at hv
        exact (HW.out j v hv).stands hs5
      · have hje:j = pre.length:=by
          have:=(List.getElem?_eq_some_iff.1 hv).1
          simp at this;omega
        subst hje
        simp at hv
        subst hv
        exact HGG.out.stands hs5
  case done =>
    rintro D xs Y hD hxl ⟨sv,hU,hst,hpl,hw⟩ hDf
    obtain ⟨a,cp,rfl,hcp1,hcp2⟩:=hU.row.slice
    have co:Y.cell? ⟨bo,0,none⟩ = some (.pointer (some ⟨ob,0,none⟩)):=blk_cell hU.box rfl
    have c7:Y.cell? ⟨ob,7,none⟩ = some (.slice a (([.func (.func 102) #[.pointer (some ⟨ob,0,none⟩)] #[],.func (.func 148) #[] #[.pointer (some ⟨d1,0,none⟩),.pointer (some ⟨d1 + 1,0,none⟩)]]:List Value) ++ xs).length cp):=hU.blk.cell rfl
    have g7:=hU.blk.frozen 7
    obtain ⟨fs,hfs⟩:∃ fs,fs = ([.func (.func 102) #[.pointer (some ⟨ob,0,none⟩)] #[],.func (.func 148) #[] #[.pointer (some ⟨d1,0,none⟩),.pointer (some ⟨d1 + 1,0,none⟩)]]:List Value) ++ xs:=⟨_,rfl⟩
    have hfl:fs.length ≤ 18:=by rw [hfs];simp;omega
    rw [← hfs] at hU c7
    have HW:=Lib.hid hw;have HST:=Lib.hid hst;have HFS:=Lib.hid hfs;have HXL:=Lib.hid hxl;have HDF:=Lib.hid hDf
    have hone:∀ u ∈ ([.func (.func 107) #[.pointer (some ⟨ob,0,none⟩)] #[],.func (.func 108) #[.pointer (some ⟨ob,0,none⟩)] #[]]:List Value),u.oneCell' = true:=by simp [Value.oneCell']
    clear hw hst hfs hpl hxl hDf
    gi_wp2
    refine wpIn_wide.2 ?_
    refine wp_region_noPanic ?_
    refine wp_region_till (fun W' => W'.cell? ⟨bo,0,none⟩ = some (.pointer (some ⟨ob,0,none⟩)) ∧ W'.cell? ⟨ob,7,none⟩ = some (.slice a fs.length cp)) 13 (by kernel_rfl) (by exact ⟨co,c7⟩) (fun hHeld => ?_)
    refine till_load (i:=0) rfl (by kernel_rfl) (by kernel_rfl) (by kernel_rfl) (fun _ _ _ h => h) (by kernel_rfl) (by kernel_rfl) (by kernel_rfl) (Or.inl ⟨by rfl,by intro w hSw;(have z0:=And.left hSw;have z1:=And.right hSw);(go_simp <;> with_reducible rfl)⟩) (by assumption) ?_
    (try simp only [Act.put,List.setIfInBounds_toArray,List.set_cons_zero,List.set_cons_succ,List.getElem_toArray,List.getElem_cons_zero,List.getElem_cons_succ])
    refine till_load (i:=1) rfl (by kernel_rfl) (by kernel_rfl) (by kernel_rfl) (fun _ _ _ h => h) (by kernel_rfl) (by kernel_rfl) (by kernel_rfl) (Or.inl ⟨by rfl,by intro w hSw;(have z0:=And.left hSw;have z1:=And.right hSw);(go_simp <;> with_reducible rfl)⟩) (by assumption) ?_
    (try simp only [Act.put,List.setIfInBounds_toArray,List.set_cons_zero,List.set_cons_succ,List.getElem_toArray,List.getElem_cons_zero,List.getElem_cons_succ])
    refine till_take (i:=2) rfl (by kernel_rfl) (by kernel_rfl) (by kernel_rfl) (fun _ _ _ h => h) (by kernel_rfl) (Or.inl ⟨by rfl,by intro w _;(go_simp <;> with_reducible rfl)⟩) (by assumption) ?_
    (try simp only [Act.put,List.setIfInBounds_toArray,List.set_cons_zero,List.set_cons_succ,List.getElem_toArray,List.getElem_cons_zero,List.getElem_cons_succ])
    refine till_take (i:=3) rfl (by kernel_rfl) (by kernel_rfl) (by kernel_rfl) (fun _ _ _ h => h) (by kernel_rfl) (Or.inl ⟨by rfl,by intro w _;(go_simp <;> with_reducible rfl)⟩) (by assumption) ?_
    (try simp only [Act.put,List.setIfInBounds_toArray,List.set_cons_zero,List.set_cons_succ,List.getElem_toArray,List.getElem_cons_zero,List.getElem_cons_succ])
    refine till_load (i:=4) rfl (by kernel_rfl) (by kernel_rfl) (by kernel_rfl) (fun _ _ _ h => h) (by kernel_rfl) (by kernel_rfl) (by kernel_rfl) (Or.inl ⟨by rfl,by intro w hSw;(have z0:=And.left hSw;have z1:=And.right hSw);(go_simp <;> with_reducible rfl)⟩) (by assumption) ?_
    (try simp only [Act.put,List.setIfInBounds_toArray,List.set_cons_zero,List.set_cons_succ,List.getElem_toArray,List.getElem_cons_zero,List.getElem_cons_succ])
    refine till_load (i:=5) rfl (by kernel_rfl) (by kernel_rfl) (by kernel_rfl) (fun _ _ _ h => h) (by kernel_rfl) (by kernel_rfl) (by kernel_rfl) (Or.inl ⟨by rfl,by intro w hSw;(have z0:=And.left hSw;have z1:=And.right hSw);(go_simp <;> with_reducible rfl)⟩) (by assumption) ?_
    (try simp only [Act.put,List.setIfInBounds_toArray,List.set_cons_zero,List.set_cons_succ,List.getElem_toArray,List.getElem_cons_zero,List.getElem_cons_succ])
    refine till_take (i:=6) rfl (by kernel_rfl) (by kernel_rfl) (by kernel_rfl) (fun _ _ _ h => h) (by kernel_rfl) (Or.inl ⟨by rfl,by intro w _;(go_simp <;> with_reducible rfl)⟩) (by assumption) ?_
    (try simp only [Act.put,List.setIfInBounds_toArray,List.set_cons_zero,List.set_cons_succ,List.getElem_toArray,List.getElem_cons_zero,List.getElem_cons_succ])
    refine till_load (i:=7) rfl (by kernel_rfl) (by kernel_rfl) (by kernel_rfl) (fun _ _ _ h => h) (by kernel_rfl) (by kernel_rfl) (by kernel_rfl) (Or.inl ⟨by rfl,by intro w hSw;(have z0:=And.left hSw;have z1:=And.right hSw);(go_simp <;> with_reducible rfl)⟩) (by assumption) ?_
    (try simp only [Act.put,List.setIfInBounds_toArray,List.set_cons_zero,List.set_cons_succ,List.getElem_toArray,List.getElem_cons_zero,List.getElem_cons_succ])
    refine till_take (i:=8) rfl (by kernel_rfl) (by kernel_rfl) (by kernel_rfl) (fun _ _ _ h => h) (by kernel_rfl) (Or.inl ⟨by rfl,by intro w _;(go_simp <;> with_reducible rfl)⟩) (by assumption) ?_
    (try simp only [Act.put,List.setIfInBounds_toArray,List.set_cons_zero,List.set_cons_succ,List.getElem_toArray,List.getElem_cons_zero,List.getElem_cons_succ])
    have hU5:=hU
    refine till_one (i:=9) (by kernel_rfl) rfl (fun K hK => ?_)
    go_simp
    obtain ⟨w5,hw5⟩:∃ u,Hid (u = (Y.alloc (.cells #[.func (.func 107) #[.pointer (some ⟨ob,0,none⟩)] #[],.func (.func 108) #[.pointer (some ⟨ob,0,none⟩)] #[]] 204)).drew):=⟨_,rfl⟩
    rw [← hw5.out]
    have hl5:Below Y.heap.size Y w5:=by rw [hw5.out];exact ((Below.refl _ _).alloc (Nat.le_refl _) _).drew
    have hE5:w5.heap[Y.heap.size]? = some (.cells #[.func (.func 107) #[.pointer (some ⟨ob,0,none⟩)] #[],.func (.func 108) #[.pointer (some ⟨ob,0,none⟩)] #[]] 204 (0,0)):=by rw [hw5.out];exact heap_alloc_new _ _
    have hU6:=hU5.later hl5
    obtain ⟨g5,hg5⟩:∃ b,b = Y.heap.size:=⟨_,rfl⟩
    rw [← hg5] at hE5
    have HG5:=Lib.hid hg5
    (try simp only [← HG5.out])
    have HL5:=Lib.hid hl5
    clear hl5 hg5
    refine hK.out _ _ (by exact ⟨blk_cell hU6.box rfl,hU6.blk.cell rfl⟩) (fun hHeld => ?_)
    clear hK K
    (try simp only [Act.put,List.setIfInBounds_toArray,List.set_cons_zero,List.set_cons_succ,List.getElem_toArray,List.getElem_cons_zero,List.getElem_cons_succ])
    refine till_one (i:=10) (by kernel_rfl) rfl (fun K hK => ?_)
    refine step_append_off rfl _ _ 206 rfl (w.heap.size) 204 i0 .nilFunc 1 8 Tryz.underlying206 hi0 hz0 hz1 hz2 rfl (by decide) _ fs.length fs rfl hU6.row ⟨g5,0,none⟩ 2 2 [.func (.func 107) #[.pointer (some ⟨ob,0,none⟩)] #[],.func (.func 108) #[.pointer (some ⟨ob,0,none⟩)] #[]] rfl rfl (news_block hE5) hone (by unfold maxLen;omega) (by omega) (Nat.le_trans hU6.lo.2.2 hU6.below.size) ?_
    intro v' w6 hown' hgr hfr
    obtain ⟨hUZ,hSZ,hKZ,hb6,hx6,hOZ⟩:=hU6.app (xs:=[.func (.func 107) #[.pointer (some ⟨ob,0,none⟩)] #[],.func (.func 108) #[.pointer (some ⟨ob,0,none⟩)] #[]]) hown' hgr rfl
    obtain ⟨a',cp',rfl,-,-⟩:=hown'.slice
    have e7:=hb6.cell (j:=7) rfl
    have f7:=hb6.frozen 7
    have HUZ:=Lib.hid hUZ;have HSZ:=Lib.hid hSZ;have HKZ:=Lib.hid hKZ;have HOZ:=Lib.hid hOZ;have HFR:=Lib.hid hfr
    clear hUZ hSZ hKZ hOZ hown' hgr hfr hE5 hU6
    refine hK.out _ _ (by exact ⟨blk_cell hx6 rfl,hb6.cell rfl⟩) (fun hHeld => ?_)
    clear hK K
    (try simp only [Act.put,List.setIfInBounds_toArray,List.set_cons_zero,List.set_cons_succ,List.getElem_toArray,List.getElem_cons_zero,List.getElem_cons_succ])
    refine till_take (i:=11) rfl (by kernel_rfl) (by kernel_rfl) (by kernel_rfl) (fun _ _ _ h => h) (by kernel_rfl) (Or.inl ⟨by rfl,by intro w _;(go_simp <;> with_reducible rfl)⟩) (by assumption) ?_
    (try simp only [Act.put,List.setIfInBounds_toArray,List.set_cons_zero,List.set_cons_succ,List.getElem_toArray,List.getElem_cons_zero,List.getElem_cons_succ])
    refine till_take (i:=12) rfl (by kernel_rfl) (by kernel_rfl) (by kernel_rfl) (fun _ _ _ h => h) (by kernel_rfl) (Or.inl ⟨by rfl,by intro w _;(go_simp <;> with_reducible rfl)⟩) (by assumption) ?_
    (try simp only [Act.put,List.setIfInBounds_toArray,List.set_cons_zero,List.set_cons_succ,List.getElem_toArray,List.getElem_cons_zero,List.getElem_cons_succ])
    clear hHeld
    refine till_last (by kernel_rfl) rfl (fun K hK => ?_)
    go_simp
    refine hK.out _ _ ?_
    clear hK K
    (try simp only [Act.put,List.setIfInBounds_toArray,List.set_cons_zero,List.set_cons_succ,List.getElem_toArray,List.getElem_cons_zero,List.getElem_cons_succ])
    refine till_done (by kernel_rfl) ?_ _
    refine NoPanic.normal ?_
    obtain ⟨Z,HZ⟩:∃ u,Hid (u = w6.setCell ⟨ob,7,none⟩ (.slice a' (fs.length + 2) cp')):=⟨_,rfl⟩
    rw [HG5.out] at *
    rw [← HZ.out] at HUZ HSZ HKZ
    have zo:Z.cell? ⟨bo,0,none⟩ = some (.pointer (some ⟨ob,0,none⟩)):=blk_cell HUZ.out.box rfl
    gi_wp2_with (rw [← HZ.out])
    have hs5:Stands Y Z:=(Stands.below HL5.out).trans HSZ.out
    have hDZ:Z.heap[D]? = some (.deferred (some [])):=HKZ.out.same _ _ ((HL5.out.block _ (Array.getElem?_eq_some_iff.1 HDF.out).1).trans HDF.out) rfl
    refine ⟨by simp,.inl ⟨_,_,rfl,run_takeDeferred hDZ,?_⟩⟩
    have hgp:=grownBy_putObj' Z D (.deferred none)
    have hrp:∀ r,some D = some r → w.heap.size ≤ r ∧ ∃ o:Obj,Z.heap[r]? = some o ∧ o.isCells = false:=fun r e => by cases e;exact ⟨by omega,_,hDZ,rfl⟩
    have hUP:=HUZ.out.turn hgp hrp
    have hsp:Stands v3 (Z.putObj D (.deferred none)):=(HST.out.trans hs5).trans (stands_grown hgp (fun r e => (hrp r e).2))
    have hsY:Stands Y (Z.putObj D (.deferred none)):=hs5.trans (stands_grown hgp (fun r e => (hrp r e).2))
    refine ⟨_,results_tmp rfl _ _ _,ob,rfl,(fun i => w.heap.size ≤ i ∧ i < (Z.putObj D (.deferred none)).heap.size),⟨ce,_,_,_,⟨hUP.blk,hUP.row.mono (Nat.zero_le _),fun g hg => hUP.row.lt g hg,⟨HLO.out,hUP.blk.lt⟩,fun i hi => hi.2,?_,.inr ⟨Int.le_refl _,by show (0:Int) ≤ 3 + (data.length:Int);omega,?_⟩,fun _ _ => HCE.out.symm,hn⟩⟩,fun i hi => hi.1,hUP.below⟩
    · intro j v hv
      show SendFn _ _ ob data (0 + j) v
      rw [Nat.zero_add]
      rw [HFS.out] at hv
      have hbl:∀ b o,(Z.putObj D (.deferred none)).heap[b]? = some o → w.heap.size ≤ b → w.heap.size ≤ b ∧ b < (Z.putObj D (.deferred none)).heap.size:=fun b o h h2 => ⟨h2,(Array.getElem?_eq_some_iff.1 h).1⟩
      match j,hv with
      | 0,hv => simp at hv;subst hv;exact .head
      | 1,hv =>
        simp at hv;subst hv
        have q1:=hsp.2 _ _ _ _ (by decide) (by decide) HL13.out
        have q2:=hsp.2 _ _ _ _ (by decide) (by decide) HL23.out
        exact .len _ _ (hbl _ _ q1 hd1l) (hbl _ _ q2 (by omega)) q1 q2
      | j + 2,hv =>
        have hv2:(xs ++ ([.func (.func 107) #[.pointer (some ⟨ob,0,none⟩)] #[],.func (.func 108) #[.pointer (some ⟨ob,0,none⟩)] #[]]:List Value))[j]? = some v:=by simpa using hv
        rw [show j + 2 = 2 + j by omega]
        have hxl:=HXL.out
        rcases Nat.lt_or_ge j xs.length with hj | hj
        · rw [List.getElem?_append_left hj] at hv2
          obtain ⟨b1,b2,b3,rfl,⟨l1,l2,l3⟩,h1,h2,h3⟩:=(HW.out j v hv2).stands hsY
          exact .word j b1 b2 b3 (by omega) (hbl _ _ h1 (by omega)) (hbl _ _ h2 (by omega)) (hbl _ _ h3 (by omega)) h1 h2 h3
        · rw [List.getElem?_append_right hj] at hv2
          have hj2:j = data.length ∨ j = data.length + 1:=by
            have:=(List.getElem?_eq_some_iff.1 hv2).1
            simp at this;omega
          rcases hj2 with rfl | rfl
          · rw [show data.length - xs.length = 0 by omega] at hv2
            simp at hv2;subst hv2
            exact .tail
          · rw [show data.length + 1 - xs.length = 1 by omega] at hv2
            simp at hv2;subst hv2
            rw [show 2 + (data.length + 1) = 3 + data.length by omega]
            exact .ring
    · show (((fs ++ ([.func (.func 107) #[.pointer (some ⟨ob,0,none⟩)] #[],.func (.func 108) #[.pointer (some ⟨ob,0,none⟩)] #[]]:List Value)).length:Nat):Int) = 4 + (data.length:Int) - 0
      have hxl:=HXL.out
      rw [HFS.out]
      simp
      omega
end Go.Proofs.YtjfolhkblbakiaaGreatDoor
