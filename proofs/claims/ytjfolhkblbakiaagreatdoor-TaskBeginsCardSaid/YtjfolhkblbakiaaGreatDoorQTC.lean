/- Texts of the ring, joined, what is used of them. No condition but those in the statements. -/
import Derived.BigQuiet
import Derived.BigRegion
import Derived.Deep.MidRow
import Derived.Deep.RegionHeld3
import Derived.Deep.Upon
import Derived.IntWalk
import Derived.Shelf.Abstract
import Derived.Test.YtjfolhkblbakiaaGreatDoorQTA
import Derived.Test.YtjfolhkblbakiaaGreatDoorQgD
namespace Go.Proofs.YtjfolhkblbakiaaGreatDoor
open Go.RowKit Go.Sort
set_option linter.unusedVariables false
set_option linter.unusedSimpArgs false
set_option linter.unusedVariables false
set_option linter.unusedSimpArgs false
set_option maxRecDepth 100000
set_option maxHeartbeats 1600000
def cfgT:Cfg:=⟨[[0,2],[1,0]],[[1,0,1,3,0,0,0]],1,[[0,0,1]],1,[[1,0,1]]⟩
theorem cfgT_wf:CfgWf cfgT:=
  ⟨fun q hq => by simp [cfgT] at hq;rcases hq with rfl | rfl <;> exact wfN2_mk rfl rfl,fun q hq => by simp [cfgT] at hq;subst hq;exact wfN7_mk rfl rfl rfl rfl rfl rfl rfl,fun q hq => by simp [cfgT] at hq;subst hq;exact wfN3_mk rfl rfl rfl,fun q hq => by simp [cfgT] at hq;subst hq;exact wfN3_mk rfl rfl rfl,rfl,rfl⟩
theorem cfgT_few:CfgFew cfgT:=⟨by simp [cfgT],by simp [cfgT],by simp [cfgT],by simp [cfgT]⟩
theorem cfgT_size:sizeN cfgT = 26:=by kernel_rfl
theorem cfgT_create:refusedN cfgT 0 false [] 1 0 0 0 = 0:=by kernel_rfl
theorem cfgT_peek1:refusedN cfgT 0 false [] 8 0 1 0 = 0:=by kernel_rfl
theorem example_b (w:World):Calls Tryz.prog 18 #[] w fun e w' => ∃ x,e = .returned (.agg (cfgCells cfgT x)) ∧ CfgIn w' w'.heap.size cfgT x ∧ Below w.heap.size w w':=by
  have hwf:=cfgT_wf
  go_enter Tryz.func18,Tryz.ntmps18
  go_wp2
  obtain ⟨V,hV⟩:∃ u,Hid (u = ((((((w.alloc (.cells #[.slice (some ⟨w.heap.size + 1,0,none⟩) 2 2,.slice (some ⟨w.heap.size + 1 + 1,0,none⟩) 1 1,.int .i64 1,.slice (some ⟨w.heap.size + 1 + 1 + 1 + 1,0,none⟩) 1 1,.int .i64 1,.slice (some ⟨w.heap.size + 1 + 1 + 1 + 1 + 1,0,none⟩) 1 1] 29)).alloc (.cells #[.int .i64 0,.int .i64 2,.int .i64 1,.int .i64 0] 124)).alloc (.cells #[.int .i64 1,.int .i64 0,.int .i64 1,.int .i64 3,.int .i64 0,.int .i64 0,.int .u32 0] 58)).alloc (.cells #[.slice (some ⟨w.heap.size + 1,0,none⟩) 2 2,.slice (some ⟨w.heap.size + 1 + 1,0,none⟩) 1 1,.int .i64 1,.slice (some ⟨w.heap.size + 1 + 1 + 1 + 1,0,none⟩) 1 1,.int .i64 1,.slice (some ⟨w.heap.size + 1 + 1 + 1 + 1 + 1,0,none⟩) 1 1] 29)).alloc (.cells #[.int .i64 0,.int .i64 0,.int .i64 1] 126)).alloc (.cells #[.int .i64 1,.int .i64 0,.int .i64 1] 126))):=⟨_,rfl⟩
  rw [← hV.out]
  have h0:V.heap[w.heap.size]? = some (.cells #[.slice (some ⟨w.heap.size + 1,0,none⟩) 2 2,.slice (some ⟨w.heap.size + 1 + 1,0,none⟩) 1 1,.int .i64 1,.slice (some ⟨w.heap.size + 1 + 1 + 1 + 1,0,none⟩) 1 1,.int .i64 1,.slice (some ⟨w.heap.size + 1 + 1 + 1 + 1 + 1,0,none⟩) 1 1] 29):=by rw [hV.out];rw [Below.heap_alloc _ _ _ (by simp;try omega)];rw [Below.heap_alloc _ _ _ (by simp;try omega)];rw [Below.heap_alloc _ _ _ (by simp;try omega)];rw [Below.heap_alloc _ _ _ (by simp;try omega)];rw [Below.heap_alloc _ _ _ (by simp;try omega)];exact heap_new_at _ _ (by simp)
  have h1:V.heap[w.heap.size + 1]? = some (.cells #[.int .i64 0,.int .i64 2,.int .i64 1,.int .i64 0] 124):=by rw [hV.out];rw [Below.heap_alloc _ _ _ (by simp;try omega)];rw [Below.heap_alloc _ _ _ (by simp;try omega)];rw [Below.heap_alloc _ _ _ (by simp;try omega)];rw [Below.heap_alloc _ _ _ (by simp;try omega)];exact heap_new_at _ _ (by simp)
  have h2:V.heap[w.heap.size + 1 + 1]? = some (.cells #[.int .i64 1,.int .i64 0,.int .i64 1,.int .i64 3,.int .i64 0,.int .i64 0,.int .u32 0] 58):=by rw [hV.out];rw [Below.heap_alloc _ _ _ (by simp;try omega)];rw [Below.heap_alloc _ _ _ (by simp;try omega)];rw [Below.heap_alloc _ _ _ (by simp;try omega)];exact heap_new_at _ _ (by simp)
  have h3:V.heap[w.heap.size + 1 + 1 + 1]? = some (.cells #[.slice (some ⟨w.heap.size + 1,0,none⟩) 2 2,.slice (some ⟨w.heap.size + 1 + 1,0,none⟩) 1 1,.int .i64 1,.slice (some ⟨w.heap.size + 1 + 1 + 1 + 1,0,none⟩) 1 1,.int .i64 1,.slice (some ⟨w.heap.size + 1 + 1 + 1 + 1 + 1,0,none⟩) 1 1] 29):=by rw [hV.out];rw [Below.heap_alloc _ _ _ (by simp;try omega)];rw [Below.heap_alloc _ _ _ (by simp;try omega)];exact heap_new_at _ _ (by simp)
  have h4:V.heap[w.heap.size + 1 + 1 + 1 + 1]? = some (.cells #[.int .i64 0,.int .i64 0,.int .i64 1] 126):=by rw [hV.out];rw [Below.heap_alloc _ _ _ (by simp;try omega)];exact heap_new_at _ _ (by simp)
  have h5:V.heap[w.heap.size + 1 + 1 + 1 + 1 + 1]? = some (.cells #[.int .i64 1,.int .i64 0,.int .i64 1] 126):=by rw [hV.out];exact heap_new_at _ _ (by simp)
  have hB:Below w.heap.size w V:=by rw [hV.out];exact ((((((Below.refl _ _).alloc (Nat.le_refl _) _).alloc (by simp;try omega) _).alloc (by simp;try omega) _).alloc (by simp;try omega) _).alloc (by simp;try omega) _).alloc (by simp;try omega) _
  have hS:V.heap.size = w.heap.size + 6:=by rw [hV.out];simp
  have y0:=cell_blk h0 (i:=0) rfl
  have y1:=cell_blk h0 (i:=1) rfl
  have y2:=cell_blk h0 (i:=2) rfl
  have y3:=cell_blk h0 (i:=3) rfl
  have y4:=cell_blk h0 (i:=4) rfl
  have y5:=cell_blk h0 (i:=5) rfl
  clear hV
  refine bodyPost_ret (v:=.agg #[.slice (some ⟨w.heap.size + 1,0,none⟩) 2 2,.slice (some ⟨w.heap.size + 1 + 1,0,none⟩) 1 1,.int .i64 1,.slice (some ⟨w.heap.size + 1 + 1 + 1 + 1,0,none⟩) 1 1,.int .i64 1,.slice (some ⟨w.heap.size + 1 + 1 + 1 + 1 + 1,0,none⟩) 1 1]) (by simp [results,Tryz.results18,go_sem,y0,y1,y2,y3,y4,y5]) rfl ⟨⟨some ⟨w.heap.size + 1,0,none⟩,2,some ⟨w.heap.size + 1 + 1,0,none⟩,1,some ⟨w.heap.size + 1 + 1 + 1 + 1,0,none⟩,1,some ⟨w.heap.size + 1 + 1 + 1 + 1 + 1,0,none⟩,1⟩,rfl,⟨?_,?_,?_,?_,?_,?_,?_,?_⟩,hB⟩
  · exact row_lit [.i64,.i64] (l:=cfgT.parts) h1 (by omega) hwf.wp rfl
  · exact row_lit [.i64,.i64,.i64,.i64,.i64,.i64,.u32] (l:=cfgT.chans) h2 (by omega) hwf.wc rfl
  · exact row_lit [.i64,.i64,.i64] (l:=cfgT.win0) h4 (by omega) hwf.wa rfl
  · exact row_lit [.i64,.i64,.i64] (l:=cfgT.win1) h5 (by omega) hwf.wb rfl
  all_goals exact ⟨by simp [cfgT],by simp [maxLen],fun h => by cases h⟩
end Go.Proofs.YtjfolhkblbakiaaGreatDoor
namespace Go.Proofs.YtjfolhkblbakiaaGreatDoor
open Go.RowKit Go.Sort
set_option linter.unusedVariables false
set_option linter.unusedSimpArgs false
set_option linter.unusedVariables false
set_option linter.unusedSimpArgs false
set_option maxRecDepth 100000
set_option maxHeartbeats 1600000
theorem run_did13 (v:Value) (w:World):(Instr.field 68 (.agg #[.bool true,.int .i64 0,v,.bool false,.int .i64 0,.bool true,.bool false,.bool false,.int .i64 0]) 0).run Tryz.prog w = .ok (.bool true) w:=by kernel_rfl
theorem sin0 (w:World):SIn w [] none:=⟨fun h => absurd h (by simp),by simp⟩
theorem wakesT_b (w:World) (hT:TabsAt w):Calls Tryz.prog 10 #[] w fun e w' => e = .returned (.bool true) ∧ Below w.heap.size w w':=by
  have HT:=Lib.hid hT
  clear hT
  go_enter Tryz.func10,Tryz.ntmps10
  go_wp2_with fail
  refine (example_b w).mono ?_
  rintro e w1 ⟨x,rfl,hx1,hb1⟩
  obtain ⟨W,HW,hB2,hWs,bx⟩:=one_cbox w1 cfgT x 29
  have hxW:=hx1.later hB2
  have hBW:=hb1.trans (hB2.mono hb1.size)
  have HB1:=Lib.hid (fun (V:World) (hb:Below W.heap.size W V) => begin1_b cfgT x 0 false 0 [] [] none none 0 0 0 0 none 0 0 V (hxW.later hb) cfgT_wf cfgT_few (sin0 V) (sin0 V) rfl rfl (by omega) (HT.out.later (hBW.trans (hb.mono hBW.size))) cfgT_create)
  have HB8:=Lib.hid (fun (V:World) (hb:Below W.heap.size W V) => begin8_b cfgT x 0 false 0 [] [] none none 0 0 0 1 none 0 0 V (hxW.later hb) cfgT_wf cfgT_few (sin0 V) (sin0 V) rfl rfl (by omega) (HT.out.later (hBW.trans (hb.mono hBW.size))) cfgT_peek1)
  have HSI:=Lib.hid (fun (V:World) (hb:Below W.heap.size W V) => rsize_b cfgT x V (hxW.later hb) cfgT_wf cfgT_few)
  rw [cfgT_size] at HSI
  obtain ⟨pa,pc,ca,cc,aa,ac,ba,bc⟩:=x
  have BX:=Lib.hid (fun (V:World) (hb:Below W.heap.size W V) => bx V hb)
  have HBW:=Lib.hid hBW
  simp only [cfgCells,List.length_nil] at HW HB1 HB8 HSI ⊢
  obtain ⟨c0,c1,c2,c3,c4,c5⟩:=BX.out W (Below.refl _ _)
  clear hx1 hb1 hB2 hWs bx hxW hBW
  go_wp2_with (first | (rw [← HW.out]))
  refine (HB1.out W (Below.refl _ _)).mono ?_
  rintro e w2 ⟨rfl,hb2⟩
  obtain ⟨Y11,HY11,hbY11,hsY11,yx1⟩:=box_new w2 #[.int .i64 0,.slice none 0 0,.bool false,.int .i64 0] 42
  obtain ⟨lb1,hlb1⟩:∃ k,k = w2.heap.size:=⟨_,rfl⟩
  have hth1:=there_blk (W:=Y11) (yx1 _ (Below.refl _ _)) (n:=(#[.int .i64 0,.slice none 0 0,.bool false,.int .i64 0]:Array Value).size) rfl
  have hsz1:(Tryz.prog.info? 42).map (·.size) = some (#[.int .i64 0,.slice none 0 0,.bool false,.int .i64 0]:Array Value).size:=ans_size
  obtain ⟨Y12,HY12⟩:∃ u,Hid (u = Y11.setCells w2.heap.size 0 [.int .i64 0,.slice none 0 0,.bool false,.int .i64 0]):=⟨_,rfl⟩
  have hy1:Y12.heap[w2.heap.size]? = some (.cells #[.int .i64 0,.slice none 0 0,.bool false,.int .i64 0] 42 (0,0)):=by rw [HY12.out];exact block_setCells (yx1 _ (Below.refl _ _)) _ rfl
  have hbP1:Below w2.heap.size w2 Y12:=by rw [HY12.out];exact below_setCells _ _ _ hbY11 (Nat.le_refl _)
  have hbA1:=(hb2).trans (hbP1.mono (hb2).size)
  rw [← hlb1] at hth1 hy1
  have HLB1:=Lib.hid hlb1;have HA1:=Lib.hid hbA1;have HP1:=Lib.hid hbP1;have HYB1:=Lib.hid hy1
  clear hbY11 hsY11 yx1 hlb1 hbP1 hbA1 hy1
  clear hb2 c0 c1 c2 c3 c4 c5
  obtain ⟨c0,c1,c2,c3,c4,c5⟩:=BX.out Y12 HA1.out
  go_wp2_with (first | (simp only [← HLB1.out];rw [← HY11.out]) | (with_reducible refine wpList_store_mid (by kernel_rfl) _ _ _ rfl lb1 0 #[.int .i64 0,.slice none 0 0,.bool false,.int .i64 0] (by kernel_rfl) (by kernel_rfl) hth1 hsz1 (by kernel_rfl) ?_) | (simp only [HLB1.out];rw [← HY12.out];simp only [← HLB1.out]))
  refine (HB8.out Y12 HA1.out).mono ?_
  rintro e w3 ⟨tb,rfl,htb,htl,hb3⟩
  have hb3':=HA1.out.trans (hb3.mono HA1.out.size)
  obtain ⟨Y21,HY21,hbY21,hsY21,yx2⟩:=box_new w3 #[.int .i64 0,.slice none 0 0,.bool false,.int .i64 0] 42
  obtain ⟨lb2,hlb2⟩:∃ k,k = w3.heap.size:=⟨_,rfl⟩
  have hth2:=there_blk (W:=Y21) (yx2 _ (Below.refl _ _)) (n:=(#[.int .i64 0,.slice none 0 0,.bool false,.int .i64 0]:Array Value).size) rfl
  have hsz2:(Tryz.prog.info? 42).map (·.size) = some (#[.int .i64 0,.slice none 0 0,.bool false,.int .i64 0]:Array Value).size:=ans_size
  obtain ⟨Y22,HY22⟩:∃ u,Hid (u = Y21.setCells w3.heap.size 0 [.int .i64 0,.slice none 0 0,.bool false,.int .i64 0]):=⟨_,rfl⟩
  have hy2:Y22.heap[w3.heap.size]? = some (.cells #[.int .i64 0,.slice none 0 0,.bool false,.int .i64 0] 42 (0,0)):=by rw [HY22.out];exact block_setCells (yx2 _ (Below.refl _ _)) _ rfl
  have hbP2:Below w3.heap.size w3 Y22:=by rw [HY22.out];exact below_setCells _ _ _ hbY21 (Nat.le_refl _)
  have hbA2:=(hb3').trans (hbP2.mono (hb3').size)
  rw [← hlb2] at hth2 hy2
  have HLB2:=Lib.hid hlb2;have HA2:=Lib.hid hbA2;have HP2:=Lib.hid hbP2;have HYB2:=Lib.hid hy2
  clear hbY21 hsY21 yx2 hlb2 hbP2 hbA2 hy2
  have htY:Y22.heap[tb]? = some (.cells #[.iface 166 (.agg #[.int .u32 0,.int .u64 1]),.int .i64 (1),.bool false] 106 (0,0)):=(HP2.out.block tb (Array.getElem?_eq_some_iff.1 htb).1).trans htb
  have hll:lb1 < Y12.heap.size:=(Array.getElem?_eq_some_iff.1 HYB1.out).1
  have l0:Y22.cell? ⟨lb1,0,none⟩ = some (.int .i64 0):=cell_blk ((HP2.out.block lb1 (Nat.lt_of_lt_of_le hll hb3.size)).trans ((hb3.block lb1 hll).trans HYB1.out)) rfl
  have HTB:=Lib.hid htY;have HTL:=Lib.hid htl
  clear hb3 hb3' htb htl htY hll c0 c1 c2 c3 c4 c5 hth1 hsz1
  obtain ⟨c0,c1,c2,c3,c4,c5⟩:=BX.out Y22 HA2.out
  go_wp2_with (first | (simp only [← HLB2.out];rw [← HY21.out]) | (with_reducible refine wpList_store_mid (by kernel_rfl) _ _ _ rfl lb2 0 #[.int .i64 0,.slice none 0 0,.bool false,.int .i64 0] (by kernel_rfl) (by kernel_rfl) hth2 hsz2 (by kernel_rfl) ?_) | (simp only [HLB2.out];rw [← HY22.out];simp only [← HLB2.out]))
  refine (HSI.out Y22 HA2.out).mono ?_
  rintro e w4 ⟨rfl,hb4⟩
  clear c0 c1 c2 c3 c4 c5 l0 hth2 hsz2
  go_wp2_with fail
  refine (memNew_at 26 26 rfl w4 (by omega)).mono ?_
  rintro e w5 ⟨mb,rb,rfl,h1,h2,hm,hb5⟩
  go_wp2_with fail
  refine (Bel.new_in 2 2 rfl w5 (by omega)).mono ?_
  rintro e w6 ⟨bb,br,rfl,-,-,-,hb6⟩
  have h46:=hb4.trans ((hb5.trans (hb6.mono hb5.size)).mono hb4.size)
  have h6:=HB8.out
  have htb6:=(h46.block tb (Array.getElem?_eq_some_iff.1 HTB.out).1).trans HTB.out
  have hPK:=peekT_b tb 0 1 1 1 rfl (some ⟨bb,0,none⟩) 0 (hm.below hb6) (by simp) (by simp) htb6 (by omega)
  have HPK:=Lib.hid hPK
  have HW6:=Lib.hid (HA2.out.trans (h46.mono HA2.out.size));have H6T:=Lib.hid (Array.getElem?_eq_some_iff.1 htb6).1
  clear h1 h2 hm hb5 hb6 hb4 h46 h6 htb6 hPK
  go_wp2_with fail
  refine HPK.out.mono ?_
  rintro e w7 ⟨db,rfl,-,-,ho,ht7⟩
  have HO7:=Lib.hid ho
  have hfd:=run_did13 (.slice (some ⟨db,0,none⟩) 1 1)
  clear ho
  go_wp2_with fail
  refine (steps_b tb _ _ _ _ w7 ht7).mono ?_
  rintro e w8 ⟨rfl,rfl⟩
  have HLT:=Lib.hid (show w.heap.size ≤ tb by have:=HTL.out;have:=HBW.out.size;have:=HA1.out.size;omega)
  clear ht7
  go_wp2
  go_ret
  exact ⟨rfl,(HBW.out.trans (HW6.out.mono HBW.out.size)).trans (HO7.out.below (Nat.le_trans HBW.out.size HW6.out.size) (fun k e => by have:=HLT.out;omega))⟩
end Go.Proofs.YtjfolhkblbakiaaGreatDoor
