/- Texts of the ring, joined, what is used of them. No condition but those in the statements. -/
import Derived.BigQuiet
import Derived.BigRegion
import Derived.Deep.MidRow
import Derived.Deep.RegionHeld3
import Derived.Deep.Upon
import Derived.IntWalk
import Derived.Shelf.Abstract
import Derived.Test.YtmhpcgcloojfbaaGreatRFDo
namespace Go.Proofs.YtmhpcgcloojfbaaGreat
open Go.RowKit Go.Sort
set_option linter.unusedVariables false
set_option linter.unusedSimpArgs false
set_option linter.unusedVariables false
set_option linter.unusedSimpArgs false
open Go.Proofs.YtmhpcgcloojfbaaGreat.Simp
set_option maxRecDepth 100000
set_option maxHeartbeats 6400000
theorem dwrite1_b (W w:World) (vb yb:Nat) (c:Cfg) (x:CfgAt) (k:Nat) (F:Fr) (ws:List Int) (A:Option Addr) (ds:List Int) (cap:Nat) (p i:Nat) (len st:Int) (mk:Bool) (now:Int) (h:VAt W w vb yb c x k F ws true (.slice A ds.length cap) 1 p i len st mk) (hpi:p ≤ 1 ∧ i ≤ 1) (hds:ds.length ≤ F.n):Calls Tryz.prog 38 #[.pointer (some ⟨vb,0,none⟩),.slice (some ⟨yb,0,none⟩) ws.length ws.length,.int .i64 now] w (VGives W w vb yb c x k F (ws) true (.slice A ds.length cap) (1) (1 - oddN (ws.getD F.dst 0)) (i) len st (mk) (didV false 0 (.slice none 0 0) false (false) false (0))):=by
  have hdl:=h.len.dst
  have hmx:=h.len.max
  have hn2:=h.len.n2
  have h32s:=(h.w32 F.dst).1
  unfold rd at h32s
  obtain ⟨v,hv⟩:∃ u,ws.getD F.dst 0 = u:=⟨_,rfl⟩
  rw [hv] at h32s ⊢
  have HOD:=Lib.hid (fun W' => rodd_b v W' h32s)
  have hq1:=oddN_le v
  obtain ⟨q,hq⟩:∃ q,oddN v = q:=⟨_,rfl⟩
  rw [hq] at HOD hq1 ⊢
  obtain ⟨r,hr⟩:∃ r,r = 1 - q:=⟨_,rfl⟩
  rw [← hr]
  have er:(1:Int) - (q:Int) = (r:Nat):=by omega
  have hrw:IntKind.i64.wrap (r:Int) = r:=IntWalk.i64_in _ (by omega)
  have hdw:IntKind.i64.wrap (F.dst:Int) = F.dst:=IntWalk.i64_in _ (by omega)
  clear hq hr
  have HV:=Lib.hid hv
  have hsd:(Tryz.prog.info? 56).map (·.size) = some (didV false 0 (.slice none 0 0) false (false) false (0):Array Value).size:=did_size
  have hzy:w.heap.size ≠ yb:=fun e => by have:=h.row.lt;omega
  have hzv:w.heap.size ≠ vb:=fun e => by have:=(Array.getElem?_eq_some_iff.1 h.blk).1;omega
  have hny:vb ≠ yb:=h.ne.1
  obtain ⟨W1,HW1,hsz,hO,hz⟩:=did_new w
  have hvl:vb < w.heap.size:=(Array.getElem?_eq_some_iff.1 h.blk).1
  have hyl:=h.row.lt
  have hV1:=hO.at_ h.blk (fun h => h)
  have hY1:=h.row.of (hO.block yb hyl (fun h => h))
  have hB1:Below W.heap.size W W1:=h.below.trans ⟨hO.os,hO.tape,hO.output,hO.size,fun j hj => hO.block j (by have:=h.below.size;omega) (fun h => h)⟩
  have hcW:CfgIn W1 W1.heap.size c x:=h.cfg.later hB1
  have HDST:Hid (∀ W',Below W1.heap.size W1 W' → Calls Tryz.prog 56 #[.agg #[.slice x.pa c.parts.length x.pc,.slice x.ca c.chans.length x.cc,.int .i64 c.len0,.slice x.aa c.win0.length x.ac,.int .i64 c.len1,.slice x.ba c.win1.length x.bc],.int .i64 (k:Int)] W' (fun e w' => e = .returned (.agg #[.int .i64 (F.dst:Int),.int .i64 (dstSpan c k).2]) ∧ Below W'.heap.size W' w')):=Lib.hid (fun W' hb => by
    have q:=rdest_b c x k W' (hcW.later hb) h.wf h.few
    rw [h.fr.dst] at q
    exact q)
  have HSRC:Hid (∀ d os,Calls Tryz.prog 55 #[.agg #[.slice x.pa c.parts.length x.pc,.slice x.ca c.chans.length x.cc,.int .i64 c.len0,.slice x.aa c.win0.length x.ac,.int .i64 c.len1,.slice x.ba c.win1.length x.bc],.int .i64 (k:Int)] (grow (redrawn W1 d) os) (fun e w'' => e = .returned (.agg #[.int .i64 (F.src:Int),.int .i64 (srcSpan c k).2]) ∧ ∃ p:Regrown,w'' = grow (redrawn W1 p.d) p.os)):=Lib.hid (fun d os => by
    have q:=rsource_b c x k (grow (redrawn W1 d) os) (hcW.later (below_regrown W1 d os)) h.wf h.few
    rw [h.fr.src] at q
    exact Calls.regrown_of q)
  have HBUF:Hid (∀ d os,Calls Tryz.prog 70 #[.agg #[.slice x.pa c.parts.length x.pc,.slice x.ca c.chans.length x.cc,.int .i64 c.len0,.slice x.aa c.win0.length x.ac,.int .i64 c.len1,.slice x.ba c.win1.length x.bc],.int .i64 (k:Int),.int .i64 (p:Int),.int .i64 (i:Int)] (grow (redrawn W1 d) os) (fun e w'' => e = .returned (.agg #[.int .i64 ((bufA F p i:Nat):Int),.int .i64 (bufSpan c k p i).2]) ∧ ∃ p:Regrown,w'' = grow (redrawn W1 p.d) p.os)):=Lib.hid (fun d os => by
    have q:=rbuffer_b c x k p i (grow (redrawn W1 d) os) (hcW.later (below_regrown W1 d os)) h.wf h.few
    rw [h.fr.buf p i hpi.1 hpi.2] at q
    exact Calls.regrown_of q)
  have hfs:=run_span0
  have q0:∀ rg:Regrown,(grow (redrawn W1 rg.d) rg.os).cell? ⟨vb,0,none⟩ = some (.slice x.pa c.parts.length x.pc):=fun rg => cell_regrown (cell_blk hV1 rfl) rg.d rg.os
  have q1:∀ rg:Regrown,(grow (redrawn W1 rg.d) rg.os).cell? ⟨vb,1,none⟩ = some (.slice x.ca c.chans.length x.cc):=fun rg => cell_regrown (cell_blk hV1 rfl) rg.d rg.os
  have q2:∀ rg:Regrown,(grow (redrawn W1 rg.d) rg.os).cell? ⟨vb,2,none⟩ = some (.int .i64 c.len0):=fun rg => cell_regrown (cell_blk hV1 rfl) rg.d rg.os
  have q3:∀ rg:Regrown,(grow (redrawn W1 rg.d) rg.os).cell? ⟨vb,3,none⟩ = some (.slice x.aa c.win0.length x.ac):=fun rg => cell_regrown (cell_blk hV1 rfl) rg.d rg.os
  have q4:∀ rg:Regrown,(grow (redrawn W1 rg.d) rg.os).cell? ⟨vb,4,none⟩ = some (.int .i64 c.len1):=fun rg => cell_regrown (cell_blk hV1 rfl) rg.d rg.os
  have q5:∀ rg:Regrown,(grow (redrawn W1 rg.d) rg.os).cell? ⟨vb,5,none⟩ = some (.slice x.ba c.win1.length x.bc):=fun rg => cell_regrown (cell_blk hV1 rfl) rg.d rg.os
  have q6:∀ rg:Regrown,(grow (redrawn W1 rg.d) rg.os).cell? ⟨vb,6,none⟩ = some (.int .i64 (k:Int)):=fun rg => cell_regrown (cell_blk hV1 rfl) rg.d rg.os
  have q8:∀ rg:Regrown,(grow (redrawn W1 rg.d) rg.os).cell? ⟨vb,8,none⟩ = some ((.slice A ds.length cap)):=fun rg => cell_regrown (cell_blk hV1 rfl) rg.d rg.os
  have q9:∀ rg:Regrown,(grow (redrawn W1 rg.d) rg.os).cell? ⟨vb,9,none⟩ = some (.int .i64 1):=fun rg => cell_regrown (cell_blk hV1 rfl) rg.d rg.os
  have q10:∀ rg:Regrown,(grow (redrawn W1 rg.d) rg.os).cell? ⟨vb,10,none⟩ = some (.int .i64 (p:Int)):=fun rg => cell_regrown (cell_blk hV1 rfl) rg.d rg.os
  have q11:∀ rg:Regrown,(grow (redrawn W1 rg.d) rg.os).cell? ⟨vb,11,none⟩ = some (.int .i64 (i:Int)):=fun rg => cell_regrown (cell_blk hV1 rfl) rg.d rg.os
  have q14:∀ rg:Regrown,(grow (redrawn W1 rg.d) rg.os).cell? ⟨vb,14,none⟩ = some (.bool mk):=fun rg => cell_regrown (cell_blk hV1 rfl) rg.d rg.os
  have hixl:F.dst < ws.length:=by omega
  have hbc:=Below.refl W1.heap.size W1
  have hzl:w.heap.size < W1.heap.size:=(Array.getElem?_eq_some_iff.1 hz).1
  have HV1:=Lib.hid hV1;have HY1:=Lib.hid hY1;have HO:=Lib.hid hO;have HZ:=Lib.hid hz;have HH:=Lib.hid h;have HB1:=Lib.hid hB1
  clear hV1 hY1 hO hz hB1 hcW
  go_enter Tryz.func38,Tryz.ntmps38
  go_wp2_with (first | (rw [← HW1.out]) | (((first | with_reducible refine wpList_on hbc ?_ | with_reducible refine wp_on hbc (by kernel_rfl) (by kernel_rfl) ?_);(repeat (first | (go_big_quiet_want;(refine quiet_eqlT 117 _ _ _ rfl _ _ rfl rfl (eqS _ _ _ _ true (by simp)) (by kernel_rfl) ?_);go_big_quiet_on;(try simp only [Act.put,List.setIfInBounds_toArray,List.set_cons_zero,List.set_cons_succ])) | go_big_quiet_step (first | with_reducible exact HSRC.out _ _ | with_reducible exact HBUF.out _ _)));with_reducible refine wpQuiet_nil ?_;intro wc hbc;(try clear x0 x1 x2 x3 x4 x5 x6 x10 g0 g1 g2 g3 g4 g5 g6 g10 yc yf hVc hZc);have hVc:=(hbc.block vb (Array.getElem?_eq_some_iff.1 HV1.out).1).trans HV1.out;have x0:wc.cell? ⟨vb,0,none⟩ = some (.slice x.pa c.parts.length x.pc):=cell_blk hVc rfl;have x1:wc.cell? ⟨vb,1,none⟩ = some (.slice x.ca c.chans.length x.cc):=cell_blk hVc rfl;have x2:wc.cell? ⟨vb,2,none⟩ = some (.int .i64 c.len0):=cell_blk hVc rfl;have x3:wc.cell? ⟨vb,3,none⟩ = some (.slice x.aa c.win0.length x.ac):=cell_blk hVc rfl;have x4:wc.cell? ⟨vb,4,none⟩ = some (.int .i64 c.len1):=cell_blk hVc rfl;have x5:wc.cell? ⟨vb,5,none⟩ = some (.slice x.ba c.win1.length x.bc):=cell_blk hVc rfl;have x6:wc.cell? ⟨vb,6,none⟩ = some (.int .i64 (k:Int)):=cell_blk hVc rfl;have x10:wc.cell? ⟨vb,10,none⟩ = some (.int .i64 (p:Int)):=cell_blk hVc rfl;have g0:wc.frozen? ⟨vb,0,none⟩ = false:=blk_frozen 0 hVc;have g1:wc.frozen? ⟨vb,1,none⟩ = false:=blk_frozen 1 hVc;have g2:wc.frozen? ⟨vb,2,none⟩ = false:=blk_frozen 2 hVc;have g3:wc.frozen? ⟨vb,3,none⟩ = false:=blk_frozen 3 hVc;have g4:wc.frozen? ⟨vb,4,none⟩ = false:=blk_frozen 4 hVc;have g5:wc.frozen? ⟨vb,5,none⟩ = false:=blk_frozen 5 hVc;have g6:wc.frozen? ⟨vb,6,none⟩ = false:=blk_frozen 6 hVc;have g10:wc.frozen? ⟨vb,10,none⟩ = false:=blk_frozen 10 hVc;have yc:wc.cell? ⟨yb,F.dst,none⟩ = some (.int .u32 v):=yv_cell ((HY1.out.below hbc).cell hixl) HV.out;have yf:wc.frozen? ⟨yb,F.dst,none⟩ = false:=(HY1.out.below hbc).frozen _;have hZc:=(hbc.block w.heap.size hzl).trans HZ.out)))
  refine wp_region_held_drew (S:=(fun W' => Cf7 W' vb yb F.dst c x k v)) (by kernel_rfl) (⟨x0,x1,x2,x3,x4,x5,x6,yv_cell ((HY1.out.below hbc).cell hixl) HV.out,(Array.getElem?_eq_some_iff.1 hVc).1,(HY1.out.below hbc).lt⟩) (fun hHeld => ?_)
  refine wpAnyH_take (i:=0) rfl (by kernel_rfl) (by kernel_rfl) (by kernel_rfl) (fun _ _ _ h => h) (Or.inl ⟨by rfl,by intro w hSw;(have hq7:Cf7 _ vb yb F.dst c x k v:=hSw;have k0:=hq7.f0;have k1:=hq7.f1;have k2:=hq7.f2;have k3:=hq7.f3;have k4:=hq7.f4;have k5:=hq7.f5;have k6:=hq7.f6;have ky:=hq7.fy);(go_simp <;> with_reducible rfl)⟩) (by assumption) ?_
  (try simp only [Act.put,List.setIfInBounds_toArray,List.set_cons_zero,List.set_cons_succ,List.getElem_toArray,List.getElem_cons_zero,List.getElem_cons_succ])
  refine wpAnyH_take (i:=1) rfl (by kernel_rfl) (by kernel_rfl) (by kernel_rfl) (fun _ _ _ h => h) (Or.inl ⟨by rfl,by intro w hSw;(have hq7:Cf7 _ vb yb F.dst c x k v:=hSw;have k0:=hq7.f0;have k1:=hq7.f1;have k2:=hq7.f2;have k3:=hq7.f3;have k4:=hq7.f4;have k5:=hq7.f5;have k6:=hq7.f6;have ky:=hq7.fy);(go_simp <;> with_reducible rfl)⟩) (by assumption) ?_
  (try simp only [Act.put,List.setIfInBounds_toArray,List.set_cons_zero,List.set_cons_succ,List.getElem_toArray,List.getElem_cons_zero,List.getElem_cons_succ])
  refine wpAnyH_take (i:=2) rfl (by kernel_rfl) (by kernel_rfl) (by kernel_rfl) (fun _ _ _ h => h) (Or.inl ⟨by rfl,by intro w hSw;(have hq7:Cf7 _ vb yb F.dst c x k v:=hSw;have k0:=hq7.f0;have k1:=hq7.f1;have k2:=hq7.f2;have k3:=hq7.f3;have k4:=hq7.f4;have k5:=hq7.f5;have k6:=hq7.f6;have ky:=hq7.fy);(go_simp <;> with_reducible rfl)⟩) (by assumption) ?_
  (try simp only [Act.put,List.setIfInBounds_toArray,List.set_cons_zero,List.set_cons_succ,List.getElem_toArray,List.getElem_cons_zero,List.getElem_cons_succ])
  refine wpAnyH_take (i:=3) rfl (by kernel_rfl) (by kernel_rfl) (by kernel_rfl) (fun _ _ _ h => h) (Or.inl ⟨by rfl,by intro w hSw;(have hq7:Cf7 _ vb yb F.dst c x k v:=hSw;have k0:=hq7.f0;have k1:=hq7.f1;have k2:=hq7.f2;have k3:=hq7.f3;have k4:=hq7.f4;have k5:=hq7.f5;have k6:=hq7.f6;have ky:=hq7.fy);(go_simp <;> with_reducible rfl)⟩) (by assumption) ?_
  (try simp only [Act.put,List.setIfInBounds_toArray,List.set_cons_zero,List.set_cons_succ,List.getElem_toArray,List.getElem_cons_zero,List.getElem_cons_succ])
  refine wpAnyH_take (i:=4) rfl (by kernel_rfl) (by kernel_rfl) (by kernel_rfl) (fun _ _ _ h => h) (Or.inl ⟨by rfl,by intro w hSw;(have hq7:Cf7 _ vb yb F.dst c x k v:=hSw;have k0:=hq7.f0;have k1:=hq7.f1;have k2:=hq7.f2;have k3:=hq7.f3;have k4:=hq7.f4;have k5:=hq7.f5;have k6:=hq7.f6;have ky:=hq7.fy);(go_simp <;> with_reducible rfl)⟩) (by assumption) ?_
  (try simp only [Act.put,List.setIfInBounds_toArray,List.set_cons_zero,List.set_cons_succ,List.getElem_toArray,List.getElem_cons_zero,List.getElem_cons_succ])
  refine wpAnyH_take (i:=5) rfl (by kernel_rfl) (by kernel_rfl) (by kernel_rfl) (fun _ _ _ h => h) (Or.inl ⟨by rfl,by intro w hSw;(have hq7:Cf7 _ vb yb F.dst c x k v:=hSw;have k0:=hq7.f0;have k1:=hq7.f1;have k2:=hq7.f2;have k3:=hq7.f3;have k4:=hq7.f4;have k5:=hq7.f5;have k6:=hq7.f6;have ky:=hq7.fy);(go_simp <;> with_reducible rfl)⟩) (by assumption) ?_
  (try simp only [Act.put,List.setIfInBounds_toArray,List.set_cons_zero,List.set_cons_succ,List.getElem_toArray,List.getElem_cons_zero,List.getElem_cons_succ])
  refine wpAnyH_take (i:=6) rfl (by kernel_rfl) (by kernel_rfl) (by kernel_rfl) (fun _ _ _ h => h) (Or.inl ⟨by rfl,by intro w hSw;(have hq7:Cf7 _ vb yb F.dst c x k v:=hSw;have k0:=hq7.f0;have k1:=hq7.f1;have k2:=hq7.f2;have k3:=hq7.f3;have k4:=hq7.f4;have k5:=hq7.f5;have k6:=hq7.f6;have ky:=hq7.fy);(go_simp <;> with_reducible rfl)⟩) (by assumption) ?_
  (try simp only [Act.put,List.setIfInBounds_toArray,List.set_cons_zero,List.set_cons_succ,List.getElem_toArray,List.getElem_cons_zero,List.getElem_cons_succ])
  refine wpAnyH_take (i:=7) rfl (by kernel_rfl) (by kernel_rfl) (by kernel_rfl) (fun _ _ _ h => h) (Or.inl ⟨by rfl,by intro w hSw;(have hq7:Cf7 _ vb yb F.dst c x k v:=hSw;have k0:=hq7.f0;have k1:=hq7.f1;have k2:=hq7.f2;have k3:=hq7.f3;have k4:=hq7.f4;have k5:=hq7.f5;have k6:=hq7.f6;have ky:=hq7.fy);(go_simp <;> with_reducible rfl)⟩) (by assumption) ?_
  (try simp only [Act.put,List.setIfInBounds_toArray,List.set_cons_zero,List.set_cons_succ,List.getElem_toArray,List.getElem_cons_zero,List.getElem_cons_succ])
  refine wpAnyH_take (i:=8) rfl (by kernel_rfl) (by kernel_rfl) (by kernel_rfl) (fun _ _ _ h => h) (Or.inl ⟨by rfl,by intro w hSw;(have hq7:Cf7 _ vb yb F.dst c x k v:=hSw;have k0:=hq7.f0;have k1:=hq7.f1;have k2:=hq7.f2;have k3:=hq7.f3;have k4:=hq7.f4;have k5:=hq7.f5;have k6:=hq7.f6;have ky:=hq7.fy);(go_simp <;> with_reducible rfl)⟩) (by assumption) ?_
  (try simp only [Act.put,List.setIfInBounds_toArray,List.set_cons_zero,List.set_cons_succ,List.getElem_toArray,List.getElem_cons_zero,List.getElem_cons_succ])
  refine wpAnyH_take (i:=9) rfl (by kernel_rfl) (by kernel_rfl) (by kernel_rfl) (fun _ _ _ h => h) (Or.inl ⟨by rfl,by intro w hSw;(have hq7:Cf7 _ vb yb F.dst c x k v:=hSw;have k0:=hq7.f0;have k1:=hq7.f1;have k2:=hq7.f2;have k3:=hq7.f3;have k4:=hq7.f4;have k5:=hq7.f5;have k6:=hq7.f6;have ky:=hq7.fy);(go_simp <;> with_reducible rfl)⟩) (by assumption) ?_
  (try simp only [Act.put,List.setIfInBounds_toArray,List.set_cons_zero,List.set_cons_succ,List.getElem_toArray,List.getElem_cons_zero,List.getElem_cons_succ])
  refine wpAnyH_ready (rs:=[10]) (by kernel_rfl) (by simp) (AllReadyH.cons rfl (fun K hK => ?_) AllReadyH.nil)
  go_simp
  refine (HDST.out _ (by exact hbc.drew)).mono ?_
  rintro e w6 ⟨rfl,hb6⟩
  have hvl6:vb < wc.heap.size:=(Array.getElem?_eq_some_iff.1 hVc).1
  have hV6:=(hb6.block vb hvl6).trans hVc
  have hbc6:=hbc.drew.trans (hb6.mono hbc.drew.size)
  have s10:w6.cell? ⟨vb,10,none⟩ = some (.int .i64 (p:Int)):=cell_blk hV6 rfl
  have f10:w6.frozen? ⟨vb,10,none⟩ = false:=blk_frozen 10 hV6
  refine hK.out _ _ ((by exact Cf7.below hHeld hb6)) (fun hHeld => ?_)
  clear hK K
  (try simp only [Act.put,List.setIfInBounds_toArray,List.set_cons_zero,List.set_cons_succ,List.getElem_toArray,List.getElem_cons_zero,List.getElem_cons_succ])
  refine wpAnyH_take (i:=11) rfl (by kernel_rfl) (by kernel_rfl) (by kernel_rfl) (fun _ _ _ h => h) (Or.inl ⟨by rfl,by intro w hSw;(have hq7:Cf7 _ vb yb F.dst c x k v:=hSw;have k0:=hq7.f0;have k1:=hq7.f1;have k2:=hq7.f2;have k3:=hq7.f3;have k4:=hq7.f4;have k5:=hq7.f5;have k6:=hq7.f6;have ky:=hq7.fy);(go_simp <;> with_reducible rfl)⟩) (by assumption) ?_
  (try simp only [Act.put,List.setIfInBounds_toArray,List.set_cons_zero,List.set_cons_succ,List.getElem_toArray,List.getElem_cons_zero,List.getElem_cons_succ])
  refine wpAnyH_take (i:=12) rfl (by kernel_rfl) (by kernel_rfl) (by kernel_rfl) (fun _ _ _ h => h) (Or.inl ⟨by rfl,by intro w hSw;(have hq7:Cf7 _ vb yb F.dst c x k v:=hSw;have k0:=hq7.f0;have k1:=hq7.f1;have k2:=hq7.f2;have k3:=hq7.f3;have k4:=hq7.f4;have k5:=hq7.f5;have k6:=hq7.f6;have ky:=hq7.fy);(go_simp <;> with_reducible rfl)⟩) (by assumption) ?_
  (try simp only [Act.put,List.setIfInBounds_toArray,List.set_cons_zero,List.set_cons_succ,List.getElem_toArray,List.getElem_cons_zero,List.getElem_cons_succ])
  refine wpAnyH_take (i:=13) rfl (by kernel_rfl) (by kernel_rfl) (by kernel_rfl) (fun _ _ _ h => h) (Or.inl ⟨by rfl,by intro w hSw;(have hq7:Cf7 _ vb yb F.dst c x k v:=hSw;have k0:=hq7.f0;have k1:=hq7.f1;have k2:=hq7.f2;have k3:=hq7.f3;have k4:=hq7.f4;have k5:=hq7.f5;have k6:=hq7.f6;have ky:=hq7.fy);(go_simp <;> with_reducible rfl)⟩) (by assumption) ?_
  (try simp only [Act.put,List.setIfInBounds_toArray,List.set_cons_zero,List.set_cons_succ,List.getElem_toArray,List.getElem_cons_zero,List.getElem_cons_succ])
  refine wpAnyH_ready (rs:=[14]) (by kernel_rfl) (by simp) (AllReadyH.cons rfl (fun K hK => ?_) AllReadyH.nil)
  go_simp
  refine (HOD.out _).mono ?_
  rintro e w5 ⟨rfl,rfl⟩
  refine hK.out _ _ ((by exact hHeld)) (fun hHeld => ?_)
  clear hK K
  (try simp only [Act.put,List.setIfInBounds_toArray,List.set_cons_zero,List.set_cons_succ,List.getElem_toArray,List.getElem_cons_zero,List.getElem_cons_succ])
  refine wpAnyH_take (i:=15) rfl (by kernel_rfl) (by kernel_rfl) (by kernel_rfl) (fun _ _ _ h => h) (Or.inl ⟨by rfl,by intro w hSw;(have hq7:Cf7 _ vb yb F.dst c x k v:=hSw;have k0:=hq7.f0;have k1:=hq7.f1;have k2:=hq7.f2;have k3:=hq7.f3;have k4:=hq7.f4;have k5:=hq7.f5;have k6:=hq7.f6;have ky:=hq7.fy);(go_simp <;> with_reducible rfl)⟩) (by assumption) ?_
  (try simp only [Act.put,List.setIfInBounds_toArray,List.set_cons_zero,List.set_cons_succ,List.getElem_toArray,List.getElem_cons_zero,List.getElem_cons_succ])
  refine wpAnyH_take (i:=16) rfl (by kernel_rfl) (by kernel_rfl) (by kernel_rfl) (fun _ _ _ h => h) (Or.inl ⟨by rfl,by intro w hSw;(have hq7:Cf7 _ vb yb F.dst c x k v:=hSw;have k0:=hq7.f0;have k1:=hq7.f1;have k2:=hq7.f2;have k3:=hq7.f3;have k4:=hq7.f4;have k5:=hq7.f5;have k6:=hq7.f6;have ky:=hq7.fy);(go_simp <;> with_reducible rfl)⟩) (by assumption) ?_
  (try simp only [Act.put,List.setIfInBounds_toArray,List.set_cons_zero,List.set_cons_succ,List.getElem_toArray,List.getElem_cons_zero,List.getElem_cons_succ])
  refine wpAnyH_take (i:=17) rfl (by kernel_rfl) (by kernel_rfl) (by kernel_rfl) (fun _ _ _ h => h) (Or.inl ⟨by rfl,by intro w hSw;(have hq7:Cf7 _ vb yb F.dst c x k v:=hSw;have k0:=hq7.f0;have k1:=hq7.f1;have k2:=hq7.f2;have k3:=hq7.f3;have k4:=hq7.f4;have k5:=hq7.f5;have k6:=hq7.f6;have ky:=hq7.fy);(go_simp <;> with_reducible rfl)⟩) (by assumption) ?_
  (try simp only [Act.put,List.setIfInBounds_toArray,List.set_cons_zero,List.set_cons_succ,List.getElem_toArray,List.getElem_cons_zero,List.getElem_cons_succ])
  refine wpAnyH_ready (rs:=[18]) (by kernel_rfl) (by simp) (AllReadyH.cons rfl (fun K hK => ?_) AllReadyH.nil)
  go_simp
  refine hK.out _ _ ((by exact Cf7.set10 hHeld hny _)) (fun hHeld => ?_)
  clear hK K
  (try simp only [Act.put,List.setIfInBounds_toArray,List.set_cons_zero,List.set_cons_succ,List.getElem_toArray,List.getElem_cons_zero,List.getElem_cons_succ])
  refine wpAnyH_done (by kernel_rfl) ?_ _
  obtain ⟨X,HX⟩:∃ u,Hid (u = w6.setCell ⟨vb,10,none⟩ (.int .i64 (r:Int))):=⟨_,rfl⟩
  rw [← HX.out]
  have HOW:=(HO.out.mono (T:=New w.heap.size fun j => j = vb ∨ j = yb) fun _ _ h => h.elim).trans ((Only.of_below (S:=New w.heap.size fun j => j = vb ∨ j = yb) hbc6))
  have HOX:Hid (Only (New w.heap.size fun j => j = vb ∨ j = yb) w X):=Lib.hid (by rw [HX.out];exact HOW.set (p:=⟨vb,10,none⟩) (.inr (.inl rfl)) _)
  have HVX:Hid (X.heap[vb]? = some (.cells (vV c x k (true) ((.slice A ds.length cap)) (1) (r) (i) (len) (st) (mk)) 52 (0,0))):=Lib.hid (by rw [HX.out];exact vset10 hV6 r)
  have HYX:=Lib.hid (show WordsAt X yb _ from by rw [HX.out];exact (HY1.out.below hbc6).of (Below.heap_setCell _ _ _ _ (by show yb ≠ vb;exact hny.symm)))
  have HZC:=(hbc6.block w.heap.size (by have:=HZ.out;exact (Array.getElem?_eq_some_iff.1 this).1)).trans HZ.out

  have HZX:Hid (X.heap[w.heap.size]? = some (.cells #[.bool false,.int .i64 0,.slice none 0 0,.bool false,.int .i64 0,.bool false,.bool false,.bool false,.int .i64 0] 56 (0,0))):=Lib.hid (by rw [HX.out];exact (Below.heap_setCell _ _ _ _ hzv).trans HZC)
  have hth:=there_at (W:=X) HZX.out (n:=(didV false 0 (.slice none 0 0) false (false) false (0):Array Value).size) rfl
  clear HZC HOW hVc hZc hV6 x0 x1 x2 x3 x4 x5 x6 x10 g0 g1 g2 g3 g4 g5 g6 g10 yc yf q0 q1 q2 q3 q4 q5 q6 q8 q9 q10 q11 q14 s10 f10
  go_wp2_with (first | (with_reducible refine wpList_store_mid (by kernel_rfl) _ _ _ rfl w.heap.size 0 (didV false 0 (.slice none 0 0) false (false) false (0)) (by kernel_rfl) (by kernel_rfl) hth hsd (by kernel_rfl) ?_))
  have hrg:=World.rangeAt_setCells_same X w.heap.size 0 [.bool false,.int .i64 0,.slice none 0 0,.bool false,.int .i64 0,.bool (false),.bool false,.bool false,.int .i64 (0)] (there_at (cs:=#[.bool false,.int .i64 0,.slice none 0 0,.bool false,.int .i64 0,.bool false,.bool false,.bool false,.int .i64 0]) (n:=9) (show (X).heap[w.heap.size]? = _ from HZX.out) rfl)
  (try simp only [Exit.inBlock,Exit.then])
  refine bodyPost_ret (results_cell_row rfl _ _ w.heap.size [.bool false,.int .i64 0,.slice none 0 0,.bool false,.int .i64 0,.bool (false),.bool false,.bool false,.int .i64 (0)] _ rfl hrg Tryz.underlying56 rfl did_size) rfl ?_
  obtain ⟨v1,v2⟩:=HH.out.fin (X:=X) HVX.out HYX.out HOX.out rfl HH.out.w32 [.bool false,.int .i64 0,.slice none 0 0,.bool false,.int .i64 0,.bool (false),.bool false,.bool false,.int .i64 (0)]
  exact ⟨rfl,v1,v2⟩
theorem dwrite2_b (W w:World) (vb yb:Nat) (c:Cfg) (x:CfgAt) (k:Nat) (F:Fr) (ws:List Int) (A:Option Addr) (ds:List Int) (cap:Nat) (p i:Nat) (len st:Int) (mk:Bool) (now:Int) (h:VAt W w vb yb c x k F ws true (.slice A ds.length cap) 2 p i len st mk) (hpi:p ≤ 1 ∧ i ≤ 1) (hds:ds.length ≤ F.n):Calls Tryz.prog 38 #[.pointer (some ⟨vb,0,none⟩),.slice (some ⟨yb,0,none⟩) ws.length ws.length,.int .i64 now] w (VGives W w vb yb c x k F (ws) true (.slice A ds.length cap) (2) (p) (1 - oddN (ws.getD (F.src + 1 + p) 0)) len st (mk) (didV false 0 (.slice none 0 0) false (false) false (0))):=by
  have hsl:=h.len.src
  have hmx:=h.len.max
  have hn2:=h.len.n2
  obtain ⟨T,hT⟩:∃ u,u = F.src + 1 + p:=⟨_,rfl⟩
  rw [← hT]
  have h32s:=(h.w32 T).1
  unfold rd at h32s
  have hTl:T < ws.length:=by omega
  obtain ⟨v,hv⟩:∃ u,ws.getD T 0 = u:=⟨_,rfl⟩
  rw [hv] at h32s ⊢
  have HOD:=Lib.hid (fun W' => rodd_b v W' h32s)
  have hq1:=oddN_le v
  obtain ⟨q,hq⟩:∃ q,oddN v = q:=⟨_,rfl⟩
  rw [hq] at HOD hq1 ⊢
  obtain ⟨r,hr⟩:∃ r,r = 1 - q:=⟨_,rfl⟩
  rw [← hr]
  have er:(1:Int) - (q:Int) = (r:Nat):=by omega
  have hrw:IntKind.i64.wrap (r:Int) = r:=IntWalk.i64_in _ (by omega)
  have eT:(F.src:Int) + 1 + (p:Int) = (T:Nat):=by omega
  have hTw:IntKind.i64.wrap (T:Int) = T:=IntWalk.i64_in _ (by omega)
  have hsw:IntKind.i64.wrap ((F.src:Int) + 1) = (F.src:Int) + 1:=IntWalk.i64_in _ (by omega)
  clear hT hq hr
  have HV:=Lib.hid hv
  have hsd:(Tryz.prog.info? 56).map (·.size) = some (didV false 0 (.slice none 0 0) false (false) false (0):Array Value).size:=did_size
  have hzy:w.heap.size ≠ yb:=fun e => by have:=h.row.lt;omega
  have hzv:w.heap.size ≠ vb:=fun e => by have:=(Array.getElem?_eq_some_iff.1 h.blk).1;omega
  have hny:vb ≠ yb:=h.ne.1
  obtain ⟨W1,HW1,hsz,hO,hz⟩:=did_new w
  have hvl:vb < w.heap.size:=(Array.getElem?_eq_some_iff.1 h.blk).1
  have hyl:=h.row.lt
  have hV1:=hO.at_ h.blk (fun h => h)
  have hY1:=h.row.of (hO.block yb hyl (fun h => h))
  have hB1:Below W.heap.size W W1:=h.below.trans ⟨hO.os,hO.tape,hO.output,hO.size,fun j hj => hO.block j (by have:=h.below.size;omega) (fun h => h)⟩
  have hcW:CfgIn W1 W1.heap.size c x:=h.cfg.later hB1
  have HSRC:Hid (∀ d os,Calls Tryz.prog 55 #[.agg #[.slice x.pa c.parts.length x.pc,.slice x.ca c.chans.length x.cc,.int .i64 c.len0,.slice x.aa c.win0.length x.ac,.int .i64 c.len1,.slice x.ba c.win1.length x.bc],.int .i64 (k:Int)] (grow (redrawn W1 d) os) (fun e w'' => e = .returned (.agg #[.int .i64 (F.src:Int),.int .i64 (srcSpan c k).2]) ∧ ∃ p:Regrown,w'' = grow (redrawn W1 p.d) p.os)):=Lib.hid (fun d os => by
    have q:=rsource_b c x k (grow (redrawn W1 d) os) (hcW.later (below_regrown W1 d os)) h.wf h.few
    rw [h.fr.src] at q
    exact Calls.regrown_of q)
  have HBUF:Hid (∀ d os,Calls Tryz.prog 70 #[.agg #[.slice x.pa c.parts.length x.pc,.slice x.ca c.chans.length x.cc,.int .i64 c.len0,.slice x.aa c.win0.length x.ac,.int .i64 c.len1,.slice x.ba c.win1.length x.bc],.int .i64 (k:Int),.int .i64 (p:Int),.int .i64 (i:Int)] (grow (redrawn W1 d) os) (fun e w'' => e = .returned (.agg #[.int .i64 ((bufA F p i:Nat):Int),.int .i64 (bufSpan c k p i).2]) ∧ ∃ p:Regrown,w'' = grow (redrawn W1 p.d) p.os)):=Lib.hid (fun d os => by
    have q:=rbuffer_b c x k p i (grow (redrawn W1 d) os) (hcW.later (below_regrown W1 d os)) h.wf h.few
    rw [h.fr.buf p i hpi.1 hpi.2] at q
    exact Calls.regrown_of q)
  have hfs:=run_span0
  have q0:∀ rg:Regrown,(grow (redrawn W1 rg.d) rg.os).cell? ⟨vb,0,none⟩ = some (.slice x.pa c.parts.length x.pc):=fun rg => cell_regrown (cell_blk hV1 rfl) rg.d rg.os
  have q1:∀ rg:Regrown,(grow (redrawn W1 rg.d) rg.os).cell? ⟨vb,1,none⟩ = some (.slice x.ca c.chans.length x.cc):=fun rg => cell_regrown (cell_blk hV1 rfl) rg.d rg.os
  have q2:∀ rg:Regrown,(grow (redrawn W1 rg.d) rg.os).cell? ⟨vb,2,none⟩ = some (.int .i64 c.len0):=fun rg => cell_regrown (cell_blk hV1 rfl) rg.d rg.os
  have q3:∀ rg:Regrown,(grow (redrawn W1 rg.d) rg.os).cell? ⟨vb,3,none⟩ = some (.slice x.aa c.win0.length x.ac):=fun rg => cell_regrown (cell_blk hV1 rfl) rg.d rg.os
  have q4:∀ rg:Regrown,(grow (redrawn W1 rg.d) rg.os).cell? ⟨vb,4,none⟩ = some (.int .i64 c.len1):=fun rg => cell_regrown (cell_blk hV1 rfl) rg.d rg.os
  have q5:∀ rg:Regrown,(grow (redrawn W1 rg.d) rg.os).cell? ⟨vb,5,none⟩ = some (.slice x.ba c.win1.length x.bc):=fun rg => cell_regrown (cell_blk hV1 rfl) rg.d rg.os
  have q6:∀ rg:Regrown,(grow (redrawn W1 rg.d) rg.os).cell? ⟨vb,6,none⟩ = some (.int .i64 (k:Int)):=fun rg => cell_regrown (cell_blk hV1 rfl) rg.d rg.os
  have q8:∀ rg:Regrown,(grow (redrawn W1 rg.d) rg.os).cell? ⟨vb,8,none⟩ = some ((.slice A ds.length cap)):=fun rg => cell_regrown (cell_blk hV1 rfl) rg.d rg.os
  have q9:∀ rg:Regrown,(grow (redrawn W1 rg.d) rg.os).cell? ⟨vb,9,none⟩ = some (.int .i64 2):=fun rg => cell_regrown (cell_blk hV1 rfl) rg.d rg.os
  have q10:∀ rg:Regrown,(grow (redrawn W1 rg.d) rg.os).cell? ⟨vb,10,none⟩ = some (.int .i64 (p:Int)):=fun rg => cell_regrown (cell_blk hV1 rfl) rg.d rg.os
  have q11:∀ rg:Regrown,(grow (redrawn W1 rg.d) rg.os).cell? ⟨vb,11,none⟩ = some (.int .i64 (i:Int)):=fun rg => cell_regrown (cell_blk hV1 rfl) rg.d rg.os
  have q14:∀ rg:Regrown,(grow (redrawn W1 rg.d) rg.os).cell? ⟨vb,14,none⟩ = some (.bool mk):=fun rg => cell_regrown (cell_blk hV1 rfl) rg.d rg.os
  have hixl:T < ws.length:=by omega
  have hbc:=Below.refl W1.heap.size W1
  have hzl:w.heap.size < W1.heap.size:=(Array.getElem?_eq_some_iff.1 hz).1
  have HV1:=Lib.hid hV1;have HY1:=Lib.hid hY1;have HO:=Lib.hid hO;have HZ:=Lib.hid hz;have HH:=Lib.hid h;have HB1:=Lib.hid hB1
  clear hV1 hY1 hO hz hB1 hcW
  go_enter Tryz.func38,Tryz.ntmps38
  go_wp2_with (first | (rw [← HW1.out]) | (((first | with_reducible refine wpList_on hbc ?_ | with_reducible refine wp_on hbc (by kernel_rfl) (by kernel_rfl) ?_);(repeat (first | (go_big_quiet_want;(refine quiet_eqlT 117 _ _ _ rfl _ _ rfl rfl (eqS _ _ _ _ true (by simp)) (by kernel_rfl) ?_);go_big_quiet_on;(try simp only [Act.put,List.setIfInBounds_toArray,List.set_cons_zero,List.set_cons_succ])) | go_big_quiet_step (first | with_reducible exact HSRC.out _ _ | with_reducible exact HBUF.out _ _)));with_reducible refine wpQuiet_nil ?_;intro wc hbc;(try clear x8 x9 x10 x11 x14 g8 g9 g10 g11 g14 yc yf hVc hZc);have hVc:=(hbc.block vb (Array.getElem?_eq_some_iff.1 HV1.out).1).trans HV1.out;have x8:wc.cell? ⟨vb,8,none⟩ = some ((.slice A ds.length cap)):=cell_blk hVc rfl;have x9:wc.cell? ⟨vb,9,none⟩ = some (.int .i64 2):=cell_blk hVc rfl;have x10:wc.cell? ⟨vb,10,none⟩ = some (.int .i64 (p:Int)):=cell_blk hVc rfl;have x11:wc.cell? ⟨vb,11,none⟩ = some (.int .i64 (i:Int)):=cell_blk hVc rfl;have x14:wc.cell? ⟨vb,14,none⟩ = some (.bool mk):=cell_blk hVc rfl;have g8:wc.frozen? ⟨vb,8,none⟩ = false:=blk_frozen 8 hVc;have g9:wc.frozen? ⟨vb,9,none⟩ = false:=blk_frozen 9 hVc;have g10:wc.frozen? ⟨vb,10,none⟩ = false:=blk_frozen 10 hVc;have g11:wc.frozen? ⟨vb,11,none⟩ = false:=blk_frozen 11 hVc;have g14:wc.frozen? ⟨vb,14,none⟩ = false:=blk_frozen 14 hVc;have yc:wc.cell? ⟨yb,T,none⟩ = some (.int .u32 v):=yv_cell ((HY1.out.below hbc).cell hixl) HV.out;have yf:wc.frozen? ⟨yb,T,none⟩ = false:=(HY1.out.below hbc).frozen _;have hZc:=(hbc.block w.heap.size hzl).trans HZ.out)) | (go_at_call 71;((with_reducible refine (HOD.out _).mono ?_);rintro e w5 ⟨rfl,rfl⟩)) | (with_reducible refine wpList_store_mid (by kernel_rfl) _ _ _ rfl w.heap.size 0 (didV false 0 (.slice none 0 0) false (false) false (0)) (by kernel_rfl) (by kernel_rfl) (there_at ((Below.heap_setCell _ _ _ _ hzv).trans hZc) rfl) hsd (by kernel_rfl) ?_))
  obtain ⟨X,HX⟩:∃ u,Hid (u = wc.setCell ⟨vb,11,none⟩ (.int .i64 (r:Int))):=⟨_,rfl⟩
  rw [← HX.out]
  have HOW:=(HO.out.mono (T:=New w.heap.size fun j => j = vb ∨ j = yb) fun _ _ h => h.elim).trans ((Only.of_below (S:=New w.heap.size fun j => j = vb ∨ j = yb) hbc))
  have HOX:Hid (Only (New w.heap.size fun j => j = vb ∨ j = yb) w X):=Lib.hid (by rw [HX.out];exact HOW.set (p:=⟨vb,11,none⟩) (.inr (.inl rfl)) _)
  have HVX:Hid (X.heap[vb]? = some (.cells (vV c x k (true) ((.slice A ds.length cap)) (2) (p) (r) (len) (st) (mk)) 52 (0,0))):=Lib.hid (by rw [HX.out];exact vset11 hVc r)
  have HYX:=Lib.hid (show WordsAt X yb _ from by rw [HX.out];exact (HY1.out.below hbc).of (Below.heap_setCell _ _ _ _ (by show yb ≠ vb;exact hny.symm)))
  have HZC:=(hbc.block w.heap.size (by have:=HZ.out;exact (Array.getElem?_eq_some_iff.1 this).1)).trans HZ.out

  have HZX:Hid (X.heap[w.heap.size]? = some (.cells #[.bool false,.int .i64 0,.slice none 0 0,.bool false,.int .i64 0,.bool false,.bool false,.bool false,.int .i64 0] 56 (0,0))):=Lib.hid (by rw [HX.out];exact (Below.heap_setCell _ _ _ _ hzv).trans HZC)
  have hrg:=World.rangeAt_setCells_same X w.heap.size 0 [.bool false,.int .i64 0,.slice none 0 0,.bool false,.int .i64 0,.bool (false),.bool false,.bool false,.int .i64 (0)] (there_at (cs:=#[.bool false,.int .i64 0,.slice none 0 0,.bool false,.int .i64 0,.bool false,.bool false,.bool false,.int .i64 0]) (n:=9) (show (X).heap[w.heap.size]? = _ from HZX.out) rfl)
  (try simp only [Exit.inBlock,Exit.then])
  refine bodyPost_ret (results_cell_row rfl _ _ w.heap.size [.bool false,.int .i64 0,.slice none 0 0,.bool false,.int .i64 0,.bool (false),.bool false,.bool false,.int .i64 (0)] _ rfl hrg Tryz.underlying56 rfl did_size) rfl ?_
  obtain ⟨v1,v2⟩:=HH.out.fin (X:=X) HVX.out HYX.out HOX.out rfl HH.out.w32 [.bool false,.int .i64 0,.slice none 0 0,.bool false,.int .i64 0,.bool (false),.bool false,.bool false,.int .i64 (0)]
  exact ⟨rfl,v1,v2⟩
theorem dwrite3_b (W w:World) (vb yb:Nat) (c:Cfg) (x:CfgAt) (k:Nat) (F:Fr) (ws:List Int) (A:Option Addr) (ds:List Int) (cap:Nat) (p i:Nat) (len st:Int) (mk:Bool) (now:Int) (h:VAt W w vb yb c x k F ws true (.slice A ds.length cap) 3 p i len st mk) (hpi:p ≤ 1 ∧ i ≤ 1) (hds:ds.length ≤ 1000):Calls Tryz.prog 38 #[.pointer (some ⟨vb,0,none⟩),.slice (some ⟨yb,0,none⟩) ws.length ws.length,.int .i64 now] w (VGives W w vb yb c x k F (ws.set (bufA F p i) (ds.length:Int)) true (.slice A ds.length cap) (3) (p) (i) len st (mk) (didV false 0 (.slice none 0 0) false (false) false (1 + 2 * (p:Int) + i))):=by
  have hbin:=h.len.buf hpi.1 hpi.2
  have hmx:=h.len.max
  obtain ⟨W1,HW1,hsz,hO,hz⟩:=did_new w
  have hvl:vb < w.heap.size:=(Array.getElem?_eq_some_iff.1 h.blk).1
  have hyl:=h.row.lt
  have hV1:=hO.at_ h.blk (fun h => h)
  have hY1:=h.row.of (hO.block yb hyl (fun h => h))
  have hB1:Below W.heap.size W W1:=h.below.trans ⟨hO.os,hO.tape,hO.output,hO.size,fun j hj => hO.block j (by have:=h.below.size;omega) (fun h => h)⟩
  have hcW:CfgIn W1 W1.heap.size c x:=h.cfg.later hB1
  have HSRC:Hid (∀ d os,Calls Tryz.prog 55 #[.agg #[.slice x.pa c.parts.length x.pc,.slice x.ca c.chans.length x.cc,.int .i64 c.len0,.slice x.aa c.win0.length x.ac,.int .i64 c.len1,.slice x.ba c.win1.length x.bc],.int .i64 (k:Int)] (grow (redrawn W1 d) os) (fun e w'' => e = .returned (.agg #[.int .i64 (F.src:Int),.int .i64 (srcSpan c k).2]) ∧ ∃ p:Regrown,w'' = grow (redrawn W1 p.d) p.os)):=Lib.hid (fun d os => by
    have q:=rsource_b c x k (grow (redrawn W1 d) os) (hcW.later (below_regrown W1 d os)) h.wf h.few
    rw [h.fr.src] at q
    exact Calls.regrown_of q)
  have HBUF:Hid (∀ d os,Calls Tryz.prog 70 #[.agg #[.slice x.pa c.parts.length x.pc,.slice x.ca c.chans.length x.cc,.int .i64 c.len0,.slice x.aa c.win0.length x.ac,.int .i64 c.len1,.slice x.ba c.win1.length x.bc],.int .i64 (k:Int),.int .i64 (p:Int),.int .i64 (i:Int)] (grow (redrawn W1 d) os) (fun e w'' => e = .returned (.agg #[.int .i64 ((bufA F p i:Nat):Int),.int .i64 (bufSpan c k p i).2]) ∧ ∃ p:Regrown,w'' = grow (redrawn W1 p.d) p.os)):=Lib.hid (fun d os => by
    have q:=rbuffer_b c x k p i (grow (redrawn W1 d) os) (hcW.later (below_regrown W1 d os)) h.wf h.few
    rw [h.fr.buf p i hpi.1 hpi.2] at q
    exact Calls.regrown_of q)
  have hfs:=run_span0
  have q0:∀ rg:Regrown,(grow (redrawn W1 rg.d) rg.os).cell? ⟨vb,0,none⟩ = some (.slice x.pa c.parts.length x.pc):=fun rg => cell_regrown (cell_blk hV1 rfl) rg.d rg.os
  have q1:∀ rg:Regrown,(grow (redrawn W1 rg.d) rg.os).cell? ⟨vb,1,none⟩ = some (.slice x.ca c.chans.length x.cc):=fun rg => cell_regrown (cell_blk hV1 rfl) rg.d rg.os
  have q2:∀ rg:Regrown,(grow (redrawn W1 rg.d) rg.os).cell? ⟨vb,2,none⟩ = some (.int .i64 c.len0):=fun rg => cell_regrown (cell_blk hV1 rfl) rg.d rg.os
  have q3:∀ rg:Regrown,(grow (redrawn W1 rg.d) rg.os).cell? ⟨vb,3,none⟩ = some (.slice x.aa c.win0.length x.ac):=fun rg => cell_regrown (cell_blk hV1 rfl) rg.d rg.os
  have q4:∀ rg:Regrown,(grow (redrawn W1 rg.d) rg.os).cell? ⟨vb,4,none⟩ = some (.int .i64 c.len1):=fun rg => cell_regrown (cell_blk hV1 rfl) rg.d rg.os
  have q5:∀ rg:Regrown,(grow (redrawn W1 rg.d) rg.os).cell? ⟨vb,5,none⟩ = some (.slice x.ba c.win1.length x.bc):=fun rg => cell_regrown (cell_blk hV1 rfl) rg.d rg.os
  have q6:∀ rg:Regrown,(grow (redrawn W1 rg.d) rg.os).cell? ⟨vb,6,none⟩ = some (.int .i64 (k:Int)):=fun rg => cell_regrown (cell_blk hV1 rfl) rg.d rg.os
  have q8:∀ rg:Regrown,(grow (redrawn W1 rg.d) rg.os).cell? ⟨vb,8,none⟩ = some (.slice A ds.length cap):=fun rg => cell_regrown (cell_blk hV1 rfl) rg.d rg.os
  have q9:∀ rg:Regrown,(grow (redrawn W1 rg.d) rg.os).cell? ⟨vb,9,none⟩ = some (.int .i64 3):=fun rg => cell_regrown (cell_blk hV1 rfl) rg.d rg.os
  have q10:∀ rg:Regrown,(grow (redrawn W1 rg.d) rg.os).cell? ⟨vb,10,none⟩ = some (.int .i64 (p:Int)):=fun rg => cell_regrown (cell_blk hV1 rfl) rg.d rg.os
  have q11:∀ rg:Regrown,(grow (redrawn W1 rg.d) rg.os).cell? ⟨vb,11,none⟩ = some (.int .i64 (i:Int)):=fun rg => cell_regrown (cell_blk hV1 rfl) rg.d rg.os
  have q14:∀ rg:Regrown,(grow (redrawn W1 rg.d) rg.os).cell? ⟨vb,14,none⟩ = some (.bool mk):=fun rg => cell_regrown (cell_blk hV1 rfl) rg.d rg.os
  have hixl:bufA F p i < ws.length:=by omega
  have hbc:=Below.refl W1.heap.size W1
  have hzl:w.heap.size < W1.heap.size:=(Array.getElem?_eq_some_iff.1 hz).1
  have HV1:=Lib.hid hV1;have HY1:=Lib.hid hY1;have HO:=Lib.hid hO;have HZ:=Lib.hid hz;have HH:=Lib.hid h;have HB1:=Lib.hid hB1
  clear hV1 hY1 hO hz hB1 hcW
  go_enter Tryz.func38,Tryz.ntmps38
  go_wp2_with (first | (rw [← HW1.out]) | (((first | with_reducible refine wpList_on hbc ?_ | with_reducible refine wp_on hbc (by kernel_rfl) (by kernel_rfl) ?_);(repeat (first | (go_big_quiet_want;(refine quiet_eqlT 117 _ _ _ rfl _ _ rfl rfl (eqS _ _ _ _ true (by simp)) (by kernel_rfl) ?_);go_big_quiet_on;(try simp only [Act.put,List.setIfInBounds_toArray,List.set_cons_zero,List.set_cons_succ])) | go_big_quiet_step (first | with_reducible exact HSRC.out _ _ | with_reducible exact HBUF.out _ _)));with_reducible refine wpQuiet_nil ?_;intro wc hbc;(try clear x8 x9 x10 x11 x14 g8 g9 g10 g11 g14 yc yf hVc hZc);have hVc:=(hbc.block vb (Array.getElem?_eq_some_iff.1 HV1.out).1).trans HV1.out;have x8:wc.cell? ⟨vb,8,none⟩ = some (.slice A ds.length cap):=cell_blk hVc rfl;have x9:wc.cell? ⟨vb,9,none⟩ = some (.int .i64 3):=cell_blk hVc rfl;have x10:wc.cell? ⟨vb,10,none⟩ = some (.int .i64 (p:Int)):=cell_blk hVc rfl;have x11:wc.cell? ⟨vb,11,none⟩ = some (.int .i64 (i:Int)):=cell_blk hVc rfl;have x14:wc.cell? ⟨vb,14,none⟩ = some (.bool mk):=cell_blk hVc rfl;have g8:wc.frozen? ⟨vb,8,none⟩ = false:=blk_frozen 8 hVc;have g9:wc.frozen? ⟨vb,9,none⟩ = false:=blk_frozen 9 hVc;have g10:wc.frozen? ⟨vb,10,none⟩ = false:=blk_frozen 10 hVc;have g11:wc.frozen? ⟨vb,11,none⟩ = false:=blk_frozen 11 hVc;have g14:wc.frozen? ⟨vb,14,none⟩ = false:=blk_frozen 14 hVc;have yc:wc.cell? ⟨yb,bufA F p i,none⟩ = some (.int .u32 (ws.getD (bufA F p i) 0)):=(HY1.out.below hbc).cell hixl;have yf:wc.frozen? ⟨yb,bufA F p i,none⟩ = false:=(HY1.out.below hbc).frozen _;have hZc:=(hbc.block w.heap.size hzl).trans HZ.out)))
  obtain ⟨X,HX⟩:∃ u,Hid (u = wc.setCell ⟨yb,bufA F p i,none⟩ (.int .u32 (ds.length:Int))):=⟨_,rfl⟩
  rw [← HX.out]
  have HOW:=(HO.out.mono (T:=New w.heap.size fun j => j = vb ∨ j = yb) fun _ _ h => h.elim).trans ((Only.of_below (S:=New w.heap.size fun j => j = vb ∨ j = yb) hbc))
  have HOX:Hid (Only (New w.heap.size fun j => j = vb ∨ j = yb) w X):=Lib.hid (by rw [HX.out];exact HOW.set (p:=⟨yb,bufA F p i,none⟩) (.inr (.inr rfl)) _)
  have HVX:Hid (X.heap[vb]? = some (.cells (vV c x k (true) ((.slice A ds.length cap)) (3) (p) (i) (len) (st) (mk)) 52 (0,0))):=Lib.hid (by rw [HX.out];exact (Below.heap_setCell _ _ _ _ (by show vb ≠ yb;exact HH.out.ne.1)).trans hVc)
  have HYX:=Lib.hid (show WordsAt X yb _ from by rw [HX.out];exact (HY1.out.below hbc).set _ _)
  have HZC:=(hbc.block w.heap.size (by have:=HZ.out;exact (Array.getElem?_eq_some_iff.1 this).1)).trans HZ.out

  have HZX:Hid (X.heap[w.heap.size]? = some (.cells #[.bool false,.int .i64 0,.slice none 0 0,.bool false,.int .i64 0,.bool false,.bool false,.bool false,.int .i64 0] 56 (0,0))):=Lib.hid (by rw [HX.out];exact (Below.heap_setCell _ _ _ _ (by show w.heap.size ≠ yb;omega)).trans HZC)
  have hth:=there_at (W:=X) HZX.out (n:=(didV false 0 (.slice none 0 0) false (false) false (1 + 2 * (p:Int) + i):Array Value).size) rfl
  have hbf:IntKind.i64.wrap (IntKind.i64.wrap (1 + IntKind.i64.wrap (2 * (p:Int))) + (i:Int)) = 1 + 2 * (p:Int) + i:=by rw [IntWalk.i64_in (2 * (p:Int)) (by omega),IntWalk.i64_in (1 + 2 * (p:Int)) (by omega)];exact IntWalk.i64_in _ (by omega)
  have hsd:(Tryz.prog.info? 56).map (·.size) = some (didV false 0 (.slice none 0 0) false (false) false (1 + 2 * (p:Int) + i):Array Value).size:=did_size
  have e10:X.cell? ⟨vb,10,none⟩ = some (.int .i64 (p:Int)):=cell_blk HVX.out rfl
  have e11:X.cell? ⟨vb,11,none⟩ = some (.int .i64 (i:Int)):=cell_blk HVX.out rfl
  clear HZC HOW hVc x8 x9 x10 x11 x14 g8 g9 g10 g11 g14 yc yf q0 q1 q2 q3 q4 q5 q6 q8 q9 q10 q11 q14
  obtain ⟨i1,i2⟩:=hpi
  refine wp_region_held_drew (S:=(fun W' => W'.cell? ⟨vb,10,none⟩ = some (.int .i64 (p:Int)) ∧ W'.cell? ⟨vb,11,none⟩ = some (.int .i64 (i:Int)))) (by kernel_rfl) (⟨e10,e11⟩) (fun hHeld => ?_)
  refine wpAnyH_take (i:=0) rfl (by kernel_rfl) (by kernel_rfl) (by kernel_rfl) (fun _ _ _ h => h) (Or.inl ⟨by rfl,by intro w hSw;(skip);(go_simp <;> with_reducible rfl)⟩) (by assumption) ?_
  (try simp only [Act.put,List.setIfInBounds_toArray,List.set_cons_zero,List.set_cons_succ,List.getElem_toArray,List.getElem_cons_zero,List.getElem_cons_succ])
  refine wpAnyH_take (i:=1) rfl (by kernel_rfl) (by kernel_rfl) (by kernel_rfl) (fun _ _ _ h => h) (Or.inl ⟨by rfl,by intro w hSw;(skip);(go_simp <;> with_reducible rfl)⟩) (by assumption) ?_
  (try simp only [Act.put,List.setIfInBounds_toArray,List.set_cons_zero,List.set_cons_succ,List.getElem_toArray,List.getElem_cons_zero,List.getElem_cons_succ])
  refine wpAnyH_take (i:=2) rfl (by kernel_rfl) (by kernel_rfl) (by kernel_rfl) (fun _ _ _ h => h) (Or.inl ⟨by rfl,by intro w hSw;(skip);(go_simp <;> with_reducible rfl)⟩) (by assumption) ?_
  (try simp only [Act.put,List.setIfInBounds_toArray,List.set_cons_zero,List.set_cons_succ,List.getElem_toArray,List.getElem_cons_zero,List.getElem_cons_succ])
  refine wpAnyH_take (i:=3) rfl (by kernel_rfl) (by kernel_rfl) (by kernel_rfl) (fun _ _ _ h => h) (Or.inl ⟨by rfl,by intro w hSw;(skip);(go_simp <;> with_reducible rfl)⟩) (by assumption) ?_
  (try simp only [Act.put,List.setIfInBounds_toArray,List.set_cons_zero,List.set_cons_succ,List.getElem_toArray,List.getElem_cons_zero,List.getElem_cons_succ])
  refine wpAnyH_take (i:=4) rfl (by kernel_rfl) (by kernel_rfl) (by kernel_rfl) (fun _ _ _ h => h) (Or.inl ⟨by rfl,by intro w hSw;(skip);(go_simp <;> with_reducible rfl)⟩) (by assumption) ?_
  (try simp only [Act.put,List.setIfInBounds_toArray,List.set_cons_zero,List.set_cons_succ,List.getElem_toArray,List.getElem_cons_zero,List.getElem_cons_succ])
  refine wpAnyH_take (i:=5) rfl (by kernel_rfl) (by kernel_rfl) (by kernel_rfl) (fun _ _ _ h => h) (Or.inl ⟨by rfl,by intro w hSw;(skip);(go_simp <;> with_reducible rfl)⟩) (by assumption) ?_
  (try simp only [Act.put,List.setIfInBounds_toArray,List.set_cons_zero,List.set_cons_succ,List.getElem_toArray,List.getElem_cons_zero,List.getElem_cons_succ])
  refine wpAnyH_take (i:=6) rfl (by kernel_rfl) (by kernel_rfl) (by kernel_rfl) (fun _ _ _ h => h) (Or.inl ⟨by rfl,by intro w hSw;(skip);(go_simp <;> with_reducible rfl)⟩) (by assumption) ?_
  (try simp only [Act.put,List.setIfInBounds_toArray,List.set_cons_zero,List.set_cons_succ,List.getElem_toArray,List.getElem_cons_zero,List.getElem_cons_succ])
  refine wpAnyH_take (i:=7) rfl (by kernel_rfl) (by kernel_rfl) (by kernel_rfl) (fun _ _ _ h => h) (Or.inl ⟨by rfl,by intro w hSw;(skip);(go_simp <;> with_reducible rfl)⟩) (by assumption) ?_
  (try simp only [Act.put,List.setIfInBounds_toArray,List.set_cons_zero,List.set_cons_succ,List.getElem_toArray,List.getElem_cons_zero,List.getElem_cons_succ])
  refine wpAnyH_take (i:=8) rfl (by kernel_rfl) (by kernel_rfl) (by kernel_rfl) (fun _ _ _ h => h) (Or.inl ⟨by rfl,by intro w hSw;(skip);(go_simp <;> with_reducible rfl)⟩) (by assumption) ?_
  (try simp only [Act.put,List.setIfInBounds_toArray,List.set_cons_zero,List.set_cons_succ,List.getElem_toArray,List.getElem_cons_zero,List.getElem_cons_succ])
  refine wpAnyH_take (i:=9) rfl (by kernel_rfl) (by kernel_rfl) (by kernel_rfl) (fun _ _ _ h => h) (Or.inl ⟨by rfl,by intro w hSw;(skip);(go_simp <;> with_reducible rfl)⟩) (by assumption) ?_
  (try simp only [Act.put,List.setIfInBounds_toArray,List.set_cons_zero,List.set_cons_succ,List.getElem_toArray,List.getElem_cons_zero,List.getElem_cons_succ])
  refine wpAnyH_take (i:=10) rfl (by kernel_rfl) (by kernel_rfl) (by kernel_rfl) (fun _ _ _ h => h) (Or.inl ⟨by rfl,by intro w hSw;(skip);(go_simp <;> with_reducible rfl)⟩) (by assumption) ?_
  (try simp only [Act.put,List.setIfInBounds_toArray,List.set_cons_zero,List.set_cons_succ,List.getElem_toArray,List.getElem_cons_zero,List.getElem_cons_succ])
  refine wpAnyH_take (i:=11) rfl (by kernel_rfl) (by kernel_rfl) (by kernel_rfl) (fun _ _ _ h => h) (Or.inl ⟨by rfl,by intro w hSw;(skip);(go_simp <;> with_reducible rfl)⟩) (by assumption) ?_
  (try simp only [Act.put,List.setIfInBounds_toArray,List.set_cons_zero,List.set_cons_succ,List.getElem_toArray,List.getElem_cons_zero,List.getElem_cons_succ])
  refine wpAnyH_ready (rs:=[12]) (by kernel_rfl) (by simp) (AllReadyH.cons rfl (fun K hK => ?_) AllReadyH.nil)
  rw [if_pos (by rfl)]
  refine wp_store_mid _ _ _ rfl w.heap.size 0 (didV false 0 (.slice none 0 0) false (false) false (1 + 2 * (p:Int) + i)) rfl rfl hth hsd (by kernel_rfl) ?_
  refine hK.out _ _ (keep_box2 hHeld (by have:=hvl;show w.heap.size ≠ vb;omega)) (fun hHeld => ?_)
  clear hK K
  (try simp only [Act.put,List.setIfInBounds_toArray,List.set_cons_zero,List.set_cons_succ,List.getElem_toArray,List.getElem_cons_zero,List.getElem_cons_succ])
  refine wpAnyH_done (by kernel_rfl) ?_ _
  go_wp2
  have hrg:=World.rangeAt_setCells_same X.drew w.heap.size 0 [.bool false,.int .i64 0,.slice none 0 0,.bool false,.int .i64 0,.bool (false),.bool false,.bool false,.int .i64 (1 + 2 * (p:Int) + i)] (there_at (cs:=#[.bool false,.int .i64 0,.slice none 0 0,.bool false,.int .i64 0,.bool false,.bool false,.bool false,.int .i64 0]) (n:=9) (show (X.drew).heap[w.heap.size]? = _ from HZX.out) rfl)
  (try simp only [Exit.inBlock,Exit.then])
  refine bodyPost_ret (results_cell_row rfl _ _ w.heap.size [.bool false,.int .i64 0,.slice none 0 0,.bool false,.int .i64 0,.bool (false),.bool false,.bool false,.int .i64 (1 + 2 * (p:Int) + i)] _ rfl hrg Tryz.underlying56 rfl did_size) rfl ?_
  obtain ⟨v1,v2⟩:=HH.out.fin (X:=X.drew) HVX.out HYX.out HOX.out.drew (List.length_set ..) (HH.out.w32.set (by omega)) [.bool false,.int .i64 0,.slice none 0 0,.bool false,.int .i64 0,.bool (false),.bool false,.bool false,.int .i64 (1 + 2 * (p:Int) + i)]
  exact ⟨rfl,v1,v2⟩
theorem dwrite4_b (W w:World) (vb yb:Nat) (c:Cfg) (x:CfgAt) (k:Nat) (F:Fr) (ws:List Int) (A:Option Addr) (ds:List Int) (cap:Nat) (p i:Nat) (len st:Int) (mk:Bool) (now:Int) (h:VAt W w vb yb c x k F ws true (.slice A ds.length cap) 4 p i len st mk) (hpi:p ≤ 1 ∧ i ≤ 1) (hnow:0 ≤ now ∧ now ≤ 1000000) (hds:ds.length ≤ 1000):Calls Tryz.prog 38 #[.pointer (some ⟨vb,0,none⟩),.slice (some ⟨yb,0,none⟩) ws.length ws.length,.int .i64 now] w (VGives W w vb yb c x k F (ws.set (bufA F p i + 1) now) true (.slice A ds.length cap) (4) (p) (i) len st (mk) (didV false 0 (.slice none 0 0) false (false) true (0))):=by
  have hbin:=h.len.buf hpi.1 hpi.2
  have hmx:=h.len.max
  obtain ⟨T,hT⟩:∃ u,u = bufA F p i + 1:=⟨_,rfl⟩
  rw [← hT]
  have eT:((bufA F p i:Nat):Int) + 1 = (T:Nat):=by omega
  have hTl:T < ws.length:=by omega
  clear hT
  have hsd:(Tryz.prog.info? 56).map (·.size) = some (didV false 0 (.slice none 0 0) false (false) true (0):Array Value).size:=did_size
  have hzy:w.heap.size ≠ yb:=fun e => by have:=h.row.lt;omega
  obtain ⟨W1,HW1,hsz,hO,hz⟩:=did_new w
  have hvl:vb < w.heap.size:=(Array.getElem?_eq_some_iff.1 h.blk).1
  have hyl:=h.row.lt
  have hV1:=hO.at_ h.blk (fun h => h)
  have hY1:=h.row.of (hO.block yb hyl (fun h => h))
  have hB1:Below W.heap.size W W1:=h.below.trans ⟨hO.os,hO.tape,hO.output,hO.size,fun j hj => hO.block j (by have:=h.below.size;omega) (fun h => h)⟩
  have hcW:CfgIn W1 W1.heap.size c x:=h.cfg.later hB1
  have HSRC:Hid (∀ d os,Calls Tryz.prog 55 #[.agg #[.slice x.pa c.parts.length x.pc,.slice x.ca c.chans.length x.cc,.int .i64 c.len0,.slice x.aa c.win0.length x.ac,.int .i64 c.len1,.slice x.ba c.win1.length x.bc],.int .i64 (k:Int)] (grow (redrawn W1 d) os) (fun e w'' => e = .returned (.agg #[.int .i64 (F.src:Int),.int .i64 (srcSpan c k).2]) ∧ ∃ p:Regrown,w'' = grow (redrawn W1 p.d) p.os)):=Lib.hid (fun d os => by
    have q:=rsource_b c x k (grow (redrawn W1 d) os) (hcW.later (below_regrown W1 d os)) h.wf h.few
    rw [h.fr.src] at q
    exact Calls.regrown_of q)
  have HBUF:Hid (∀ d os,Calls Tryz.prog 70 #[.agg #[.slice x.pa c.parts.length x.pc,.slice x.ca c.chans.length x.cc,.int .i64 c.len0,.slice x.aa c.win0.length x.ac,.int .i64 c.len1,.slice x.ba c.win1.length x.bc],.int .i64 (k:Int),.int .i64 (p:Int),.int .i64 (i:Int)] (grow (redrawn W1 d) os) (fun e w'' => e = .returned (.agg #[.int .i64 ((bufA F p i:Nat):Int),.int .i64 (bufSpan c k p i).2]) ∧ ∃ p:Regrown,w'' = grow (redrawn W1 p.d) p.os)):=Lib.hid (fun d os => by
    have q:=rbuffer_b c x k p i (grow (redrawn W1 d) os) (hcW.later (below_regrown W1 d os)) h.wf h.few
    rw [h.fr.buf p i hpi.1 hpi.2] at q
    exact Calls.regrown_of q)
  have hfs:=run_span0
  have q0:∀ rg:Regrown,(grow (redrawn W1 rg.d) rg.os).cell? ⟨vb,0,none⟩ = some (.slice x.pa c.parts.length x.pc):=fun rg => cell_regrown (cell_blk hV1 rfl) rg.d rg.os
  have q1:∀ rg:Regrown,(grow (redrawn W1 rg.d) rg.os).cell? ⟨vb,1,none⟩ = some (.slice x.ca c.chans.length x.cc):=fun rg => cell_regrown (cell_blk hV1 rfl) rg.d rg.os
  have q2:∀ rg:Regrown,(grow (redrawn W1 rg.d) rg.os).cell? ⟨vb,2,none⟩ = some (.int .i64 c.len0):=fun rg => cell_regrown (cell_blk hV1 rfl) rg.d rg.os
  have q3:∀ rg:Regrown,(grow (redrawn W1 rg.d) rg.os).cell? ⟨vb,3,none⟩ = some (.slice x.aa c.win0.length x.ac):=fun rg => cell_regrown (cell_blk hV1 rfl) rg.d rg.os
  have q4:∀ rg:Regrown,(grow (redrawn W1 rg.d) rg.os).cell? ⟨vb,4,none⟩ = some (.int .i64 c.len1):=fun rg => cell_regrown (cell_blk hV1 rfl) rg.d rg.os
  have q5:∀ rg:Regrown,(grow (redrawn W1 rg.d) rg.os).cell? ⟨vb,5,none⟩ = some (.slice x.ba c.win1.length x.bc):=fun rg => cell_regrown (cell_blk hV1 rfl) rg.d rg.os
  have q6:∀ rg:Regrown,(grow (redrawn W1 rg.d) rg.os).cell? ⟨vb,6,none⟩ = some (.int .i64 (k:Int)):=fun rg => cell_regrown (cell_blk hV1 rfl) rg.d rg.os
  have q8:∀ rg:Regrown,(grow (redrawn W1 rg.d) rg.os).cell? ⟨vb,8,none⟩ = some (.slice A ds.length cap):=fun rg => cell_regrown (cell_blk hV1 rfl) rg.d rg.os
  have q9:∀ rg:Regrown,(grow (redrawn W1 rg.d) rg.os).cell? ⟨vb,9,none⟩ = some (.int .i64 4):=fun rg => cell_regrown (cell_blk hV1 rfl) rg.d rg.os
  have q10:∀ rg:Regrown,(grow (redrawn W1 rg.d) rg.os).cell? ⟨vb,10,none⟩ = some (.int .i64 (p:Int)):=fun rg => cell_regrown (cell_blk hV1 rfl) rg.d rg.os
  have q11:∀ rg:Regrown,(grow (redrawn W1 rg.d) rg.os).cell? ⟨vb,11,none⟩ = some (.int .i64 (i:Int)):=fun rg => cell_regrown (cell_blk hV1 rfl) rg.d rg.os
  have q14:∀ rg:Regrown,(grow (redrawn W1 rg.d) rg.os).cell? ⟨vb,14,none⟩ = some (.bool mk):=fun rg => cell_regrown (cell_blk hV1 rfl) rg.d rg.os
  have hixl:T < ws.length:=by omega
  have hbc:=Below.refl W1.heap.size W1
  have hzl:w.heap.size < W1.heap.size:=(Array.getElem?_eq_some_iff.1 hz).1
  have HV1:=Lib.hid hV1;have HY1:=Lib.hid hY1;have HO:=Lib.hid hO;have HZ:=Lib.hid hz;have HH:=Lib.hid h;have HB1:=Lib.hid hB1
  clear hV1 hY1 hO hz hB1 hcW
  go_enter Tryz.func38,Tryz.ntmps38
  go_wp2_with (first | (rw [← HW1.out]) | (((first | with_reducible refine wpList_on hbc ?_ | with_reducible refine wp_on hbc (by kernel_rfl) (by kernel_rfl) ?_);(repeat (first | (go_big_quiet_want;(refine quiet_eqlT 117 _ _ _ rfl _ _ rfl rfl (eqS _ _ _ _ true (by simp)) (by kernel_rfl) ?_);go_big_quiet_on;(try simp only [Act.put,List.setIfInBounds_toArray,List.set_cons_zero,List.set_cons_succ])) | go_big_quiet_step (first | with_reducible exact HSRC.out _ _ | with_reducible exact HBUF.out _ _)));with_reducible refine wpQuiet_nil ?_;intro wc hbc;(try clear x8 x9 x10 x11 x14 g8 g9 g10 g11 g14 yc yf hVc hZc);have hVc:=(hbc.block vb (Array.getElem?_eq_some_iff.1 HV1.out).1).trans HV1.out;have x8:wc.cell? ⟨vb,8,none⟩ = some (.slice A ds.length cap):=cell_blk hVc rfl;have x9:wc.cell? ⟨vb,9,none⟩ = some (.int .i64 4):=cell_blk hVc rfl;have x10:wc.cell? ⟨vb,10,none⟩ = some (.int .i64 (p:Int)):=cell_blk hVc rfl;have x11:wc.cell? ⟨vb,11,none⟩ = some (.int .i64 (i:Int)):=cell_blk hVc rfl;have x14:wc.cell? ⟨vb,14,none⟩ = some (.bool mk):=cell_blk hVc rfl;have g8:wc.frozen? ⟨vb,8,none⟩ = false:=blk_frozen 8 hVc;have g9:wc.frozen? ⟨vb,9,none⟩ = false:=blk_frozen 9 hVc;have g10:wc.frozen? ⟨vb,10,none⟩ = false:=blk_frozen 10 hVc;have g11:wc.frozen? ⟨vb,11,none⟩ = false:=blk_frozen 11 hVc;have g14:wc.frozen? ⟨vb,14,none⟩ = false:=blk_frozen 14 hVc;have yc:wc.cell? ⟨yb,T,none⟩ = some (.int .u32 (ws.getD (T) 0)):=(HY1.out.below hbc).cell hixl;have yf:wc.frozen? ⟨yb,T,none⟩ = false:=(HY1.out.below hbc).frozen _;have hZc:=(hbc.block w.heap.size hzl).trans HZ.out)) | (with_reducible refine wpList_store_mid (by kernel_rfl) _ _ _ rfl w.heap.size 0 (didV false 0 (.slice none 0 0) false (false) true (0)) (by kernel_rfl) (by kernel_rfl) (there_at ((Below.heap_setCell _ _ _ _ hzy).trans hZc) rfl) hsd (by kernel_rfl) ?_))
  obtain ⟨X,HX⟩:∃ u,Hid (u = wc.setCell ⟨yb,T,none⟩ (.int .u32 now)):=⟨_,rfl⟩
  rw [← HX.out]
  have HOW:=(HO.out.mono (T:=New w.heap.size fun j => j = vb ∨ j = yb) fun _ _ h => h.elim).trans ((Only.of_below (S:=New w.heap.size fun j => j = vb ∨ j = yb) hbc))
  have HOX:Hid (Only (New w.heap.size fun j => j = vb ∨ j = yb) w X):=Lib.hid (by rw [HX.out];exact HOW.set (p:=⟨yb,T,none⟩) (.inr (.inr rfl)) _)
  have HVX:Hid (X.heap[vb]? = some (.cells (vV c x k (true) ((.slice A ds.length cap)) (4) (p) (i) (len) (st) (mk)) 52 (0,0))):=Lib.hid (by rw [HX.out];exact (Below.heap_setCell _ _ _ _ (by show vb ≠ yb;exact HH.out.ne.1)).trans hVc)
  have HYX:=Lib.hid (show WordsAt X yb _ from by rw [HX.out];exact (HY1.out.below hbc).set _ _)
  have HZC:=(hbc.block w.heap.size (by have:=HZ.out;exact (Array.getElem?_eq_some_iff.1 this).1)).trans HZ.out

  have HZX:Hid (X.heap[w.heap.size]? = some (.cells #[.bool false,.int .i64 0,.slice none 0 0,.bool false,.int .i64 0,.bool false,.bool false,.bool false,.int .i64 0] 56 (0,0))):=Lib.hid (by rw [HX.out];exact (Below.heap_setCell _ _ _ _ (by show w.heap.size ≠ yb;omega)).trans HZC)
  have hrg:=World.rangeAt_setCells_same X w.heap.size 0 [.bool false,.int .i64 0,.slice none 0 0,.bool false,.int .i64 0,.bool (false),.bool false,.bool true,.int .i64 (0)] (there_at (cs:=#[.bool false,.int .i64 0,.slice none 0 0,.bool false,.int .i64 0,.bool false,.bool false,.bool false,.int .i64 0]) (n:=9) (show (X).heap[w.heap.size]? = _ from HZX.out) rfl)
  (try simp only [Exit.inBlock,Exit.then])
  refine bodyPost_ret (results_cell_row rfl _ _ w.heap.size [.bool false,.int .i64 0,.slice none 0 0,.bool false,.int .i64 0,.bool (false),.bool false,.bool true,.int .i64 (0)] _ rfl hrg Tryz.underlying56 rfl did_size) rfl ?_
  obtain ⟨v1,v2⟩:=HH.out.fin (X:=X) HVX.out HYX.out HOX.out (List.length_set ..) (HH.out.w32.set (by omega)) [.bool false,.int .i64 0,.slice none 0 0,.bool false,.int .i64 0,.bool (false),.bool false,.bool true,.int .i64 (0)]
  exact ⟨rfl,v1,v2⟩
theorem dwrite5_b (W w:World) (vb yb:Nat) (c:Cfg) (x:CfgAt) (k:Nat) (F:Fr) (ws:List Int) (db dof j:Nat) (ds:List Int) (cap:Nat) (p i:Nat) (len st:Int) (mk:Bool) (now:Int) (h:VAt W w vb yb c x k F ws true (.slice (some ⟨db,dof,none⟩) ds.length cap) (5 + (j:Int)) p i len st mk) (hpi:p ≤ 1 ∧ i ≤ 1) (hds:ds.length ≤ F.n) (hj:j < ds.length) (hd32:W32 ds) (hrow:w.cell? ⟨db,dof + j,none⟩ = some (.int .u32 (ds.getD j 0))) (hdb:db ≠ vb ∧ db ≠ yb ∧ db < w.heap.size):Calls Tryz.prog 38 #[.pointer (some ⟨vb,0,none⟩),.slice (some ⟨yb,0,none⟩) ws.length ws.length,.int .i64 now] w (VGives W w vb yb c x k F (ws.set (bufA F p i + 2 + j) (ds.getD j 0)) true (.slice (some ⟨db,dof,none⟩) ds.length cap) (5 + (j:Int)) (p) (i) len st (mk) (didV false 0 (.slice none 0 0) false (false) false (0))):=by
  have hbin:=h.len.buf hpi.1 hpi.2
  have hmx:=h.len.max
  obtain ⟨T,hT⟩:∃ u,u = bufA F p i + 2 + j:=⟨_,rfl⟩
  rw [← hT]
  obtain ⟨a,ha⟩:∃ u:Int,u = 5 + (j:Int):=⟨_,rfl⟩
  rw [← ha] at h ⊢
  obtain ⟨v,hv⟩:∃ u,u = ds.getD j 0:=⟨_,rfl⟩
  have hvr:=hd32 j
  unfold rd at hvr
  rw [← hv] at hrow hvr ⊢
  have eT:((bufA F p i:Nat):Int) + a - 3 = (T:Nat):=by omega
  have e5:a - 5 = (j:Nat):=by omega
  have hTl:T < ws.length:=by omega
  have hab:5 ≤ a ∧ a ≤ 100000:=by have:=h.len.n2;omega
  have d1:decide (a = 1) = false:=decide_eq_false (by omega)
  have d2:decide (a = 2) = false:=decide_eq_false (by omega)
  have d3:decide (a = 3) = false:=decide_eq_false (by omega)
  have d4:decide (a = 4) = false:=decide_eq_false (by omega)
  have d5:decide (a ≤ 4 + (ds.length:Int)) = true:=decide_eq_true (by omega)
  have hn2:=h.len.n2
  have hjw:IntKind.i64.wrap (j:Int) = j:=IntWalk.i64_in _ (by omega)
  have hTw:IntKind.i64.wrap (T:Int) = T:=IntWalk.i64_in _ (by omega)
  have hT1:IntKind.i64.wrap (((bufA F p i:Nat):Int) + a) = ((bufA F p i:Nat):Int) + a:=IntWalk.i64_in _ (by omega)
  clear hT ha hv
  have hsd:(Tryz.prog.info? 56).map (·.size) = some (didV false 0 (.slice none 0 0) false (false) false (0):Array Value).size:=did_size
  have hzy:w.heap.size ≠ yb:=fun e => by have:=h.row.lt;omega
  obtain ⟨W1,HW1,hsz,hO,hz⟩:=did_new w
  have hvl:vb < w.heap.size:=(Array.getElem?_eq_some_iff.1 h.blk).1
  have hyl:=h.row.lt
  have hV1:=hO.at_ h.blk (fun h => h)
  have hY1:=h.row.of (hO.block yb hyl (fun h => h))
  have hB1:Below W.heap.size W W1:=h.below.trans ⟨hO.os,hO.tape,hO.output,hO.size,fun j hj => hO.block j (by have:=h.below.size;omega) (fun h => h)⟩
  have hcW:CfgIn W1 W1.heap.size c x:=h.cfg.later hB1
  have HSRC:Hid (∀ d os,Calls Tryz.prog 55 #[.agg #[.slice x.pa c.parts.length x.pc,.slice x.ca c.chans.length x.cc,.int .i64 c.len0,.slice x.aa c.win0.length x.ac,.int .i64 c.len1,.slice x.ba c.win1.length x.bc],.int .i64 (k:Int)] (grow (redrawn W1 d) os) (fun e w'' => e = .returned (.agg #[.int .i64 (F.src:Int),.int .i64 (srcSpan c k).2]) ∧ ∃ p:Regrown,w'' = grow (redrawn W1 p.d) p.os)):=Lib.hid (fun d os => by
    have q:=rsource_b c x k (grow (redrawn W1 d) os) (hcW.later (below_regrown W1 d os)) h.wf h.few
    rw [h.fr.src] at q
    exact Calls.regrown_of q)
  have HBUF:Hid (∀ d os,Calls Tryz.prog 70 #[.agg #[.slice x.pa c.parts.length x.pc,.slice x.ca c.chans.length x.cc,.int .i64 c.len0,.slice x.aa c.win0.length x.ac,.int .i64 c.len1,.slice x.ba c.win1.length x.bc],.int .i64 (k:Int),.int .i64 (p:Int),.int .i64 (i:Int)] (grow (redrawn W1 d) os) (fun e w'' => e = .returned (.agg #[.int .i64 ((bufA F p i:Nat):Int),.int .i64 (bufSpan c k p i).2]) ∧ ∃ p:Regrown,w'' = grow (redrawn W1 p.d) p.os)):=Lib.hid (fun d os => by
    have q:=rbuffer_b c x k p i (grow (redrawn W1 d) os) (hcW.later (below_regrown W1 d os)) h.wf h.few
    rw [h.fr.buf p i hpi.1 hpi.2] at q
    exact Calls.regrown_of q)
  have hfs:=run_span0
  have q0:∀ rg:Regrown,(grow (redrawn W1 rg.d) rg.os).cell? ⟨vb,0,none⟩ = some (.slice x.pa c.parts.length x.pc):=fun rg => cell_regrown (cell_blk hV1 rfl) rg.d rg.os
  have q1:∀ rg:Regrown,(grow (redrawn W1 rg.d) rg.os).cell? ⟨vb,1,none⟩ = some (.slice x.ca c.chans.length x.cc):=fun rg => cell_regrown (cell_blk hV1 rfl) rg.d rg.os
  have q2:∀ rg:Regrown,(grow (redrawn W1 rg.d) rg.os).cell? ⟨vb,2,none⟩ = some (.int .i64 c.len0):=fun rg => cell_regrown (cell_blk hV1 rfl) rg.d rg.os
  have q3:∀ rg:Regrown,(grow (redrawn W1 rg.d) rg.os).cell? ⟨vb,3,none⟩ = some (.slice x.aa c.win0.length x.ac):=fun rg => cell_regrown (cell_blk hV1 rfl) rg.d rg.os
  have q4:∀ rg:Regrown,(grow (redrawn W1 rg.d) rg.os).cell? ⟨vb,4,none⟩ = some (.int .i64 c.len1):=fun rg => cell_regrown (cell_blk hV1 rfl) rg.d rg.os
  have q5:∀ rg:Regrown,(grow (redrawn W1 rg.d) rg.os).cell? ⟨vb,5,none⟩ = some (.slice x.ba c.win1.length x.bc):=fun rg => cell_regrown (cell_blk hV1 rfl) rg.d rg.os
  have q6:∀ rg:Regrown,(grow (redrawn W1 rg.d) rg.os).cell? ⟨vb,6,none⟩ = some (.int .i64 (k:Int)):=fun rg => cell_regrown (cell_blk hV1 rfl) rg.d rg.os
  have q8:∀ rg:Regrown,(grow (redrawn W1 rg.d) rg.os).cell? ⟨vb,8,none⟩ = some (.slice (some ⟨db,dof,none⟩) ds.length cap):=fun rg => cell_regrown (cell_blk hV1 rfl) rg.d rg.os
  have q9:∀ rg:Regrown,(grow (redrawn W1 rg.d) rg.os).cell? ⟨vb,9,none⟩ = some (.int .i64 a):=fun rg => cell_regrown (cell_blk hV1 rfl) rg.d rg.os
  have q10:∀ rg:Regrown,(grow (redrawn W1 rg.d) rg.os).cell? ⟨vb,10,none⟩ = some (.int .i64 (p:Int)):=fun rg => cell_regrown (cell_blk hV1 rfl) rg.d rg.os
  have q11:∀ rg:Regrown,(grow (redrawn W1 rg.d) rg.os).cell? ⟨vb,11,none⟩ = some (.int .i64 (i:Int)):=fun rg => cell_regrown (cell_blk hV1 rfl) rg.d rg.os
  have q14:∀ rg:Regrown,(grow (redrawn W1 rg.d) rg.os).cell? ⟨vb,14,none⟩ = some (.bool mk):=fun rg => cell_regrown (cell_blk hV1 rfl) rg.d rg.os
  have hixl:T < ws.length:=by omega
  have hbc:=Below.refl W1.heap.size W1
  have hzl:w.heap.size < W1.heap.size:=(Array.getElem?_eq_some_iff.1 hz).1
  have HV1:=Lib.hid hV1;have HY1:=Lib.hid hY1;have HO:=Lib.hid hO;have HZ:=Lib.hid hz;have HH:=Lib.hid h;have HB1:=Lib.hid hB1
  clear hV1 hY1 hO hz hB1 hcW
  go_enter Tryz.func38,Tryz.ntmps38
  go_wp2_with (first | (rw [← HW1.out]) | (((first | with_reducible refine wpList_on hbc ?_ | with_reducible refine wp_on hbc (by kernel_rfl) (by kernel_rfl) ?_);(repeat (first | (go_big_quiet_want;(refine quiet_eqlT 117 _ _ _ rfl _ _ rfl rfl (eqS _ _ _ _ true (by simp)) (by kernel_rfl) ?_);go_big_quiet_on;(try simp only [Act.put,List.setIfInBounds_toArray,List.set_cons_zero,List.set_cons_succ])) | go_big_quiet_step (first | with_reducible exact HSRC.out _ _ | with_reducible exact HBUF.out _ _)));with_reducible refine wpQuiet_nil ?_;intro wc hbc;(try clear x8 x9 x10 x11 x14 g8 g9 g10 g11 g14 yc yf hVc hZc);have hVc:=(hbc.block vb (Array.getElem?_eq_some_iff.1 HV1.out).1).trans HV1.out;have x8:wc.cell? ⟨vb,8,none⟩ = some (.slice (some ⟨db,dof,none⟩) ds.length cap):=cell_blk hVc rfl;have x9:wc.cell? ⟨vb,9,none⟩ = some (.int .i64 a):=cell_blk hVc rfl;have x10:wc.cell? ⟨vb,10,none⟩ = some (.int .i64 (p:Int)):=cell_blk hVc rfl;have x11:wc.cell? ⟨vb,11,none⟩ = some (.int .i64 (i:Int)):=cell_blk hVc rfl;have x14:wc.cell? ⟨vb,14,none⟩ = some (.bool mk):=cell_blk hVc rfl;have g8:wc.frozen? ⟨vb,8,none⟩ = false:=blk_frozen 8 hVc;have g9:wc.frozen? ⟨vb,9,none⟩ = false:=blk_frozen 9 hVc;have g10:wc.frozen? ⟨vb,10,none⟩ = false:=blk_frozen 10 hVc;have g11:wc.frozen? ⟨vb,11,none⟩ = false:=blk_frozen 11 hVc;have g14:wc.frozen? ⟨vb,14,none⟩ = false:=blk_frozen 14 hVc;have yc:wc.cell? ⟨yb,T,none⟩ = some (.int .u32 (ws.getD (T) 0)):=(HY1.out.below hbc).cell hixl;have yf:wc.frozen? ⟨yb,T,none⟩ = false:=(HY1.out.below hbc).frozen _;have hZc:=(hbc.block w.heap.size hzl).trans HZ.out)))
  have hd1:W1.cell? ⟨db,dof + j,none⟩ = some (.int .u32 v):=cell_of_blk hrow (HO.out.block db hdb.2.2 (fun h => h))
  have hdc:wc.cell? ⟨db,dof + j,none⟩ = some (.int .u32 v):=cell_of_blk hd1 (hbc.block db (Nat.lt_of_lt_of_le hdb.2.2 HO.out.size))
  refine wp_region_held_drew (S:=(fun W' => W'.cell? ⟨vb,8,none⟩ = some (.slice (some ⟨db,dof,none⟩) ds.length cap) ∧ W'.cell? ⟨vb,9,none⟩ = some (.int .i64 a) ∧ W'.cell? ⟨db,dof + j,none⟩ = some (.int .u32 v))) (by kernel_rfl) (⟨x8,x9,hdc⟩) (fun hHeld => ?_)
  refine wpAnyH_take (i:=0) rfl (by kernel_rfl) (by kernel_rfl) (by kernel_rfl) (fun _ _ _ h => h) (Or.inl ⟨by rfl,by intro w hSw;(skip);(go_simp <;> with_reducible rfl)⟩) (by assumption) ?_
  (try simp only [Act.put,List.setIfInBounds_toArray,List.set_cons_zero,List.set_cons_succ,List.getElem_toArray,List.getElem_cons_zero,List.getElem_cons_succ])
  refine wpAnyH_take (i:=1) rfl (by kernel_rfl) (by kernel_rfl) (by kernel_rfl) (fun _ _ _ h => h) (Or.inl ⟨by rfl,by intro w hSw;(skip);(go_simp <;> with_reducible rfl)⟩) (by assumption) ?_
  (try simp only [Act.put,List.setIfInBounds_toArray,List.set_cons_zero,List.set_cons_succ,List.getElem_toArray,List.getElem_cons_zero,List.getElem_cons_succ])
  refine wpAnyH_take (i:=2) rfl (by kernel_rfl) (by kernel_rfl) (by kernel_rfl) (fun _ _ _ h => h) (Or.inl ⟨by rfl,by intro w hSw;(skip);(go_simp <;> with_reducible rfl)⟩) (by assumption) ?_
  (try simp only [Act.put,List.setIfInBounds_toArray,List.set_cons_zero,List.set_cons_succ,List.getElem_toArray,List.getElem_cons_zero,List.getElem_cons_succ])
  refine wpAnyH_take (i:=3) rfl (by kernel_rfl) (by kernel_rfl) (by kernel_rfl) (fun _ _ _ h => h) (Or.inl ⟨by rfl,by intro w hSw;(skip);(go_simp <;> with_reducible rfl)⟩) (by assumption) ?_
  (try simp only [Act.put,List.setIfInBounds_toArray,List.set_cons_zero,List.set_cons_succ,List.getElem_toArray,List.getElem_cons_zero,List.getElem_cons_succ])
  refine wpAnyH_take (i:=4) rfl (by kernel_rfl) (by kernel_rfl) (by kernel_rfl) (fun _ _ _ h => h) (Or.inl ⟨by rfl,by intro w hSw;(skip);(go_simp <;> with_reducible rfl)⟩) (by assumption) ?_
  (try simp only [Act.put,List.setIfInBounds_toArray,List.set_cons_zero,List.set_cons_succ,List.getElem_toArray,List.getElem_cons_zero,List.getElem_cons_succ])
  refine wpAnyH_take (i:=5) rfl (by kernel_rfl) (by kernel_rfl) (by kernel_rfl) (fun _ _ _ h => h) (Or.inl ⟨by rfl,by intro w hSw;(skip);(go_simp <;> with_reducible rfl)⟩) (by assumption) ?_
  (try simp only [Act.put,List.setIfInBounds_toArray,List.set_cons_zero,List.set_cons_succ,List.getElem_toArray,List.getElem_cons_zero,List.getElem_cons_succ])
  refine wpAnyH_take (i:=6) rfl (by kernel_rfl) (by kernel_rfl) (by kernel_rfl) (fun _ _ _ h => h) (Or.inl ⟨by rfl,by intro w hSw;(skip);(go_simp <;> with_reducible rfl)⟩) (by assumption) ?_
  (try simp only [Act.put,List.setIfInBounds_toArray,List.set_cons_zero,List.set_cons_succ,List.getElem_toArray,List.getElem_cons_zero,List.getElem_cons_succ])
  refine wpAnyH_take (i:=7) rfl (by kernel_rfl) (by kernel_rfl) (by kernel_rfl) (fun _ _ _ h => h) (Or.inl ⟨by rfl,by intro w hSw;(skip);(go_simp <;> with_reducible rfl)⟩) (by assumption) ?_
  (try simp only [Act.put,List.setIfInBounds_toArray,List.set_cons_zero,List.set_cons_succ,List.getElem_toArray,List.getElem_cons_zero,List.getElem_cons_succ])
  refine wpAnyH_take (i:=8) rfl (by kernel_rfl) (by kernel_rfl) (by kernel_rfl) (fun _ _ _ h => h) (Or.inl ⟨by rfl,by intro w hSw;(skip);(go_simp <;> with_reducible rfl)⟩) (by assumption) ?_
  (try simp only [Act.put,List.setIfInBounds_toArray,List.set_cons_zero,List.set_cons_succ,List.getElem_toArray,List.getElem_cons_zero,List.getElem_cons_succ])
  refine wpAnyH_take (i:=9) rfl (by kernel_rfl) (by kernel_rfl) (by kernel_rfl) (fun _ _ _ h => h) (Or.inl ⟨by rfl,by intro w hSw;(skip);(go_simp <;> with_reducible rfl)⟩) (by assumption) ?_
  (try simp only [Act.put,List.setIfInBounds_toArray,List.set_cons_zero,List.set_cons_succ,List.getElem_toArray,List.getElem_cons_zero,List.getElem_cons_succ])
  refine wpAnyH_take (i:=10) rfl (by kernel_rfl) (by kernel_rfl) (by kernel_rfl) (fun _ _ _ h => h) (Or.inl ⟨by rfl,by intro w hSw;(skip);(go_simp <;> with_reducible rfl)⟩) (by assumption) ?_
  (try simp only [Act.put,List.setIfInBounds_toArray,List.set_cons_zero,List.set_cons_succ,List.getElem_toArray,List.getElem_cons_zero,List.getElem_cons_succ])
  refine wpAnyH_take (i:=11) rfl (by kernel_rfl) (by kernel_rfl) (by kernel_rfl) (fun _ _ _ h => h) (Or.inl ⟨by rfl,by intro w hSw;(skip);(go_simp <;> with_reducible rfl)⟩) (by assumption) ?_
  (try simp only [Act.put,List.setIfInBounds_toArray,List.set_cons_zero,List.set_cons_succ,List.getElem_toArray,List.getElem_cons_zero,List.getElem_cons_succ])
  refine wpAnyH_take (i:=12) rfl (by kernel_rfl) (by kernel_rfl) (by kernel_rfl) (fun _ _ _ h => h) (Or.inl ⟨by rfl,by intro w hSw;(skip);(go_simp <;> with_reducible rfl)⟩) (by assumption) ?_
  (try simp only [Act.put,List.setIfInBounds_toArray,List.set_cons_zero,List.set_cons_succ,List.getElem_toArray,List.getElem_cons_zero,List.getElem_cons_succ])
  refine wpAnyH_take (i:=13) rfl (by kernel_rfl) (by kernel_rfl) (by kernel_rfl) (fun _ _ _ h => h) (Or.inl ⟨by rfl,by intro w hSw;(skip);(go_simp <;> with_reducible rfl)⟩) (by assumption) ?_
  (try simp only [Act.put,List.setIfInBounds_toArray,List.set_cons_zero,List.set_cons_succ,List.getElem_toArray,List.getElem_cons_zero,List.getElem_cons_succ])
  refine wpAnyH_take (i:=14) rfl (by kernel_rfl) (by kernel_rfl) (by kernel_rfl) (fun _ _ _ h => h) (Or.inl ⟨by rfl,by intro w hSw;(skip);(go_simp <;> with_reducible rfl)⟩) (by assumption) ?_
  (try simp only [Act.put,List.setIfInBounds_toArray,List.set_cons_zero,List.set_cons_succ,List.getElem_toArray,List.getElem_cons_zero,List.getElem_cons_succ])
  refine wpAnyH_take (i:=15) rfl (by kernel_rfl) (by kernel_rfl) (by kernel_rfl) (fun _ _ _ h => h) (Or.inl ⟨by rfl,by intro w hSw;(skip);(go_simp <;> with_reducible rfl)⟩) (by assumption) ?_
  (try simp only [Act.put,List.setIfInBounds_toArray,List.set_cons_zero,List.set_cons_succ,List.getElem_toArray,List.getElem_cons_zero,List.getElem_cons_succ])
  refine wpAnyH_take (i:=16) rfl (by kernel_rfl) (by kernel_rfl) (by kernel_rfl) (fun _ _ _ h => h) (Or.inl ⟨by rfl,by intro w hSw;(skip);(go_simp <;> with_reducible rfl)⟩) (by assumption) ?_
  (try simp only [Act.put,List.setIfInBounds_toArray,List.set_cons_zero,List.set_cons_succ,List.getElem_toArray,List.getElem_cons_zero,List.getElem_cons_succ])
  refine wpAnyH_take (i:=17) rfl (by kernel_rfl) (by kernel_rfl) (by kernel_rfl) (fun _ _ _ h => h) (Or.inl ⟨by rfl,by intro w hSw;(skip);(go_simp <;> with_reducible rfl)⟩) (by assumption) ?_
  (try simp only [Act.put,List.setIfInBounds_toArray,List.set_cons_zero,List.set_cons_succ,List.getElem_toArray,List.getElem_cons_zero,List.getElem_cons_succ])
  refine wpAnyH_take (i:=18) rfl (by kernel_rfl) (by kernel_rfl) (by kernel_rfl) (fun _ _ _ h => h) (Or.inl ⟨by rfl,by intro w hSw;(skip);(go_simp <;> with_reducible rfl)⟩) (by assumption) ?_
  (try simp only [Act.put,List.setIfInBounds_toArray,List.set_cons_zero,List.set_cons_succ,List.getElem_toArray,List.getElem_cons_zero,List.getElem_cons_succ])
  refine wpAnyH_take (i:=19) rfl (by kernel_rfl) (by kernel_rfl) (by kernel_rfl) (fun _ _ _ h => h) (Or.inl ⟨by rfl,by intro w hSw;(skip);(go_simp <;> with_reducible rfl)⟩) (by assumption) ?_
  (try simp only [Act.put,List.setIfInBounds_toArray,List.set_cons_zero,List.set_cons_succ,List.getElem_toArray,List.getElem_cons_zero,List.getElem_cons_succ])
  refine wpAnyH_ready (rs:=[20]) (by kernel_rfl) (by simp) (AllReadyH.cons rfl (fun K hK => ?_) AllReadyH.nil)
  go_simp
  refine hK.out _ _ ((by exact ⟨cset (And.left hHeld) (.inl HH.out.ne.1.symm),cset (And.left (And.right hHeld)) (.inl HH.out.ne.1.symm),cset (And.right (And.right hHeld)) (.inl hdb.2.1.symm)⟩)) (fun hHeld => ?_)
  clear hK K
  (try simp only [Act.put,List.setIfInBounds_toArray,List.set_cons_zero,List.set_cons_succ,List.getElem_toArray,List.getElem_cons_zero,List.getElem_cons_succ])
  refine wpAnyH_done (by kernel_rfl) ?_ _
  obtain ⟨X,HX⟩:∃ u,Hid (u = wc.setCell ⟨yb,T,none⟩ (.int .u32 v)):=⟨_,rfl⟩
  rw [← HX.out]
  have HOW:=(HO.out.mono (T:=New w.heap.size fun j => j = vb ∨ j = yb) fun _ _ h => h.elim).trans ((Only.of_below (S:=New w.heap.size fun j => j = vb ∨ j = yb) hbc))
  have HOX:Hid (Only (New w.heap.size fun j => j = vb ∨ j = yb) w X):=Lib.hid (by rw [HX.out];exact HOW.set (p:=⟨yb,T,none⟩) (.inr (.inr rfl)) _)
  have HVX:Hid (X.heap[vb]? = some (.cells (vV c x k (true) (.slice (some ⟨db,dof,none⟩) ds.length cap) (a) (p) (i) (len) (st) (mk)) 52 (0,0))):=Lib.hid (by rw [HX.out];exact (Below.heap_setCell _ _ _ _ (by show vb ≠ yb;exact HH.out.ne.1)).trans hVc)
  have HYX:=Lib.hid (show WordsAt X yb _ from by rw [HX.out];exact (HY1.out.below hbc).set _ _)
  have HZC:=(hbc.block w.heap.size (by have:=HZ.out;exact (Array.getElem?_eq_some_iff.1 this).1)).trans HZ.out

  have HZX:Hid (X.heap[w.heap.size]? = some (.cells #[.bool false,.int .i64 0,.slice none 0 0,.bool false,.int .i64 0,.bool false,.bool false,.bool false,.int .i64 0] 56 (0,0))):=Lib.hid (by rw [HX.out];exact (Below.heap_setCell _ _ _ _ (by show w.heap.size ≠ yb;omega)).trans HZC)
  have hth:=there_at (W:=X.drew) HZX.out (n:=(didV false 0 (.slice none 0 0) false (false) false (0):Array Value).size) rfl
  clear HZC HOW hVc hZc x8 x9 x10 x11 x14 g8 g9 g10 g11 g14 yc yf q0 q1 q2 q3 q4 q5 q6 q8 q9 q10 q11 q14 hdc hd1
  go_wp2_with (first | (with_reducible refine wpList_store_mid (by kernel_rfl) _ _ _ rfl w.heap.size 0 (didV false 0 (.slice none 0 0) false (false) false (0)) (by kernel_rfl) (by kernel_rfl) hth hsd (by kernel_rfl) ?_))
  have hrg:=World.rangeAt_setCells_same X.drew w.heap.size 0 [.bool false,.int .i64 0,.slice none 0 0,.bool false,.int .i64 0,.bool (false),.bool false,.bool false,.int .i64 (0)] (there_at (cs:=#[.bool false,.int .i64 0,.slice none 0 0,.bool false,.int .i64 0,.bool false,.bool false,.bool false,.int .i64 0]) (n:=9) (show (X.drew).heap[w.heap.size]? = _ from HZX.out) rfl)
  (try simp only [Exit.inBlock,Exit.then])
  refine bodyPost_ret (results_cell_row rfl _ _ w.heap.size [.bool false,.int .i64 0,.slice none 0 0,.bool false,.int .i64 0,.bool (false),.bool false,.bool false,.int .i64 (0)] _ rfl hrg Tryz.underlying56 rfl did_size) rfl ?_
  obtain ⟨v1,v2⟩:=HH.out.fin (X:=X.drew) HVX.out HYX.out HOX.out.drew (List.length_set ..) (HH.out.w32.set hvr) [.bool false,.int .i64 0,.slice none 0 0,.bool false,.int .i64 0,.bool (false),.bool false,.bool false,.int .i64 (0)]
  exact ⟨rfl,v1,v2⟩
theorem dwrite6_b (W w:World) (vb yb:Nat) (c:Cfg) (x:CfgAt) (k:Nat) (F:Fr) (ws:List Int) (A:Option Addr) (ds:List Int) (cap:Nat) (p i:Nat) (len st:Int) (mk:Bool) (now:Int) (h:VAt W w vb yb c x k F ws true (.slice A ds.length cap) (5 + (ds.length:Int)) p i len st mk) (hpi:p ≤ 1 ∧ i ≤ 1) (hds:ds.length ≤ F.n):Calls Tryz.prog 38 #[.pointer (some ⟨vb,0,none⟩),.slice (some ⟨yb,0,none⟩) ws.length ws.length,.int .i64 now] w (VGives W w vb yb c x k F (ws.set (F.src + 1 + p) (i:Int)) true (.slice A ds.length cap) (5 + (ds.length:Int)) (p) (i) len st (decide (oddN (ws.getD F.src 0) = p)) (didV false 0 (.slice none 0 0) false (decide (oddN (ws.getD F.src 0) = p)) false (0))):=by
  have hsl:=h.len.src
  have hmx:=h.len.max
  have hn2:=h.len.n2
  obtain ⟨T,hT⟩:∃ u,u = F.src + 1 + p:=⟨_,rfl⟩
  rw [← hT]
  obtain ⟨a,ha⟩:∃ u:Int,u = 5 + (ds.length:Int):=⟨_,rfl⟩
  rw [← ha] at h ⊢
  have h32s:=(h.w32 F.src).1
  unfold rd at h32s
  have hvs:(ws.set T (i:Int)).getD F.src 0 = ws.getD F.src 0:=rd_ne (by omega)
  obtain ⟨v,hv⟩:∃ u,u = ws.getD F.src 0:=⟨_,rfl⟩
  rw [← hv] at hvs h32s ⊢
  have HOD:=Lib.hid (fun W' => rodd_b v W' h32s)
  have hq1:=oddN_le v
  obtain ⟨q,hq⟩:∃ q,oddN v = q:=⟨_,rfl⟩
  rw [hq] at HOD hq1 ⊢
  obtain ⟨b,hb⟩:∃ b:Bool,decide (q = p) = b:=⟨_,rfl⟩
  rw [hb]
  have b1:((q:Int) == (p:Int)) = b:=by rw [← hb,Bool.eq_iff_iff];simp;omega
  have b2:decide ((q:Int) = (p:Int)) = b:=by rw [← hb,Bool.eq_iff_iff];simp;omega
  have b3:(q == p) = b:=by rw [← hb,Bool.eq_iff_iff];simp
  have eT:(F.src:Int) + 1 + (p:Int) = (T:Nat):=by omega
  have hTw:IntKind.i64.wrap (T:Int) = T:=IntWalk.i64_in _ (by omega)
  have hsw:IntKind.i64.wrap ((F.src:Int) + 1) = (F.src:Int) + 1:=IntWalk.i64_in _ (by omega)
  have hiw:IntKind.u32.wrap (i:Int) = i:=IntWalk.u32_in _ (by omega)
  have hTl:T < ws.length:=by omega
  have hSl:F.src < ws.length:=by omega
  have hab:5 ≤ a ∧ a ≤ 100000:=by omega
  have d1:decide (a = 1) = false:=decide_eq_false (by omega)
  have d2:decide (a = 2) = false:=decide_eq_false (by omega)
  have d3:decide (a = 3) = false:=decide_eq_false (by omega)
  have d4:decide (a = 4) = false:=decide_eq_false (by omega)
  have d5:decide (a ≤ 4 + (ds.length:Int)) = false:=decide_eq_false (by omega)
  have d6:(a == 5 + (ds.length:Int)) = true:=by rw [beq_iff_eq];omega
  clear ha hT hv hq
  have HVS:=Lib.hid hvs
  clear hvs
  have hsd:(Tryz.prog.info? 56).map (·.size) = some (didV false 0 (.slice none 0 0) false (b) false (0):Array Value).size:=did_size
  have hzy:w.heap.size ≠ yb:=fun e => by have:=h.row.lt;omega
  have hzv:w.heap.size ≠ vb:=fun e => by have:=(Array.getElem?_eq_some_iff.1 h.blk).1;omega
  have hny:vb ≠ yb:=h.ne.1
  obtain ⟨W1,HW1,hsz,hO,hz⟩:=did_new w
  have hvl:vb < w.heap.size:=(Array.getElem?_eq_some_iff.1 h.blk).1
  have hyl:=h.row.lt
  have hV1:=hO.at_ h.blk (fun h => h)
  have hY1:=h.row.of (hO.block yb hyl (fun h => h))
  have hB1:Below W.heap.size W W1:=h.below.trans ⟨hO.os,hO.tape,hO.output,hO.size,fun j hj => hO.block j (by have:=h.below.size;omega) (fun h => h)⟩
  have hcW:CfgIn W1 W1.heap.size c x:=h.cfg.later hB1
  have HSRC:Hid (∀ d os,Calls Tryz.prog 55 #[.agg #[.slice x.pa c.parts.length x.pc,.slice x.ca c.chans.length x.cc,.int .i64 c.len0,.slice x.aa c.win0.length x.ac,.int .i64 c.len1,.slice x.ba c.win1.length x.bc],.int .i64 (k:Int)] (grow (redrawn W1 d) os) (fun e w'' => e = .returned (.agg #[.int .i64 (F.src:Int),.int .i64 (srcSpan c k).2]) ∧ ∃ p:Regrown,w'' = grow (redrawn W1 p.d) p.os)):=Lib.hid (fun d os => by
    have q:=rsource_b c x k (grow (redrawn W1 d) os) (hcW.later (below_regrown W1 d os)) h.wf h.few
    rw [h.fr.src] at q
    exact Calls.regrown_of q)
  have HBUF:Hid (∀ d os,Calls Tryz.prog 70 #[.agg #[.slice x.pa c.parts.length x.pc,.slice x.ca c.chans.length x.cc,.int .i64 c.len0,.slice x.aa c.win0.length x.ac,.int .i64 c.len1,.slice x.ba c.win1.length x.bc],.int .i64 (k:Int),.int .i64 (p:Int),.int .i64 (i:Int)] (grow (redrawn W1 d) os) (fun e w'' => e = .returned (.agg #[.int .i64 ((bufA F p i:Nat):Int),.int .i64 (bufSpan c k p i).2]) ∧ ∃ p:Regrown,w'' = grow (redrawn W1 p.d) p.os)):=Lib.hid (fun d os => by
    have q:=rbuffer_b c x k p i (grow (redrawn W1 d) os) (hcW.later (below_regrown W1 d os)) h.wf h.few
    rw [h.fr.buf p i hpi.1 hpi.2] at q
    exact Calls.regrown_of q)
  have hfs:=run_span0
  have q0:∀ rg:Regrown,(grow (redrawn W1 rg.d) rg.os).cell? ⟨vb,0,none⟩ = some (.slice x.pa c.parts.length x.pc):=fun rg => cell_regrown (cell_blk hV1 rfl) rg.d rg.os
  have q1:∀ rg:Regrown,(grow (redrawn W1 rg.d) rg.os).cell? ⟨vb,1,none⟩ = some (.slice x.ca c.chans.length x.cc):=fun rg => cell_regrown (cell_blk hV1 rfl) rg.d rg.os
  have q2:∀ rg:Regrown,(grow (redrawn W1 rg.d) rg.os).cell? ⟨vb,2,none⟩ = some (.int .i64 c.len0):=fun rg => cell_regrown (cell_blk hV1 rfl) rg.d rg.os
  have q3:∀ rg:Regrown,(grow (redrawn W1 rg.d) rg.os).cell? ⟨vb,3,none⟩ = some (.slice x.aa c.win0.length x.ac):=fun rg => cell_regrown (cell_blk hV1 rfl) rg.d rg.os
  have q4:∀ rg:Regrown,(grow (redrawn W1 rg.d) rg.os).cell? ⟨vb,4,none⟩ = some (.int .i64 c.len1):=fun rg => cell_regrown (cell_blk hV1 rfl) rg.d rg.os
  have q5:∀ rg:Regrown,(grow (redrawn W1 rg.d) rg.os).cell? ⟨vb,5,none⟩ = some (.slice x.ba c.win1.length x.bc):=fun rg => cell_regrown (cell_blk hV1 rfl) rg.d rg.os
  have q6:∀ rg:Regrown,(grow (redrawn W1 rg.d) rg.os).cell? ⟨vb,6,none⟩ = some (.int .i64 (k:Int)):=fun rg => cell_regrown (cell_blk hV1 rfl) rg.d rg.os
  have q8:∀ rg:Regrown,(grow (redrawn W1 rg.d) rg.os).cell? ⟨vb,8,none⟩ = some ((.slice A ds.length cap)):=fun rg => cell_regrown (cell_blk hV1 rfl) rg.d rg.os
  have q9:∀ rg:Regrown,(grow (redrawn W1 rg.d) rg.os).cell? ⟨vb,9,none⟩ = some (.int .i64 a):=fun rg => cell_regrown (cell_blk hV1 rfl) rg.d rg.os
  have q10:∀ rg:Regrown,(grow (redrawn W1 rg.d) rg.os).cell? ⟨vb,10,none⟩ = some (.int .i64 (p:Int)):=fun rg => cell_regrown (cell_blk hV1 rfl) rg.d rg.os
  have q11:∀ rg:Regrown,(grow (redrawn W1 rg.d) rg.os).cell? ⟨vb,11,none⟩ = some (.int .i64 (i:Int)):=fun rg => cell_regrown (cell_blk hV1 rfl) rg.d rg.os
  have q14:∀ rg:Regrown,(grow (redrawn W1 rg.d) rg.os).cell? ⟨vb,14,none⟩ = some (.bool mk):=fun rg => cell_regrown (cell_blk hV1 rfl) rg.d rg.os
  have hixl:T < ws.length:=by omega
  have hbc:=Below.refl W1.heap.size W1
  have hzl:w.heap.size < W1.heap.size:=(Array.getElem?_eq_some_iff.1 hz).1
  have HV1:=Lib.hid hV1;have HY1:=Lib.hid hY1;have HO:=Lib.hid hO;have HZ:=Lib.hid hz;have HH:=Lib.hid h;have HB1:=Lib.hid hB1
  clear hV1 hY1 hO hz hB1 hcW
  go_enter Tryz.func38,Tryz.ntmps38
  go_wp2_with (first | (rw [← HW1.out]) | (((first | with_reducible refine wpList_on hbc ?_ | with_reducible refine wp_on hbc (by kernel_rfl) (by kernel_rfl) ?_);(repeat (first | (go_big_quiet_want;(refine quiet_eqlT 117 _ _ _ rfl _ _ rfl rfl (eqS _ _ _ _ true (by simp)) (by kernel_rfl) ?_);go_big_quiet_on;(try simp only [Act.put,List.setIfInBounds_toArray,List.set_cons_zero,List.set_cons_succ])) | go_big_quiet_step (first | with_reducible exact HSRC.out _ _ | with_reducible exact HBUF.out _ _)));with_reducible refine wpQuiet_nil ?_;intro wc hbc;(try clear x8 x9 x10 x11 x14 g8 g9 g10 g11 g14 yc yf hVc hZc);have hVc:=(hbc.block vb (Array.getElem?_eq_some_iff.1 HV1.out).1).trans HV1.out;have x8:wc.cell? ⟨vb,8,none⟩ = some ((.slice A ds.length cap)):=cell_blk hVc rfl;have x9:wc.cell? ⟨vb,9,none⟩ = some (.int .i64 a):=cell_blk hVc rfl;have x10:wc.cell? ⟨vb,10,none⟩ = some (.int .i64 (p:Int)):=cell_blk hVc rfl;have x11:wc.cell? ⟨vb,11,none⟩ = some (.int .i64 (i:Int)):=cell_blk hVc rfl;have x14:wc.cell? ⟨vb,14,none⟩ = some (.bool mk):=cell_blk hVc rfl;have g8:wc.frozen? ⟨vb,8,none⟩ = false:=blk_frozen 8 hVc;have g9:wc.frozen? ⟨vb,9,none⟩ = false:=blk_frozen 9 hVc;have g10:wc.frozen? ⟨vb,10,none⟩ = false:=blk_frozen 10 hVc;have g11:wc.frozen? ⟨vb,11,none⟩ = false:=blk_frozen 11 hVc;have g14:wc.frozen? ⟨vb,14,none⟩ = false:=blk_frozen 14 hVc;have yc:wc.cell? ⟨yb,T,none⟩ = some (.int .u32 (ws.getD (T) 0)):=(HY1.out.below hbc).cell hixl;have yf:wc.frozen? ⟨yb,T,none⟩ = false:=(HY1.out.below hbc).frozen _;have hZc:=(hbc.block w.heap.size hzl).trans HZ.out)))
  refine wp_region_held_drew (S:=(fun W' => W'.cell? ⟨vb,10,none⟩ = some (.int .i64 (p:Int)) ∧ W'.cell? ⟨vb,11,none⟩ = some (.int .i64 (i:Int)))) (by kernel_rfl) (⟨x10,x11⟩) (fun hHeld => ?_)
  refine wpAnyH_take (i:=0) rfl (by kernel_rfl) (by kernel_rfl) (by kernel_rfl) (fun _ _ _ h => h) (Or.inl ⟨by rfl,by intro w hSw;(skip);(go_simp <;> with_reducible rfl)⟩) (by assumption) ?_
  (try simp only [Act.put,List.setIfInBounds_toArray,List.set_cons_zero,List.set_cons_succ,List.getElem_toArray,List.getElem_cons_zero,List.getElem_cons_succ])
  refine wpAnyH_take (i:=1) rfl (by kernel_rfl) (by kernel_rfl) (by kernel_rfl) (fun _ _ _ h => h) (Or.inl ⟨by rfl,by intro w hSw;(skip);(go_simp <;> with_reducible rfl)⟩) (by assumption) ?_
  (try simp only [Act.put,List.setIfInBounds_toArray,List.set_cons_zero,List.set_cons_succ,List.getElem_toArray,List.getElem_cons_zero,List.getElem_cons_succ])
  refine wpAnyH_take (i:=2) rfl (by kernel_rfl) (by kernel_rfl) (by kernel_rfl) (fun _ _ _ h => h) (Or.inl ⟨by rfl,by intro w hSw;(skip);(go_simp <;> with_reducible rfl)⟩) (by assumption) ?_
  (try simp only [Act.put,List.setIfInBounds_toArray,List.set_cons_zero,List.set_cons_succ,List.getElem_toArray,List.getElem_cons_zero,List.getElem_cons_succ])
  refine wpAnyH_take (i:=3) rfl (by kernel_rfl) (by kernel_rfl) (by kernel_rfl) (fun _ _ _ h => h) (Or.inl ⟨by rfl,by intro w hSw;(skip);(go_simp <;> with_reducible rfl)⟩) (by assumption) ?_
  (try simp only [Act.put,List.setIfInBounds_toArray,List.set_cons_zero,List.set_cons_succ,List.getElem_toArray,List.getElem_cons_zero,List.getElem_cons_succ])
  refine wpAnyH_take (i:=4) rfl (by kernel_rfl) (by kernel_rfl) (by kernel_rfl) (fun _ _ _ h => h) (Or.inl ⟨by rfl,by intro w hSw;(skip);(go_simp <;> with_reducible rfl)⟩) (by assumption) ?_
  (try simp only [Act.put,List.setIfInBounds_toArray,List.set_cons_zero,List.set_cons_succ,List.getElem_toArray,List.getElem_cons_zero,List.getElem_cons_succ])
  refine wpAnyH_take (i:=5) rfl (by kernel_rfl) (by kernel_rfl) (by kernel_rfl) (fun _ _ _ h => h) (Or.inl ⟨by rfl,by intro w hSw;(skip);(go_simp <;> with_reducible rfl)⟩) (by assumption) ?_
  (try simp only [Act.put,List.setIfInBounds_toArray,List.set_cons_zero,List.set_cons_succ,List.getElem_toArray,List.getElem_cons_zero,List.getElem_cons_succ])
  refine wpAnyH_take (i:=6) rfl (by kernel_rfl) (by kernel_rfl) (by kernel_rfl) (fun _ _ _ h => h) (Or.inl ⟨by rfl,by intro w hSw;(skip);(go_simp <;> with_reducible rfl)⟩) (by assumption) ?_
  (try simp only [Act.put,List.setIfInBounds_toArray,List.set_cons_zero,List.set_cons_succ,List.getElem_toArray,List.getElem_cons_zero,List.getElem_cons_succ])
  refine wpAnyH_take (i:=7) rfl (by kernel_rfl) (by kernel_rfl) (by kernel_rfl) (fun _ _ _ h => h) (Or.inl ⟨by rfl,by intro w hSw;(skip);(go_simp <;> with_reducible rfl)⟩) (by assumption) ?_
  (try simp only [Act.put,List.setIfInBounds_toArray,List.set_cons_zero,List.set_cons_succ,List.getElem_toArray,List.getElem_cons_zero,List.getElem_cons_succ])
  refine wpAnyH_take (i:=8) rfl (by kernel_rfl) (by kernel_rfl) (by kernel_rfl) (fun _ _ _ h => h) (Or.inl ⟨by rfl,by intro w hSw;(skip);(go_simp <;> with_reducible rfl)⟩) (by assumption) ?_
  (try simp only [Act.put,List.setIfInBounds_toArray,List.set_cons_zero,List.set_cons_succ,List.getElem_toArray,List.getElem_cons_zero,List.getElem_cons_succ])
  refine wpAnyH_take (i:=9) rfl (by kernel_rfl) (by kernel_rfl) (by kernel_rfl) (fun _ _ _ h => h) (Or.inl ⟨by rfl,by intro w hSw;(skip);(go_simp <;> with_reducible rfl)⟩) (by assumption) ?_
  (try simp only [Act.put,List.setIfInBounds_toArray,List.set_cons_zero,List.set_cons_succ,List.getElem_toArray,List.getElem_cons_zero,List.getElem_cons_succ])
  refine wpAnyH_take (i:=10) rfl (by kernel_rfl) (by kernel_rfl) (by kernel_rfl) (fun _ _ _ h => h) (Or.inl ⟨by rfl,by intro w hSw;(skip);(go_simp <;> with_reducible rfl)⟩) (by assumption) ?_
  (try simp only [Act.put,List.setIfInBounds_toArray,List.set_cons_zero,List.set_cons_succ,List.getElem_toArray,List.getElem_cons_zero,List.getElem_cons_succ])
  refine wpAnyH_take (i:=11) rfl (by kernel_rfl) (by kernel_rfl) (by kernel_rfl) (fun _ _ _ h => h) (Or.inl ⟨by rfl,by intro w hSw;(skip);(go_simp <;> with_reducible rfl)⟩) (by assumption) ?_
  (try simp only [Act.put,List.setIfInBounds_toArray,List.set_cons_zero,List.set_cons_succ,List.getElem_toArray,List.getElem_cons_zero,List.getElem_cons_succ])
  refine wpAnyH_take (i:=12) rfl (by kernel_rfl) (by kernel_rfl) (by kernel_rfl) (fun _ _ _ h => h) (Or.inl ⟨by rfl,by intro w hSw;(skip);(go_simp <;> with_reducible rfl)⟩) (by assumption) ?_
  (try simp only [Act.put,List.setIfInBounds_toArray,List.set_cons_zero,List.set_cons_succ,List.getElem_toArray,List.getElem_cons_zero,List.getElem_cons_succ])
  refine wpAnyH_take (i:=13) rfl (by kernel_rfl) (by kernel_rfl) (by kernel_rfl) (fun _ _ _ h => h) (Or.inl ⟨by rfl,by intro w hSw;(skip);(go_simp <;> with_reducible rfl)⟩) (by assumption) ?_
  (try simp only [Act.put,List.setIfInBounds_toArray,List.set_cons_zero,List.set_cons_succ,List.getElem_toArray,List.getElem_cons_zero,List.getElem_cons_succ])
  refine wpAnyH_ready (rs:=[14]) (by kernel_rfl) (by simp) (AllReadyH.cons rfl (fun K hK => ?_) AllReadyH.nil)
  go_simp
  refine hK.out _ _ ((by exact ⟨cset (And.left hHeld) (.inl hny.symm),cset (And.right hHeld) (.inl hny.symm)⟩)) (fun hHeld => ?_)
  clear hK K
  (try simp only [Act.put,List.setIfInBounds_toArray,List.set_cons_zero,List.set_cons_succ,List.getElem_toArray,List.getElem_cons_zero,List.getElem_cons_succ])
  refine wpAnyH_done (by kernel_rfl) ?_ _
  obtain ⟨X1,HX1⟩:∃ u,Hid (u = wc.setCell ⟨yb,T,none⟩ (.int .u32 (i:Int))):=⟨_,rfl⟩
  rw [← HX1.out]
  have HOW:=(HO.out.mono (T:=New w.heap.size fun j => j = vb ∨ j = yb) fun _ _ h => h.elim).trans ((Only.of_below (S:=New w.heap.size fun j => j = vb ∨ j = yb) hbc))
  have HOX1:Hid (Only (New w.heap.size fun j => j = vb ∨ j = yb) w X1):=Lib.hid (by rw [HX1.out];exact HOW.set (p:=⟨yb,T,none⟩) (.inr (.inr rfl)) _)
  have HVX1:Hid (X1.heap[vb]? = some (.cells (vV c x k (true) ((.slice A ds.length cap)) (a) (p) (i) (len) (st) (mk)) 52 (0,0))):=Lib.hid (by rw [HX1.out];exact (Below.heap_setCell _ _ _ _ (by show vb ≠ yb;exact HH.out.ne.1)).trans hVc)
  have HYX1:=Lib.hid (show WordsAt X1 yb (ws.set T (i:Int)) from by rw [HX1.out];exact (HY1.out.below hbc).set _ _)
  have HZC:=(hbc.block w.heap.size (by have:=HZ.out;exact (Array.getElem?_eq_some_iff.1 this).1)).trans HZ.out

  have HZX1:Hid (X1.heap[w.heap.size]? = some (.cells #[.bool false,.int .i64 0,.slice none 0 0,.bool false,.int .i64 0,.bool false,.bool false,.bool false,.int .i64 0] 56 (0,0))):=Lib.hid (by rw [HX1.out];exact (Below.heap_setCell _ _ _ _ (by show w.heap.size ≠ yb;omega)).trans HZC)
  have s0:X1.drew.cell? ⟨yb,F.src,none⟩ = some (.int .u32 v):=by have:=(HYX1.out.cell (k:=F.src) (by rw [List.length_set];exact hSl));rw [HVS.out] at this;exact this
  have s10:X1.drew.cell? ⟨vb,10,none⟩ = some (.int .i64 (p:Int)):=cell_blk (W:=X1.drew) HVX1.out rfl
  have s14:X1.drew.cell? ⟨vb,14,none⟩ = some (.bool mk):=cell_blk (W:=X1.drew) HVX1.out rfl
  have f14:X1.drew.frozen? ⟨vb,14,none⟩ = false:=blk_frozen (W:=X1.drew) 14 HVX1.out
  clear HZC HOW hVc hZc x8 x9 x10 x11 x14 g8 g9 g10 g11 g14 yc yf q0 q1 q2 q3 q4 q5 q6 q8 q9 q10 q11 q14
  go_wp2
  refine wp_region_held_drew (S:=(fun W' => W'.cell? ⟨yb,F.src,none⟩ = some (.int .u32 v) ∧ W'.cell? ⟨vb,10,none⟩ = some (.int .i64 (p:Int)))) (by kernel_rfl) (⟨s0,s10⟩) (fun hHeld => ?_)
  refine wpAnyH_take (i:=0) rfl (by kernel_rfl) (by kernel_rfl) (by kernel_rfl) (fun _ _ _ h => h) (Or.inl ⟨by rfl,by intro w hSw;(skip);(go_simp <;> with_reducible rfl)⟩) (by assumption) ?_
  (try simp only [Act.put,List.setIfInBounds_toArray,List.set_cons_zero,List.set_cons_succ,List.getElem_toArray,List.getElem_cons_zero,List.getElem_cons_succ])
  refine wpAnyH_take (i:=1) rfl (by kernel_rfl) (by kernel_rfl) (by kernel_rfl) (fun _ _ _ h => h) (Or.inl ⟨by rfl,by intro w hSw;(skip);(go_simp <;> with_reducible rfl)⟩) (by assumption) ?_
  (try simp only [Act.put,List.setIfInBounds_toArray,List.set_cons_zero,List.set_cons_succ,List.getElem_toArray,List.getElem_cons_zero,List.getElem_cons_succ])
  refine wpAnyH_take (i:=2) rfl (by kernel_rfl) (by kernel_rfl) (by kernel_rfl) (fun _ _ _ h => h) (Or.inl ⟨by rfl,by intro w hSw;(skip);(go_simp <;> with_reducible rfl)⟩) (by assumption) ?_
  (try simp only [Act.put,List.setIfInBounds_toArray,List.set_cons_zero,List.set_cons_succ,List.getElem_toArray,List.getElem_cons_zero,List.getElem_cons_succ])
  refine wpAnyH_take (i:=3) rfl (by kernel_rfl) (by kernel_rfl) (by kernel_rfl) (fun _ _ _ h => h) (Or.inl ⟨by rfl,by intro w hSw;(skip);(go_simp <;> with_reducible rfl)⟩) (by assumption) ?_
  (try simp only [Act.put,List.setIfInBounds_toArray,List.set_cons_zero,List.set_cons_succ,List.getElem_toArray,List.getElem_cons_zero,List.getElem_cons_succ])
  refine wpAnyH_take (i:=4) rfl (by kernel_rfl) (by kernel_rfl) (by kernel_rfl) (fun _ _ _ h => h) (Or.inl ⟨by rfl,by intro w hSw;(skip);(go_simp <;> with_reducible rfl)⟩) (by assumption) ?_
  (try simp only [Act.put,List.setIfInBounds_toArray,List.set_cons_zero,List.set_cons_succ,List.getElem_toArray,List.getElem_cons_zero,List.getElem_cons_succ])
  refine wpAnyH_take (i:=6) rfl (by kernel_rfl) (by kernel_rfl) (by kernel_rfl) (fun _ _ _ h => h) (Or.inl ⟨by rfl,by intro w hSw;(skip);(go_simp <;> with_reducible rfl)⟩) (by assumption) ?_
  (try simp only [Act.put,List.setIfInBounds_toArray,List.set_cons_zero,List.set_cons_succ,List.getElem_toArray,List.getElem_cons_zero,List.getElem_cons_succ])
  refine wpAnyH_take (i:=7) rfl (by kernel_rfl) (by kernel_rfl) (by kernel_rfl) (fun _ _ _ h => h) (Or.inl ⟨by rfl,by intro w hSw;(skip);(go_simp <;> with_reducible rfl)⟩) (by assumption) ?_
  (try simp only [Act.put,List.setIfInBounds_toArray,List.set_cons_zero,List.set_cons_succ,List.getElem_toArray,List.getElem_cons_zero,List.getElem_cons_succ])
  refine wpAnyH_take (i:=8) rfl (by kernel_rfl) (by kernel_rfl) (by kernel_rfl) (fun _ _ _ h => h) (Or.inl ⟨by rfl,by intro w hSw;(skip);(go_simp <;> with_reducible rfl)⟩) (by assumption) ?_
  (try simp only [Act.put,List.setIfInBounds_toArray,List.set_cons_zero,List.set_cons_succ,List.getElem_toArray,List.getElem_cons_zero,List.getElem_cons_succ])
  refine wpAnyH_take (i:=9) rfl (by kernel_rfl) (by kernel_rfl) (by kernel_rfl) (fun _ _ _ h => h) (Or.inl ⟨by rfl,by intro w hSw;(skip);(go_simp <;> with_reducible rfl)⟩) (by assumption) ?_
  (try simp only [Act.put,List.setIfInBounds_toArray,List.set_cons_zero,List.set_cons_succ,List.getElem_toArray,List.getElem_cons_zero,List.getElem_cons_succ])
  refine wpAnyH_ready (rs:=[5]) (by kernel_rfl) (by simp) (AllReadyH.cons rfl (fun K hK => ?_) AllReadyH.nil)
  go_simp
  refine (HOD.out _).mono ?_
  rintro e w5 ⟨rfl,rfl⟩
  refine hK.out _ _ ((by exact hHeld)) (fun hHeld => ?_)
  clear hK K
  (try simp only [Act.put,List.setIfInBounds_toArray,List.set_cons_zero,List.set_cons_succ,List.getElem_toArray,List.getElem_cons_zero,List.getElem_cons_succ])
  refine wpAnyH_take (i:=10) rfl (by kernel_rfl) (by kernel_rfl) (by kernel_rfl) (fun _ _ _ h => h) (Or.inl ⟨by rfl,by intro w hSw;(skip);(go_simp <;> with_reducible rfl)⟩) (by assumption) ?_
  (try simp only [Act.put,List.setIfInBounds_toArray,List.set_cons_zero,List.set_cons_succ,List.getElem_toArray,List.getElem_cons_zero,List.getElem_cons_succ])
  refine wpAnyH_take (i:=11) rfl (by kernel_rfl) (by kernel_rfl) (by kernel_rfl) (fun _ _ _ h => h) (Or.inl ⟨by rfl,by intro w hSw;(skip);(go_simp <;> with_reducible rfl)⟩) (by assumption) ?_
  (try simp only [Act.put,List.setIfInBounds_toArray,List.set_cons_zero,List.set_cons_succ,List.getElem_toArray,List.getElem_cons_zero,List.getElem_cons_succ])
  refine wpAnyH_take (i:=12) rfl (by kernel_rfl) (by kernel_rfl) (by kernel_rfl) (fun _ _ _ h => h) (Or.inl ⟨by rfl,by intro w hSw;(skip);(go_simp <;> with_reducible rfl)⟩) (by assumption) ?_
  (try simp only [Act.put,List.setIfInBounds_toArray,List.set_cons_zero,List.set_cons_succ,List.getElem_toArray,List.getElem_cons_zero,List.getElem_cons_succ])
  refine wpAnyH_ready (rs:=[13]) (by kernel_rfl) (by simp) (AllReadyH.cons rfl (fun K hK => ?_) AllReadyH.nil)
  go_simp
  refine hK.out _ _ ((by exact ⟨cset (And.left hHeld) (.inl hny),cset (And.right hHeld) (.inr (by decide))⟩)) (fun hHeld => ?_)
  clear hK K
  (try simp only [Act.put,List.setIfInBounds_toArray,List.set_cons_zero,List.set_cons_succ,List.getElem_toArray,List.getElem_cons_zero,List.getElem_cons_succ])
  refine wpAnyH_done (by kernel_rfl) ?_ _
  obtain ⟨X,HX⟩:∃ u,Hid (u = X1.setCell ⟨vb,14,none⟩ (.bool b)):=⟨_,rfl⟩
  rw [← HX.out]
  have HOX:Hid (Only (New w.heap.size fun j => j = vb ∨ j = yb) w X):=Lib.hid (by rw [HX.out];exact HOX1.out.set (p:=⟨vb,14,none⟩) (.inr (.inl rfl)) _)
  have HVX:Hid (X.heap[vb]? = some (.cells (vV c x k (true) ((.slice A ds.length cap)) (a) (p) (i) (len) (st) (b)) 52 (0,0))):=Lib.hid (by rw [HX.out];exact vset14 HVX1.out b)
  have HYX:=Lib.hid (show WordsAt X yb (ws.set T (i:Int)) from by rw [HX.out];exact HYX1.out.of (Below.heap_setCell X1 _ _ _ (by show yb ≠ vb;exact hny.symm)))
  have HZX:Hid (X.heap[w.heap.size]? = some (.cells #[.bool false,.int .i64 0,.slice none 0 0,.bool false,.int .i64 0,.bool false,.bool false,.bool false,.int .i64 0] 56 (0,0))):=Lib.hid (by rw [HX.out];exact (Below.heap_setCell X1 _ _ _ (by show w.heap.size ≠ vb;exact hzv)).trans HZX1.out)
  have hth:=there_at (W:=X.drew.drew) HZX.out (n:=(didV false 0 (.slice none 0 0) false (b) false (0):Array Value).size) rfl
  have t14:X.drew.drew.cell? ⟨vb,14,none⟩ = some (.bool b):=cell_blk (W:=X.drew.drew) HVX.out rfl
  clear s0 s10 s14 f14
  go_wp2_with (first | (with_reducible refine wpList_store_mid (by kernel_rfl) _ _ _ rfl w.heap.size 0 (didV false 0 (.slice none 0 0) false (b) false (0)) (by kernel_rfl) (by kernel_rfl) hth hsd (by kernel_rfl) ?_))
  have hrg:=World.rangeAt_setCells_same X.drew.drew w.heap.size 0 [.bool false,.int .i64 0,.slice none 0 0,.bool false,.int .i64 0,.bool (b),.bool false,.bool false,.int .i64 (0)] (there_at (cs:=#[.bool false,.int .i64 0,.slice none 0 0,.bool false,.int .i64 0,.bool false,.bool false,.bool false,.int .i64 0]) (n:=9) (show (X.drew.drew).heap[w.heap.size]? = _ from HZX.out) rfl)
  (try simp only [Exit.inBlock,Exit.then])
  refine bodyPost_ret (results_cell_row rfl _ _ w.heap.size [.bool false,.int .i64 0,.slice none 0 0,.bool false,.int .i64 0,.bool (b),.bool false,.bool false,.int .i64 (0)] _ rfl hrg Tryz.underlying56 rfl did_size) rfl ?_
  obtain ⟨v1,v2⟩:=HH.out.fin (X:=X.drew.drew) HVX.out HYX.out HOX.out.drew.drew (List.length_set ..) (HH.out.w32.set (by omega)) [.bool false,.int .i64 0,.slice none 0 0,.bool false,.int .i64 0,.bool (b),.bool false,.bool false,.int .i64 (0)]
  exact ⟨rfl,v1,v2⟩
theorem dwrite7_b (W w:World) (vb yb:Nat) (c:Cfg) (x:CfgAt) (k:Nat) (F:Fr) (ws:List Int) (A:Option Addr) (ds:List Int) (cap:Nat) (p i:Nat) (len st:Int) (mk:Bool) (now:Int) (h:VAt W w vb yb c x k F ws true (.slice A ds.length cap) (6 + (ds.length:Int)) p i len st mk) (hpi:p ≤ 1 ∧ i ≤ 1) (hds:ds.length ≤ F.n):Calls Tryz.prog 38 #[.pointer (some ⟨vb,0,none⟩),.slice (some ⟨yb,0,none⟩) ws.length ws.length,.int .i64 now] w (VGives W w vb yb c x k F (ws.set F.src (p:Int)) true (.slice A ds.length cap) (-1) (p) (i) len st (mk) (didV true 0 (.slice none 0 0) false (!mk) false (0))):=by
  have hsl:=h.len.src
  have hmx:=h.len.max
  have hn2:=h.len.n2
  obtain ⟨a,ha⟩:∃ u:Int,u = 6 + (ds.length:Int):=⟨_,rfl⟩
  rw [← ha] at h
  have hab:6 ≤ a ∧ a ≤ 100000:=by omega
  have d1:decide (a = 1) = false:=decide_eq_false (by omega)
  have d2:decide (a = 2) = false:=decide_eq_false (by omega)
  have d3:decide (a = 3) = false:=decide_eq_false (by omega)
  have d4:decide (a = 4) = false:=decide_eq_false (by omega)
  have d5:decide (a ≤ 4 + (ds.length:Int)) = false:=decide_eq_false (by omega)
  have d6:(a == 5 + (ds.length:Int)) = false:=by rw [beq_eq_false_iff_ne];omega
  clear ha
  have hsd:(Tryz.prog.info? 56).map (·.size) = some (didV true 0 (.slice none 0 0) false (!mk) false (0):Array Value).size:=did_size
  have hzy:w.heap.size ≠ yb:=fun e => by have:=h.row.lt;omega
  have hzv:w.heap.size ≠ vb:=fun e => by have:=(Array.getElem?_eq_some_iff.1 h.blk).1;omega
  have hny:vb ≠ yb:=h.ne.1
  obtain ⟨W1,HW1,hsz,hO,hz⟩:=did_new w
  have hvl:vb < w.heap.size:=(Array.getElem?_eq_some_iff.1 h.blk).1
  have hyl:=h.row.lt
  have hV1:=hO.at_ h.blk (fun h => h)
  have hY1:=h.row.of (hO.block yb hyl (fun h => h))
  have hB1:Below W.heap.size W W1:=h.below.trans ⟨hO.os,hO.tape,hO.output,hO.size,fun j hj => hO.block j (by have:=h.below.size;omega) (fun h => h)⟩
  have hcW:CfgIn W1 W1.heap.size c x:=h.cfg.later hB1
  have HSRC:Hid (∀ d os,Calls Tryz.prog 55 #[.agg #[.slice x.pa c.parts.length x.pc,.slice x.ca c.chans.length x.cc,.int .i64 c.len0,.slice x.aa c.win0.length x.ac,.int .i64 c.len1,.slice x.ba c.win1.length x.bc],.int .i64 (k:Int)] (grow (redrawn W1 d) os) (fun e w'' => e = .returned (.agg #[.int .i64 (F.src:Int),.int .i64 (srcSpan c k).2]) ∧ ∃ p:Regrown,w'' = grow (redrawn W1 p.d) p.os)):=Lib.hid (fun d os => by
    have q:=rsource_b c x k (grow (redrawn W1 d) os) (hcW.later (below_regrown W1 d os)) h.wf h.few
    rw [h.fr.src] at q
    exact Calls.regrown_of q)
  have HBUF:Hid (∀ d os,Calls Tryz.prog 70 #[.agg #[.slice x.pa c.parts.length x.pc,.slice x.ca c.chans.length x.cc,.int .i64 c.len0,.slice x.aa c.win0.length x.ac,.int .i64 c.len1,.slice x.ba c.win1.length x.bc],.int .i64 (k:Int),.int .i64 (p:Int),.int .i64 (i:Int)] (grow (redrawn W1 d) os) (fun e w'' => e = .returned (.agg #[.int .i64 ((bufA F p i:Nat):Int),.int .i64 (bufSpan c k p i).2]) ∧ ∃ p:Regrown,w'' = grow (redrawn W1 p.d) p.os)):=Lib.hid (fun d os => by
    have q:=rbuffer_b c x k p i (grow (redrawn W1 d) os) (hcW.later (below_regrown W1 d os)) h.wf h.few
    rw [h.fr.buf p i hpi.1 hpi.2] at q
    exact Calls.regrown_of q)
  have hfs:=run_span0
  have q0:∀ rg:Regrown,(grow (redrawn W1 rg.d) rg.os).cell? ⟨vb,0,none⟩ = some (.slice x.pa c.parts.length x.pc):=fun rg => cell_regrown (cell_blk hV1 rfl) rg.d rg.os
  have q1:∀ rg:Regrown,(grow (redrawn W1 rg.d) rg.os).cell? ⟨vb,1,none⟩ = some (.slice x.ca c.chans.length x.cc):=fun rg => cell_regrown (cell_blk hV1 rfl) rg.d rg.os
  have q2:∀ rg:Regrown,(grow (redrawn W1 rg.d) rg.os).cell? ⟨vb,2,none⟩ = some (.int .i64 c.len0):=fun rg => cell_regrown (cell_blk hV1 rfl) rg.d rg.os
  have q3:∀ rg:Regrown,(grow (redrawn W1 rg.d) rg.os).cell? ⟨vb,3,none⟩ = some (.slice x.aa c.win0.length x.ac):=fun rg => cell_regrown (cell_blk hV1 rfl) rg.d rg.os
  have q4:∀ rg:Regrown,(grow (redrawn W1 rg.d) rg.os).cell? ⟨vb,4,none⟩ = some (.int .i64 c.len1):=fun rg => cell_regrown (cell_blk hV1 rfl) rg.d rg.os
  have q5:∀ rg:Regrown,(grow (redrawn W1 rg.d) rg.os).cell? ⟨vb,5,none⟩ = some (.slice x.ba c.win1.length x.bc):=fun rg => cell_regrown (cell_blk hV1 rfl) rg.d rg.os
  have q6:∀ rg:Regrown,(grow (redrawn W1 rg.d) rg.os).cell? ⟨vb,6,none⟩ = some (.int .i64 (k:Int)):=fun rg => cell_regrown (cell_blk hV1 rfl) rg.d rg.os
  have q8:∀ rg:Regrown,(grow (redrawn W1 rg.d) rg.os).cell? ⟨vb,8,none⟩ = some ((.slice A ds.length cap)):=fun rg => cell_regrown (cell_blk hV1 rfl) rg.d rg.os
  have q9:∀ rg:Regrown,(grow (redrawn W1 rg.d) rg.os).cell? ⟨vb,9,none⟩ = some (.int .i64 a):=fun rg => cell_regrown (cell_blk hV1 rfl) rg.d rg.os
  have q10:∀ rg:Regrown,(grow (redrawn W1 rg.d) rg.os).cell? ⟨vb,10,none⟩ = some (.int .i64 (p:Int)):=fun rg => cell_regrown (cell_blk hV1 rfl) rg.d rg.os
  have q11:∀ rg:Regrown,(grow (redrawn W1 rg.d) rg.os).cell? ⟨vb,11,none⟩ = some (.int .i64 (i:Int)):=fun rg => cell_regrown (cell_blk hV1 rfl) rg.d rg.os
  have q14:∀ rg:Regrown,(grow (redrawn W1 rg.d) rg.os).cell? ⟨vb,14,none⟩ = some (.bool mk):=fun rg => cell_regrown (cell_blk hV1 rfl) rg.d rg.os
  have hixl:F.src < ws.length:=by omega
  have hbc:=Below.refl W1.heap.size W1
  have hzl:w.heap.size < W1.heap.size:=(Array.getElem?_eq_some_iff.1 hz).1
  have HV1:=Lib.hid hV1;have HY1:=Lib.hid hY1;have HO:=Lib.hid hO;have HZ:=Lib.hid hz;have HH:=Lib.hid h;have HB1:=Lib.hid hB1
  clear hV1 hY1 hO hz hB1 hcW
  go_enter Tryz.func38,Tryz.ntmps38
  go_wp2_with (first | (rw [← HW1.out]) | (((first | with_reducible refine wpList_on hbc ?_ | with_reducible refine wp_on hbc (by kernel_rfl) (by kernel_rfl) ?_);(repeat (first | (go_big_quiet_want;(refine quiet_eqlT 117 _ _ _ rfl _ _ rfl rfl (eqS _ _ _ _ true (by simp)) (by kernel_rfl) ?_);go_big_quiet_on;(try simp only [Act.put,List.setIfInBounds_toArray,List.set_cons_zero,List.set_cons_succ])) | go_big_quiet_step (first | with_reducible exact HSRC.out _ _ | with_reducible exact HBUF.out _ _)));with_reducible refine wpQuiet_nil ?_;intro wc hbc;(try clear x8 x9 x10 x11 x14 g8 g9 g10 g11 g14 yc yf hVc hZc e9 e10 e14);have hVc:=(hbc.block vb (Array.getElem?_eq_some_iff.1 HV1.out).1).trans HV1.out;have x8:wc.cell? ⟨vb,8,none⟩ = some ((.slice A ds.length cap)):=cell_blk hVc rfl;have x9:wc.cell? ⟨vb,9,none⟩ = some (.int .i64 a):=cell_blk hVc rfl;have x10:wc.cell? ⟨vb,10,none⟩ = some (.int .i64 (p:Int)):=cell_blk hVc rfl;have x11:wc.cell? ⟨vb,11,none⟩ = some (.int .i64 (i:Int)):=cell_blk hVc rfl;have x14:wc.cell? ⟨vb,14,none⟩ = some (.bool mk):=cell_blk hVc rfl;have g8:wc.frozen? ⟨vb,8,none⟩ = false:=blk_frozen 8 hVc;have g9:wc.frozen? ⟨vb,9,none⟩ = false:=blk_frozen 9 hVc;have g10:wc.frozen? ⟨vb,10,none⟩ = false:=blk_frozen 10 hVc;have g11:wc.frozen? ⟨vb,11,none⟩ = false:=blk_frozen 11 hVc;have g14:wc.frozen? ⟨vb,14,none⟩ = false:=blk_frozen 14 hVc;have yc:wc.cell? ⟨yb,F.src,none⟩ = some (.int .u32 (ws.getD (F.src) 0)):=(HY1.out.below hbc).cell hixl;have yf:wc.frozen? ⟨yb,F.src,none⟩ = false:=(HY1.out.below hbc).frozen _;have hZc:=(hbc.block w.heap.size hzl).trans HZ.out;have e9:(wc.setCell ⟨yb,F.src,none⟩ (.int .u32 (p:Int))).cell? ⟨vb,9,none⟩ = some (.int .i64 a):=cset x9 (.inl hny.symm);have e10:(wc.setCell ⟨yb,F.src,none⟩ (.int .u32 (p:Int))).frozen? ⟨vb,9,none⟩ = false:=blk_frozen 9 ((Below.heap_setCell _ _ _ _ hny).trans hVc);have e14:((wc.setCell ⟨yb,F.src,none⟩ (.int .u32 (p:Int))).setCell ⟨vb,9,none⟩ (.int .i64 (-1))).cell? ⟨vb,14,none⟩ = some (.bool mk):=cset (cset x14 (.inl hny.symm)) (.inr (by decide)))) | (with_reducible refine wpList_store_mid (by kernel_rfl) _ _ _ rfl w.heap.size 0 (didV true 0 (.slice none 0 0) false (!mk) false (0)) (by kernel_rfl) (by kernel_rfl) (there_at ((Below.heap_setCell _ _ _ _ hzv).trans ((Below.heap_setCell _ _ _ _ hzy).trans hZc)) rfl) hsd (by kernel_rfl) ?_))
  obtain ⟨X,HX⟩:∃ u,Hid (u = (wc.setCell ⟨yb,F.src,none⟩ (.int .u32 (p:Int))).setCell ⟨vb,9,none⟩ (.int .i64 (-1))):=⟨_,rfl⟩
  rw [← HX.out]
  have HOW:=(HO.out.mono (T:=New w.heap.size fun j => j = vb ∨ j = yb) fun _ _ h => h.elim).trans ((Only.of_below (S:=New w.heap.size fun j => j = vb ∨ j = yb) hbc))
  have HOX:Hid (Only (New w.heap.size fun j => j = vb ∨ j = yb) w X):=Lib.hid (by rw [HX.out];exact (HOW.set (p:=⟨yb,F.src,none⟩) (.inr (.inr rfl)) _).set (p:=⟨vb,9,none⟩) (.inr (.inl rfl)) _)
  have HVX:Hid (X.heap[vb]? = some (.cells (vV c x k (true) ((.slice A ds.length cap)) (-1) (p) (i) (len) (st) (mk)) 52 (0,0))):=Lib.hid (by rw [HX.out];exact vset9 ((Below.heap_setCell _ _ _ _ (by show vb ≠ yb;exact HH.out.ne.1)).trans hVc) (-1))
  have HYX:=Lib.hid (show WordsAt X yb _ from by rw [HX.out];exact ((HY1.out.below hbc).set _ _).of (Below.heap_setCell _ _ _ _ (by show yb ≠ vb;exact HH.out.ne.1.symm)))
  have HZC:=(hbc.block w.heap.size (by have:=HZ.out;exact (Array.getElem?_eq_some_iff.1 this).1)).trans HZ.out

  have HZX:Hid (X.heap[w.heap.size]? = some (.cells #[.bool false,.int .i64 0,.slice none 0 0,.bool false,.int .i64 0,.bool false,.bool false,.bool false,.int .i64 0] 56 (0,0))):=Lib.hid (by rw [HX.out];exact (Below.heap_setCell _ _ _ _ hzv).trans ((Below.heap_setCell _ _ _ _ hzy).trans HZC))
  have hrg:=World.rangeAt_setCells_same X w.heap.size 0 [.bool true,.int .i64 0,.slice none 0 0,.bool false,.int .i64 0,.bool (!mk),.bool false,.bool false,.int .i64 (0)] (there_at (cs:=#[.bool false,.int .i64 0,.slice none 0 0,.bool false,.int .i64 0,.bool false,.bool false,.bool false,.int .i64 0]) (n:=9) (show (X).heap[w.heap.size]? = _ from HZX.out) rfl)
  (try simp only [Exit.inBlock,Exit.then])
  refine bodyPost_ret (results_cell_row rfl _ _ w.heap.size [.bool true,.int .i64 0,.slice none 0 0,.bool false,.int .i64 0,.bool (!mk),.bool false,.bool false,.int .i64 (0)] _ rfl hrg Tryz.underlying56 rfl did_size) rfl ?_
  obtain ⟨v1,v2⟩:=HH.out.fin (X:=X) HVX.out HYX.out HOX.out (List.length_set ..) (HH.out.w32.set (by omega)) [.bool true,.int .i64 0,.slice none 0 0,.bool false,.int .i64 0,.bool (!mk),.bool false,.bool false,.int .i64 (0)]
  exact ⟨rfl,v1,v2⟩
end Go.Proofs.YtmhpcgcloojfbaaGreat
