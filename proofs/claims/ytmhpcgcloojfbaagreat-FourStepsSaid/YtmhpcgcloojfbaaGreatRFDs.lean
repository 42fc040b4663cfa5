/- Texts of the ring, joined, what is used of them. No condition but those in the statements. -/
import Derived.BigQuiet
import Derived.BigRegion
import Derived.Deep.MidRow
import Derived.Deep.RegionHeld3
import Derived.Deep.Upon
import Derived.IntWalk
import Derived.OpenShut
import Derived.Shelf.Abstract
import Derived.Test.YtmhpcgcloojfbaaGreatRFDo
namespace Go.Proofs.YtmhpcgcloojfbaaGreat
open Go.RowKit Go.Sort
set_option linter.unusedVariables false
set_option linter.unusedSimpArgs false
set_option linter.unusedVariables false
set_option linter.unusedSimpArgs false
open Go.Proofs.YtmhpcgcloojfbaaGreat.Simp
set_option maxRecDepth 100000
set_option maxHeartbeats 6400000
theorem dread2_b (W w:World) (vb yb:Nat) (c:Cfg) (x:CfgAt) (k:Nat) (F:Fr) (ws:List Int) (A:Option Addr) (ds:List Int) (cap:Nat) (p i:Nat) (len st:Int) (mk:Bool) (now:Int) (h:VAt W w vb yb c x k F ws false (.slice A ds.length cap) 2 p i len st mk) (hpi:p ≤ 1 ∧ i ≤ 1):Calls Tryz.prog 39 #[.pointer (some ⟨vb,0,none⟩),.slice (some ⟨yb,0,none⟩) ws.length ws.length,.int .i64 now] w (VGives W w vb yb c x k F (ws.set F.dst (p:Int)) false (.slice A ds.length cap) (2) (p) (i) len st (mk) (didV false 0 (.slice none 0 0) false (false) false (0))):=by
  have hdl:=h.len.dst
  have hbin:=h.len.buf hpi.1 hpi.2
  have hmx:=h.len.max
  have hn2:=h.len.n2
  have hn1:=h.len.n1
  obtain ⟨v,hv⟩:∃ u,ws.getD F.dst 0 = u:=⟨_,rfl⟩
  have hdw:IntKind.i64.wrap (F.dst:Int) = F.dst:=IntWalk.i64_in _ (by omega)
  have hpw:IntKind.u32.wrap (p:Int) = p:=IntWalk.u32_in _ (by omega)
  have HV:=Lib.hid hv
  clear hv
  have hsd:(Tryz.prog.info? 56).map (·.size) = some (didV false 0 (.slice none 0 0) false (false) false (0):Array Value).size:=did_size
  have hzy:w.heap.size ≠ yb:=fun e => by have:=h.row.lt;omega
  have hzv:w.heap.size ≠ vb:=fun e => by have:=(Array.getElem?_eq_some_iff.1 h.blk).1;omega
  have hny:vb ≠ yb:=h.ne.1
  obtain ⟨W1,HW1,hsz,hO,hz⟩:=did_new w
  have hvl:vb < w.heap.size:=(Array.getElem?_eq_some_iff.1 h.blk).1
  have hyl:=h.row.lt
  have hV1:=hO.at_ h.blk (fun h => h)
  have hY1:=h.row.of (hO.block yb hyl (fun h => h))
  have hB1:Below W.heap.size W W1:=h.below.trans ⟨hO.os,hO.tape,hO.output,hO.size,fun j hj => hO.block j (by have:=h.below.size;omega) (fun h => h)⟩
  have hcW:CfgIn W1 W1.heap.size c x:=h.cfg.later hB1
  have HDST:Hid (∀ W',Below W1.heap.size W1 W' → Calls Tryz.prog 56 #[.agg #[.slice x.pa c.parts.length x.pc,.slice x.ca c.chans.length x.cc,.int .i64 c.len0,.slice x.aa c.win0.length x.ac,.int .i64 c.len1,.slice x.ba c.win1.length x.bc],.int .i64 (k:Int)] W' (fun e w' => e = .returned (.agg #[.int .i64 (F.dst:Int),.int .i64 (dstSpan c k).2]) ∧ Below W'.heap.size W' w')):=Lib.hid (fun W' hb => by
    have q:=rdest_b c x k W' (hcW.later hb) h.wf h.few
    rw [h.fr.dst] at q
    exact q)
  have HSRC:Hid (∀ d os,Calls Tryz.prog 55 #[.agg #[.slice x.pa c.parts.length x.pc,.slice x.ca c.chans.length x.cc,.int .i64 c.len0,.slice x.aa c.win0.length x.ac,.int .i64 c.len1,.slice x.ba c.win1.length x.bc],.int .i64 (k:Int)] (grow (redrawn W1 d) os) (fun e w'' => e = .returned (.agg #[.int .i64 (F.src:Int),.int .i64 (srcSpan c k).2]) ∧ ∃ p:Regrown,w'' = grow (redrawn W1 p.d) p.os)):=Lib.hid (fun d os => by
    have q:=rsource_b c x k (grow (redrawn W1 d) os) (hcW.later (below_regrown W1 d os)) h.wf h.few
    rw [h.fr.src] at q
    exact Calls.regrown_of q)
  have HBUF:Hid (∀ d os,Calls Tryz.prog 70 #[.agg #[.slice x.pa c.parts.length x.pc,.slice x.ca c.chans.length x.cc,.int .i64 c.len0,.slice x.aa c.win0.length x.ac,.int .i64 c.len1,.slice x.ba c.win1.length x.bc],.int .i64 (k:Int),.int .i64 (p:Int),.int .i64 (i:Int)] (grow (redrawn W1 d) os) (fun e w'' => e = .returned (.agg #[.int .i64 ((bufA F p i:Nat):Int),.int .i64 (bufSpan c k p i).2]) ∧ ∃ p:Regrown,w'' = grow (redrawn W1 p.d) p.os)):=Lib.hid (fun d os => by
    have q:=rbuffer_b c x k p i (grow (redrawn W1 d) os) (hcW.later (below_regrown W1 d os)) h.wf h.few
    rw [h.fr.buf p i hpi.1 hpi.2] at q
    exact Calls.regrown_of q)
  have hfs:=run_span0
  have q0:∀ rg:Regrown,(grow (redrawn W1 rg.d) rg.os).cell? ⟨vb,0,none⟩ = some (.slice x.pa c.parts.length x.pc):=fun rg => cell_regrown (cell_blk hV1 rfl) rg.d rg.os
  have q1:∀ rg:Regrown,(grow (redrawn W1 rg.d) rg.os).cell? ⟨vb,1,none⟩ = some (.slice x.ca c.chans.length x.cc):=fun rg => cell_regrown (cell_blk hV1 rfl) rg.d rg.os
  have q2:∀ rg:Regrown,(grow (redrawn W1 rg.d) rg.os).cell? ⟨vb,2,none⟩ = some (.int .i64 c.len0):=fun rg => cell_regrown (cell_blk hV1 rfl) rg.d rg.os
  have q3:∀ rg:Regrown,(grow (redrawn W1 rg.d) rg.os).cell? ⟨vb,3,none⟩ = some (.slice x.aa c.win0.length x.ac):=fun rg => cell_regrown (cell_blk hV1 rfl) rg.d rg.os
  have q4:∀ rg:Regrown,(grow (redrawn W1 rg.d) rg.os).cell? ⟨vb,4,none⟩ = some (.int .i64 c.len1):=fun rg => cell_regrown (cell_blk hV1 rfl) rg.d rg.os
  have q5:∀ rg:Regrown,(grow (redrawn W1 rg.d) rg.os).cell? ⟨vb,5,none⟩ = some (.slice x.ba c.win1.length x.bc):=fun rg => cell_regrown (cell_blk hV1 rfl) rg.d rg.os
  have q6:∀ rg:Regrown,(grow (redrawn W1 rg.d) rg.os).cell? ⟨vb,6,none⟩ = some (.int .i64 (k:Int)):=fun rg => cell_regrown (cell_blk hV1 rfl) rg.d rg.os
  have q8:∀ rg:Regrown,(grow (redrawn W1 rg.d) rg.os).cell? ⟨vb,8,none⟩ = some ((.slice A ds.length cap)):=fun rg => cell_regrown (cell_blk hV1 rfl) rg.d rg.os
  have q9:∀ rg:Regrown,(grow (redrawn W1 rg.d) rg.os).cell? ⟨vb,9,none⟩ = some (.int .i64 2):=fun rg => cell_regrown (cell_blk hV1 rfl) rg.d rg.os
  have q10:∀ rg:Regrown,(grow (redrawn W1 rg.d) rg.os).cell? ⟨vb,10,none⟩ = some (.int .i64 (p:Int)):=fun rg => cell_regrown (cell_blk hV1 rfl) rg.d rg.os
  have q11:∀ rg:Regrown,(grow (redrawn W1 rg.d) rg.os).cell? ⟨vb,11,none⟩ = some (.int .i64 (i:Int)):=fun rg => cell_regrown (cell_blk hV1 rfl) rg.d rg.os
  have q14:∀ rg:Regrown,(grow (redrawn W1 rg.d) rg.os).cell? ⟨vb,14,none⟩ = some (.bool mk):=fun rg => cell_regrown (cell_blk hV1 rfl) rg.d rg.os
  have hixl:F.dst < ws.length:=by omega
  have hbc:=Below.refl W1.heap.size W1
  have hzl:w.heap.size < W1.heap.size:=(Array.getElem?_eq_some_iff.1 hz).1
  have HV1:=Lib.hid hV1;have HY1:=Lib.hid hY1;have HO:=Lib.hid hO;have HZ:=Lib.hid hz;have HH:=Lib.hid h;have HB1:=Lib.hid hB1
  clear hV1 hY1 hO hz hB1 hcW
  go_enter Tryz.func39,Tryz.ntmps39
  go_wp2_with (first | (rw [← HW1.out]) | (((first | with_reducible refine wpList_on hbc ?_ | with_reducible refine wp_on hbc (by kernel_rfl) (by kernel_rfl) ?_);(repeat (first | (go_big_quiet_want;(refine quiet_eqlT 117 _ _ _ rfl _ _ rfl rfl (eqS _ _ _ _ true (by simp)) (by kernel_rfl) ?_);go_big_quiet_on;(try simp only [Act.put,List.setIfInBounds_toArray,List.set_cons_zero,List.set_cons_succ])) | go_big_quiet_step (first | with_reducible exact HSRC.out _ _ | with_reducible exact HBUF.out _ _)));with_reducible refine wpQuiet_nil ?_;intro wc hbc;(try clear x0 x1 x2 x3 x4 x5 x6 x10 g0 g1 g2 g3 g4 g5 g6 g10 yc yf hVc hZc);have hVc:=(hbc.block vb (Array.getElem?_eq_some_iff.1 HV1.out).1).trans HV1.out;have x0:wc.cell? ⟨vb,0,none⟩ = some (.slice x.pa c.parts.length x.pc):=cell_blk hVc rfl;have x1:wc.cell? ⟨vb,1,none⟩ = some (.slice x.ca c.chans.length x.cc):=cell_blk hVc rfl;have x2:wc.cell? ⟨vb,2,none⟩ = some (.int .i64 c.len0):=cell_blk hVc rfl;have x3:wc.cell? ⟨vb,3,none⟩ = some (.slice x.aa c.win0.length x.ac):=cell_blk hVc rfl;have x4:wc.cell? ⟨vb,4,none⟩ = some (.int .i64 c.len1):=cell_blk hVc rfl;have x5:wc.cell? ⟨vb,5,none⟩ = some (.slice x.ba c.win1.length x.bc):=cell_blk hVc rfl;have x6:wc.cell? ⟨vb,6,none⟩ = some (.int .i64 (k:Int)):=cell_blk hVc rfl;have x10:wc.cell? ⟨vb,10,none⟩ = some (.int .i64 (p:Int)):=cell_blk hVc rfl;have g0:wc.frozen? ⟨vb,0,none⟩ = false:=blk_frozen 0 hVc;have g1:wc.frozen? ⟨vb,1,none⟩ = false:=blk_frozen 1 hVc;have g2:wc.frozen? ⟨vb,2,none⟩ = false:=blk_frozen 2 hVc;have g3:wc.frozen? ⟨vb,3,none⟩ = false:=blk_frozen 3 hVc;have g4:wc.frozen? ⟨vb,4,none⟩ = false:=blk_frozen 4 hVc;have g5:wc.frozen? ⟨vb,5,none⟩ = false:=blk_frozen 5 hVc;have g6:wc.frozen? ⟨vb,6,none⟩ = false:=blk_frozen 6 hVc;have g10:wc.frozen? ⟨vb,10,none⟩ = false:=blk_frozen 10 hVc;have yc:wc.cell? ⟨yb,F.dst,none⟩ = some (.int .u32 v):=yv_cell ((HY1.out.below hbc).cell hixl) HV.out;have yf:wc.frozen? ⟨yb,F.dst,none⟩ = false:=(HY1.out.below hbc).frozen _;have hZc:=(hbc.block w.heap.size hzl).trans HZ.out)))
  refine wp_region_held_drew (S:=(fun W' => W'.cell? ⟨vb,0,none⟩ = some (.slice x.pa c.parts.length x.pc) ∧ W'.cell? ⟨vb,1,none⟩ = some (.slice x.ca c.chans.length x.cc) ∧ W'.cell? ⟨vb,2,none⟩ = some (.int .i64 c.len0) ∧ W'.cell? ⟨vb,3,none⟩ = some (.slice x.aa c.win0.length x.ac) ∧ W'.cell? ⟨vb,4,none⟩ = some (.int .i64 c.len1) ∧ W'.cell? ⟨vb,5,none⟩ = some (.slice x.ba c.win1.length x.bc) ∧ W'.cell? ⟨vb,6,none⟩ = some (.int .i64 (k:Int)) ∧ W'.cell? ⟨vb,10,none⟩ = some (.int .i64 (p:Int)))) (by kernel_rfl) (⟨x0,x1,x2,x3,x4,x5,x6,x10⟩) (fun hHeld => ?_)
  refine wpAnyH_take (i:=0) rfl (by kernel_rfl) (by kernel_rfl) (by kernel_rfl) (fun _ _ _ h => h) (Or.inl ⟨by rfl,by intro w hSw;(have z0:=hSw.1;have z1:=hSw.2.1;have z2:=hSw.2.2.1;have z3:=hSw.2.2.2.1;have z4:=hSw.2.2.2.2.1;have z5:=hSw.2.2.2.2.2.1;have z6:=hSw.2.2.2.2.2.2.1;have z7:=hSw.2.2.2.2.2.2.2;clear hSw);(go_simp <;> with_reducible rfl)⟩) (by assumption) ?_
  (try simp only [Act.put,List.setIfInBounds_toArray,List.set_cons_zero,List.set_cons_succ,List.getElem_toArray,List.getElem_cons_zero,List.getElem_cons_succ])
  refine wpAnyH_take (i:=1) rfl (by kernel_rfl) (by kernel_rfl) (by kernel_rfl) (fun _ _ _ h => h) (Or.inl ⟨by rfl,by intro w hSw;(have z0:=hSw.1;have z1:=hSw.2.1;have z2:=hSw.2.2.1;have z3:=hSw.2.2.2.1;have z4:=hSw.2.2.2.2.1;have z5:=hSw.2.2.2.2.2.1;have z6:=hSw.2.2.2.2.2.2.1;have z7:=hSw.2.2.2.2.2.2.2;clear hSw);(go_simp <;> with_reducible rfl)⟩) (by assumption) ?_
  (try simp only [Act.put,List.setIfInBounds_toArray,List.set_cons_zero,List.set_cons_succ,List.getElem_toArray,List.getElem_cons_zero,List.getElem_cons_succ])
  refine wpAnyH_take (i:=2) rfl (by kernel_rfl) (by kernel_rfl) (by kernel_rfl) (fun _ _ _ h => h) (Or.inl ⟨by rfl,by intro w hSw;(have z0:=hSw.1;have z1:=hSw.2.1;have z2:=hSw.2.2.1;have z3:=hSw.2.2.2.1;have z4:=hSw.2.2.2.2.1;have z5:=hSw.2.2.2.2.2.1;have z6:=hSw.2.2.2.2.2.2.1;have z7:=hSw.2.2.2.2.2.2.2;clear hSw);(go_simp <;> with_reducible rfl)⟩) (by assumption) ?_
  (try simp only [Act.put,List.setIfInBounds_toArray,List.set_cons_zero,List.set_cons_succ,List.getElem_toArray,List.getElem_cons_zero,List.getElem_cons_succ])
  refine wpAnyH_take (i:=3) rfl (by kernel_rfl) (by kernel_rfl) (by kernel_rfl) (fun _ _ _ h => h) (Or.inl ⟨by rfl,by intro w hSw;(have z0:=hSw.1;have z1:=hSw.2.1;have z2:=hSw.2.2.1;have z3:=hSw.2.2.2.1;have z4:=hSw.2.2.2.2.1;have z5:=hSw.2.2.2.2.2.1;have z6:=hSw.2.2.2.2.2.2.1;have z7:=hSw.2.2.2.2.2.2.2;clear hSw);(go_simp <;> with_reducible rfl)⟩) (by assumption) ?_
  (try simp only [Act.put,List.setIfInBounds_toArray,List.set_cons_zero,List.set_cons_succ,List.getElem_toArray,List.getElem_cons_zero,List.getElem_cons_succ])
  refine wpAnyH_take (i:=4) rfl (by kernel_rfl) (by kernel_rfl) (by kernel_rfl) (fun _ _ _ h => h) (Or.inl ⟨by rfl,by intro w hSw;(have z0:=hSw.1;have z1:=hSw.2.1;have z2:=hSw.2.2.1;have z3:=hSw.2.2.2.1;have z4:=hSw.2.2.2.2.1;have z5:=hSw.2.2.2.2.2.1;have z6:=hSw.2.2.2.2.2.2.1;have z7:=hSw.2.2.2.2.2.2.2;clear hSw);(go_simp <;> with_reducible rfl)⟩) (by assumption) ?_
  (try simp only [Act.put,List.setIfInBounds_toArray,List.set_cons_zero,List.set_cons_succ,List.getElem_toArray,List.getElem_cons_zero,List.getElem_cons_succ])
  refine wpAnyH_take (i:=5) rfl (by kernel_rfl) (by kernel_rfl) (by kernel_rfl) (fun _ _ _ h => h) (Or.inl ⟨by rfl,by intro w hSw;(have z0:=hSw.1;have z1:=hSw.2.1;have z2:=hSw.2.2.1;have z3:=hSw.2.2.2.1;have z4:=hSw.2.2.2.2.1;have z5:=hSw.2.2.2.2.2.1;have z6:=hSw.2.2.2.2.2.2.1;have z7:=hSw.2.2.2.2.2.2.2;clear hSw);(go_simp <;> with_reducible rfl)⟩) (by assumption) ?_
  (try simp only [Act.put,List.setIfInBounds_toArray,List.set_cons_zero,List.set_cons_succ,List.getElem_toArray,List.getElem_cons_zero,List.getElem_cons_succ])
  refine wpAnyH_take (i:=6) rfl (by kernel_rfl) (by kernel_rfl) (by kernel_rfl) (fun _ _ _ h => h) (Or.inl ⟨by rfl,by intro w hSw;(have z0:=hSw.1;have z1:=hSw.2.1;have z2:=hSw.2.2.1;have z3:=hSw.2.2.2.1;have z4:=hSw.2.2.2.2.1;have z5:=hSw.2.2.2.2.2.1;have z6:=hSw.2.2.2.2.2.2.1;have z7:=hSw.2.2.2.2.2.2.2;clear hSw);(go_simp <;> with_reducible rfl)⟩) (by assumption) ?_
  (try simp only [Act.put,List.setIfInBounds_toArray,List.set_cons_zero,List.set_cons_succ,List.getElem_toArray,List.getElem_cons_zero,List.getElem_cons_succ])
  refine wpAnyH_take (i:=7) rfl (by kernel_rfl) (by kernel_rfl) (by kernel_rfl) (fun _ _ _ h => h) (Or.inl ⟨by rfl,by intro w hSw;(have z0:=hSw.1;have z1:=hSw.2.1;have z2:=hSw.2.2.1;have z3:=hSw.2.2.2.1;have z4:=hSw.2.2.2.2.1;have z5:=hSw.2.2.2.2.2.1;have z6:=hSw.2.2.2.2.2.2.1;have z7:=hSw.2.2.2.2.2.2.2;clear hSw);(go_simp <;> with_reducible rfl)⟩) (by assumption) ?_
  (try simp only [Act.put,List.setIfInBounds_toArray,List.set_cons_zero,List.set_cons_succ,List.getElem_toArray,List.getElem_cons_zero,List.getElem_cons_succ])
  refine wpAnyH_take (i:=8) rfl (by kernel_rfl) (by kernel_rfl) (by kernel_rfl) (fun _ _ _ h => h) (Or.inl ⟨by rfl,by intro w hSw;(have z0:=hSw.1;have z1:=hSw.2.1;have z2:=hSw.2.2.1;have z3:=hSw.2.2.2.1;have z4:=hSw.2.2.2.2.1;have z5:=hSw.2.2.2.2.2.1;have z6:=hSw.2.2.2.2.2.2.1;have z7:=hSw.2.2.2.2.2.2.2;clear hSw);(go_simp <;> with_reducible rfl)⟩) (by assumption) ?_
  (try simp only [Act.put,List.setIfInBounds_toArray,List.set_cons_zero,List.set_cons_succ,List.getElem_toArray,List.getElem_cons_zero,List.getElem_cons_succ])
  refine wpAnyH_take (i:=11) rfl (by kernel_rfl) (by kernel_rfl) (by kernel_rfl) (fun _ _ _ h => h) (Or.inl ⟨by rfl,by intro w hSw;(have z0:=hSw.1;have z1:=hSw.2.1;have z2:=hSw.2.2.1;have z3:=hSw.2.2.2.1;have z4:=hSw.2.2.2.2.1;have z5:=hSw.2.2.2.2.2.1;have z6:=hSw.2.2.2.2.2.2.1;have z7:=hSw.2.2.2.2.2.2.2;clear hSw);(go_simp <;> with_reducible rfl)⟩) (by assumption) ?_
  (try simp only [Act.put,List.setIfInBounds_toArray,List.set_cons_zero,List.set_cons_succ,List.getElem_toArray,List.getElem_cons_zero,List.getElem_cons_succ])
  refine wpAnyH_take (i:=12) rfl (by kernel_rfl) (by kernel_rfl) (by kernel_rfl) (fun _ _ _ h => h) (Or.inl ⟨by rfl,by intro w hSw;(have z0:=hSw.1;have z1:=hSw.2.1;have z2:=hSw.2.2.1;have z3:=hSw.2.2.2.1;have z4:=hSw.2.2.2.2.1;have z5:=hSw.2.2.2.2.2.1;have z6:=hSw.2.2.2.2.2.2.1;have z7:=hSw.2.2.2.2.2.2.2;clear hSw);(go_simp <;> with_reducible rfl)⟩) (by assumption) ?_
  (try simp only [Act.put,List.setIfInBounds_toArray,List.set_cons_zero,List.set_cons_succ,List.getElem_toArray,List.getElem_cons_zero,List.getElem_cons_succ])
  refine wpAnyH_take (i:=13) rfl (by kernel_rfl) (by kernel_rfl) (by kernel_rfl) (fun _ _ _ h => h) (Or.inl ⟨by rfl,by intro w hSw;(have z0:=hSw.1;have z1:=hSw.2.1;have z2:=hSw.2.2.1;have z3:=hSw.2.2.2.1;have z4:=hSw.2.2.2.2.1;have z5:=hSw.2.2.2.2.2.1;have z6:=hSw.2.2.2.2.2.2.1;have z7:=hSw.2.2.2.2.2.2.2;clear hSw);(go_simp <;> with_reducible rfl)⟩) (by assumption) ?_
  (try simp only [Act.put,List.setIfInBounds_toArray,List.set_cons_zero,List.set_cons_succ,List.getElem_toArray,List.getElem_cons_zero,List.getElem_cons_succ])
  refine wpAnyH_take (i:=14) rfl (by kernel_rfl) (by kernel_rfl) (by kernel_rfl) (fun _ _ _ h => h) (Or.inl ⟨by rfl,by intro w hSw;(have z0:=hSw.1;have z1:=hSw.2.1;have z2:=hSw.2.2.1;have z3:=hSw.2.2.2.1;have z4:=hSw.2.2.2.2.1;have z5:=hSw.2.2.2.2.2.1;have z6:=hSw.2.2.2.2.2.2.1;have z7:=hSw.2.2.2.2.2.2.2;clear hSw);(go_simp <;> with_reducible rfl)⟩) (by assumption) ?_
  (try simp only [Act.put,List.setIfInBounds_toArray,List.set_cons_zero,List.set_cons_succ,List.getElem_toArray,List.getElem_cons_zero,List.getElem_cons_succ])
  refine wpAnyH_take (i:=15) rfl (by kernel_rfl) (by kernel_rfl) (by kernel_rfl) (fun _ _ _ h => h) (Or.inl ⟨by rfl,by intro w hSw;(have z0:=hSw.1;have z1:=hSw.2.1;have z2:=hSw.2.2.1;have z3:=hSw.2.2.2.1;have z4:=hSw.2.2.2.2.1;have z5:=hSw.2.2.2.2.2.1;have z6:=hSw.2.2.2.2.2.2.1;have z7:=hSw.2.2.2.2.2.2.2;clear hSw);(go_simp <;> with_reducible rfl)⟩) (by assumption) ?_
  (try simp only [Act.put,List.setIfInBounds_toArray,List.set_cons_zero,List.set_cons_succ,List.getElem_toArray,List.getElem_cons_zero,List.getElem_cons_succ])
  refine wpAnyH_ready (rs:=[9]) (by kernel_rfl) (by simp) (AllReadyH.cons rfl (fun K hK => ?_) AllReadyH.nil)
  go_simp
  refine (HDST.out _ (by exact hbc.drew)).mono ?_
  rintro e w6 ⟨rfl,hb6⟩
  have hvl6:vb < wc.heap.size:=(Array.getElem?_eq_some_iff.1 hVc).1
  have hV6:=(hb6.block vb hvl6).trans hVc
  have hbc6:=hbc.drew.trans (hb6.mono hbc.drew.size)
  have y6:w6.cell? ⟨yb,F.dst,none⟩ = some (.int .u32 v):=yv_cell ((HY1.out.below hbc6).cell hixl) HV.out
  have f6:w6.frozen? ⟨yb,F.dst,none⟩ = false:=(HY1.out.below hbc6).frozen _
  refine hK.out _ _ ((by exact ⟨cell_blk hV6 rfl,cell_blk hV6 rfl,cell_blk hV6 rfl,cell_blk hV6 rfl,cell_blk hV6 rfl,cell_blk hV6 rfl,cell_blk hV6 rfl,cell_blk hV6 rfl⟩)) (fun hHeld => ?_)
  clear hK K
  (try simp only [Act.put,List.setIfInBounds_toArray,List.set_cons_zero,List.set_cons_succ,List.getElem_toArray,List.getElem_cons_zero,List.getElem_cons_succ])
  refine wpAnyH_take (i:=10) rfl (by kernel_rfl) (by kernel_rfl) (by kernel_rfl) (fun _ _ _ h => h) (Or.inl ⟨by rfl,by intro w hSw;(have z0:=hSw.1;have z1:=hSw.2.1;have z2:=hSw.2.2.1;have z3:=hSw.2.2.2.1;have z4:=hSw.2.2.2.2.1;have z5:=hSw.2.2.2.2.2.1;have z6:=hSw.2.2.2.2.2.2.1;have z7:=hSw.2.2.2.2.2.2.2;clear hSw);(go_simp <;> with_reducible rfl)⟩) (by assumption) ?_
  (try simp only [Act.put,List.setIfInBounds_toArray,List.set_cons_zero,List.set_cons_succ,List.getElem_toArray,List.getElem_cons_zero,List.getElem_cons_succ])
  refine wpAnyH_take (i:=16) rfl (by kernel_rfl) (by kernel_rfl) (by kernel_rfl) (fun _ _ _ h => h) (Or.inl ⟨by rfl,by intro w hSw;(have z0:=hSw.1;have z1:=hSw.2.1;have z2:=hSw.2.2.1;have z3:=hSw.2.2.2.1;have z4:=hSw.2.2.2.2.1;have z5:=hSw.2.2.2.2.2.1;have z6:=hSw.2.2.2.2.2.2.1;have z7:=hSw.2.2.2.2.2.2.2;clear hSw);(go_simp <;> with_reducible rfl)⟩) (by assumption) ?_
  (try simp only [Act.put,List.setIfInBounds_toArray,List.set_cons_zero,List.set_cons_succ,List.getElem_toArray,List.getElem_cons_zero,List.getElem_cons_succ])
  refine wpAnyH_ready (rs:=[17]) (by kernel_rfl) (by simp) (AllReadyH.cons rfl (fun K hK => ?_) AllReadyH.nil)
  go_simp
  refine hK.out _ _ ((by exact ⟨cset (cell_blk hV6 rfl) (.inl hny.symm),cset (cell_blk hV6 rfl) (.inl hny.symm),cset (cell_blk hV6 rfl) (.inl hny.symm),cset (cell_blk hV6 rfl) (.inl hny.symm),cset (cell_blk hV6 rfl) (.inl hny.symm),cset (cell_blk hV6 rfl) (.inl hny.symm),cset (cell_blk hV6 rfl) (.inl hny.symm),cset (cell_blk hV6 rfl) (.inl hny.symm)⟩)) (fun hHeld => ?_)
  clear hK K
  (try simp only [Act.put,List.setIfInBounds_toArray,List.set_cons_zero,List.set_cons_succ,List.getElem_toArray,List.getElem_cons_zero,List.getElem_cons_succ])
  refine wpAnyH_done (by kernel_rfl) ?_ _
  obtain ⟨X,HX⟩:∃ u,Hid (u = w6.setCell ⟨yb,F.dst,none⟩ (.int .u32 (p:Int))):=⟨_,rfl⟩
  rw [← HX.out]
  have HOW:=(HO.out.mono (T:=New w.heap.size fun j => j = vb ∨ j = yb) fun _ _ h => h.elim).trans ((Only.of_below (S:=New w.heap.size fun j => j = vb ∨ j = yb) hbc6))
  have HOX:Hid (Only (New w.heap.size fun j => j = vb ∨ j = yb) w X):=Lib.hid (by rw [HX.out];exact HOW.set (p:=⟨yb,F.dst,none⟩) (.inr (.inr rfl)) _)
  have HVX:Hid (X.heap[vb]? = some (.cells (vV c x k (false) ((.slice A ds.length cap)) (2) (p) (i) (len) (st) (mk)) 52 (0,0))):=Lib.hid (by rw [HX.out];exact (Below.heap_setCell _ _ _ _ (by show vb ≠ yb;exact hny)).trans hV6)
  have HYX:=Lib.hid (show WordsAt X yb _ from by rw [HX.out];exact (HY1.out.below hbc6).set _ _)
  have HZC:=(hbc6.block w.heap.size (by have:=HZ.out;exact (Array.getElem?_eq_some_iff.1 this).1)).trans HZ.out

  have HZX:Hid (X.heap[w.heap.size]? = some (.cells #[.bool false,.int .i64 0,.slice none 0 0,.bool false,.int .i64 0,.bool false,.bool false,.bool false,.int .i64 0] 56 (0,0))):=Lib.hid (by rw [HX.out];exact (Below.heap_setCell _ _ _ _ (by show w.heap.size ≠ yb;exact hzy)).trans HZC)
  have hth:=there_at (W:=X) HZX.out (n:=(didV false 0 (.slice none 0 0) false (false) false (0):Array Value).size) rfl
  clear HZC HOW hVc hZc hV6 x0 x1 x2 x3 x4 x5 x6 x10 g0 g1 g2 g3 g4 g5 g6 g10 yc yf y6 f6 q0 q1 q2 q3 q4 q5 q6 q8 q9 q10 q11 q14
  go_wp2_with (first | (with_reducible refine wpList_store_mid (by kernel_rfl) _ _ _ rfl w.heap.size 0 (didV false 0 (.slice none 0 0) false (false) false (0)) (by kernel_rfl) (by kernel_rfl) hth hsd (by kernel_rfl) ?_))
  have hrg:=World.rangeAt_setCells_same X w.heap.size 0 [.bool false,.int .i64 0,.slice none 0 0,.bool false,.int .i64 0,.bool (false),.bool false,.bool false,.int .i64 (0)] (there_at (cs:=#[.bool false,.int .i64 0,.slice none 0 0,.bool false,.int .i64 0,.bool false,.bool false,.bool false,.int .i64 0]) (n:=9) (show (X).heap[w.heap.size]? = _ from HZX.out) rfl)
  (try simp only [Exit.inBlock,Exit.then])
  refine bodyPost_ret (results_cell_row rfl _ _ w.heap.size [.bool false,.int .i64 0,.slice none 0 0,.bool false,.int .i64 0,.bool (false),.bool false,.bool false,.int .i64 (0)] _ rfl hrg Tryz.underlying56 rfl did_size) rfl ?_
  obtain ⟨v1,v2⟩:=HH.out.fin (X:=X) HVX.out HYX.out HOX.out (List.length_set ..) (HH.out.w32.set (by omega)) [.bool false,.int .i64 0,.slice none 0 0,.bool false,.int .i64 0,.bool (false),.bool false,.bool false,.int .i64 (0)]
  exact ⟨rfl,v1,v2⟩
theorem dread4a_b (W w:World) (vb yb:Nat) (c:Cfg) (x:CfgAt) (k:Nat) (F:Fr) (ws:List Int) (A:Option Addr) (ds:List Int) (cap:Nat) (p i:Nat) (len st:Int) (mk:Bool) (now:Int) (h:VAt W w vb yb c x k F ws false (.slice A ds.length cap) 4 p i len st mk) (hpi:p ≤ 1 ∧ i ≤ 1) (hr:ws.getD (bufA F p i) 0 ≤ (F.n:Int)) (hz0:ws.getD (bufA F p i) 0 ≠ 0):Calls Tryz.prog 39 #[.pointer (some ⟨vb,0,none⟩),.slice (some ⟨yb,0,none⟩) ws.length ws.length,.int .i64 now] w (VGives W w vb yb c x k F (ws) false (.slice A ds.length cap) (4) (p) (i) (ws.getD (bufA F p i) 0) st (mk) (didV false 0 (.slice none 0 0) false (false) false (1 + 2 * (p:Int) + i))):=by
  have hbin:=h.len.buf hpi.1 hpi.2
  have hmx:=h.len.max
  have hn2:=h.len.n2
  have hn1:=h.len.n1
  have h32s:=h.w32 (bufA F p i)
  unfold rd at h32s
  have hBl:bufA F p i < ws.length:=by omega
  obtain ⟨v,hv⟩:∃ u,ws.getD (bufA F p i) 0 = u:=⟨_,rfl⟩
  rw [hv] at h32s hr hz0 ⊢
  have n1:decide (v ≤ (F.n:Int)) = true:=decide_eq_true hr
  have n2:(v == 0) = false:=beq_false_of_ne hz0
  have n3:decide (v = 0) = false:=decide_eq_false hz0
  have n4:IntKind.i64.wrap v = v:=IntWalk.i64_in _ (by omega)
  have HV:=Lib.hid hv
  clear hv
  obtain ⟨b,o,y0,y1,y2,y3,y4,y5,y6,e0,hlt,e1,hwf,hrow⟩:=h.cfg.rc.at7 h.wf.wc h.fr.lk
  have ew:=h.fr.words
  rw [row_at e1] at ew
  have ew:y3 = (F.n:Int):=ew
  subst ew
  have hnw:IntKind.u32.wrap (F.n:Int) = (F.n:Int):=IntWalk.u32_in _ (by omega)
  have hk1:(k:Int) < (c.chans.length:Int):=by have:=h.fr.lk;omega
  have HROW:=Lib.hid (fun w' hb => (hrow w' hb).2.2.2.1)
  have HE0:=Lib.hid e0
  have hbv:vb ≠ b:=fun e => by have:=h.ne.2.1;omega
  have hbf:IntKind.i64.wrap (IntKind.i64.wrap (1 + IntKind.i64.wrap (2 * (p:Int))) + (i:Int)) = 1 + 2 * (p:Int) + i:=by rw [IntWalk.i64_in (2 * (p:Int)) (by omega),IntWalk.i64_in (1 + 2 * (p:Int)) (by omega)];exact IntWalk.i64_in _ (by omega)
  clear e0 e1 hwf hrow hr hz0
  have hsd:(Tryz.prog.info? 56).map (·.size) = some (didV false 0 (.slice none 0 0) false (false) false (1 + 2 * (p:Int) + i):Array Value).size:=did_size
  have hzy:w.heap.size ≠ yb:=fun e => by have:=h.row.lt;omega
  have hzv:w.heap.size ≠ vb:=fun e => by have:=(Array.getElem?_eq_some_iff.1 h.blk).1;omega
  have hny:vb ≠ yb:=h.ne.1
  obtain ⟨W1,HW1,hsz,hO,hz⟩:=did_new w
  have hvl:vb < w.heap.size:=(Array.getElem?_eq_some_iff.1 h.blk).1
  have hyl:=h.row.lt
  have hV1:=hO.at_ h.blk (fun h => h)
  have hY1:=h.row.of (hO.block yb hyl (fun h => h))
  have hB1:Below W.heap.size W W1:=h.below.trans ⟨hO.os,hO.tape,hO.output,hO.size,fun j hj => hO.block j (by have:=h.below.size;omega) (fun h => h)⟩
  have hcW:CfgIn W1 W1.heap.size c x:=h.cfg.later hB1
  have HSRC:Hid (∀ d os,Calls Tryz.prog 55 #[.agg #[.slice x.pa c.parts.length x.pc,.slice x.ca c.chans.length x.cc,.int .i64 c.len0,.slice x.aa c.win0.length x.ac,.int .i64 c.len1,.slice x.ba c.win1.length x.bc],.int .i64 (k:Int)] (grow (redrawn W1 d) os) (fun e w'' => e = .returned (.agg #[.int .i64 (F.src:Int),.int .i64 (srcSpan c k).2]) ∧ ∃ p:Regrown,w'' = grow (redrawn W1 p.d) p.os)):=Lib.hid (fun d os => by
    have q:=rsource_b c x k (grow (redrawn W1 d) os) (hcW.later (below_regrown W1 d os)) h.wf h.few
    rw [h.fr.src] at q
    exact Calls.regrown_of q)
  have HBUF:Hid (∀ d os,Calls Tryz.prog 70 #[.agg #[.slice x.pa c.parts.length x.pc,.slice x.ca c.chans.length x.cc,.int .i64 c.len0,.slice x.aa c.win0.length x.ac,.int .i64 c.len1,.slice x.ba c.win1.length x.bc],.int .i64 (k:Int),.int .i64 (p:Int),.int .i64 (i:Int)] (grow (redrawn W1 d) os) (fun e w'' => e = .returned (.agg #[.int .i64 ((bufA F p i:Nat):Int),.int .i64 (bufSpan c k p i).2]) ∧ ∃ p:Regrown,w'' = grow (redrawn W1 p.d) p.os)):=Lib.hid (fun d os => by
    have q:=rbuffer_b c x k p i (grow (redrawn W1 d) os) (hcW.later (below_regrown W1 d os)) h.wf h.few
    rw [h.fr.buf p i hpi.1 hpi.2] at q
    exact Calls.regrown_of q)
  have hfs:=run_span0
  have q0:∀ rg:Regrown,(grow (redrawn W1 rg.d) rg.os).cell? ⟨vb,0,none⟩ = some (.slice x.pa c.parts.length x.pc):=fun rg => cell_regrown (cell_blk hV1 rfl) rg.d rg.os
  have q1:∀ rg:Regrown,(grow (redrawn W1 rg.d) rg.os).cell? ⟨vb,1,none⟩ = some (.slice x.ca c.chans.length x.cc):=fun rg => cell_regrown (cell_blk hV1 rfl) rg.d rg.os
  have q2:∀ rg:Regrown,(grow (redrawn W1 rg.d) rg.os).cell? ⟨vb,2,none⟩ = some (.int .i64 c.len0):=fun rg => cell_regrown (cell_blk hV1 rfl) rg.d rg.os
  have q3:∀ rg:Regrown,(grow (redrawn W1 rg.d) rg.os).cell? ⟨vb,3,none⟩ = some (.slice x.aa c.win0.length x.ac):=fun rg => cell_regrown (cell_blk hV1 rfl) rg.d rg.os
  have q4:∀ rg:Regrown,(grow (redrawn W1 rg.d) rg.os).cell? ⟨vb,4,none⟩ = some (.int .i64 c.len1):=fun rg => cell_regrown (cell_blk hV1 rfl) rg.d rg.os
  have q5:∀ rg:Regrown,(grow (redrawn W1 rg.d) rg.os).cell? ⟨vb,5,none⟩ = some (.slice x.ba c.win1.length x.bc):=fun rg => cell_regrown (cell_blk hV1 rfl) rg.d rg.os
  have q6:∀ rg:Regrown,(grow (redrawn W1 rg.d) rg.os).cell? ⟨vb,6,none⟩ = some (.int .i64 (k:Int)):=fun rg => cell_regrown (cell_blk hV1 rfl) rg.d rg.os
  have q8:∀ rg:Regrown,(grow (redrawn W1 rg.d) rg.os).cell? ⟨vb,8,none⟩ = some ((.slice A ds.length cap)):=fun rg => cell_regrown (cell_blk hV1 rfl) rg.d rg.os
  have q9:∀ rg:Regrown,(grow (redrawn W1 rg.d) rg.os).cell? ⟨vb,9,none⟩ = some (.int .i64 4):=fun rg => cell_regrown (cell_blk hV1 rfl) rg.d rg.os
  have q10:∀ rg:Regrown,(grow (redrawn W1 rg.d) rg.os).cell? ⟨vb,10,none⟩ = some (.int .i64 (p:Int)):=fun rg => cell_regrown (cell_blk hV1 rfl) rg.d rg.os
  have q11:∀ rg:Regrown,(grow (redrawn W1 rg.d) rg.os).cell? ⟨vb,11,none⟩ = some (.int .i64 (i:Int)):=fun rg => cell_regrown (cell_blk hV1 rfl) rg.d rg.os
  have q14:∀ rg:Regrown,(grow (redrawn W1 rg.d) rg.os).cell? ⟨vb,14,none⟩ = some (.bool mk):=fun rg => cell_regrown (cell_blk hV1 rfl) rg.d rg.os
  have hixl:bufA F p i < ws.length:=by omega
  have hbc:=Below.refl W1.heap.size W1
  have hzl:w.heap.size < W1.heap.size:=(Array.getElem?_eq_some_iff.1 hz).1
  have HV1:=Lib.hid hV1;have HY1:=Lib.hid hY1;have HO:=Lib.hid hO;have HZ:=Lib.hid hz;have HH:=Lib.hid h;have HB1:=Lib.hid hB1
  clear hV1 hY1 hO hz hB1 hcW
  go_enter Tryz.func39,Tryz.ntmps39
  go_wp2_with (first | (rw [← HW1.out]) | (((first | with_reducible refine wpList_on hbc ?_ | with_reducible refine wp_on hbc (by kernel_rfl) (by kernel_rfl) ?_);(repeat (first | (go_big_quiet_want;(refine quiet_eqlT 117 _ _ _ rfl _ _ rfl rfl (eqS _ _ _ _ true (by simp)) (by kernel_rfl) ?_);go_big_quiet_on;(try simp only [Act.put,List.setIfInBounds_toArray,List.set_cons_zero,List.set_cons_succ])) | go_big_quiet_step (first | with_reducible exact HSRC.out _ _ | with_reducible exact HBUF.out _ _)));with_reducible refine wpQuiet_nil ?_;intro wc hbc;(try clear x1 x6 x8 x9 x10 x11 x12 x14 g1 g6 g8 g9 g10 g11 g12 g14 yc yf hVc hZc);have hVc:=(hbc.block vb (Array.getElem?_eq_some_iff.1 HV1.out).1).trans HV1.out;have x1:wc.cell? ⟨vb,1,none⟩ = some (.slice x.ca c.chans.length x.cc):=cell_blk hVc rfl;have x6:wc.cell? ⟨vb,6,none⟩ = some (.int .i64 (k:Int)):=cell_blk hVc rfl;have x8:wc.cell? ⟨vb,8,none⟩ = some ((.slice A ds.length cap)):=cell_blk hVc rfl;have x9:wc.cell? ⟨vb,9,none⟩ = some (.int .i64 4):=cell_blk hVc rfl;have x10:wc.cell? ⟨vb,10,none⟩ = some (.int .i64 (p:Int)):=cell_blk hVc rfl;have x11:wc.cell? ⟨vb,11,none⟩ = some (.int .i64 (i:Int)):=cell_blk hVc rfl;have x12:wc.cell? ⟨vb,12,none⟩ = some (.int .i64 len):=cell_blk hVc rfl;have x14:wc.cell? ⟨vb,14,none⟩ = some (.bool mk):=cell_blk hVc rfl;have g1:wc.frozen? ⟨vb,1,none⟩ = false:=blk_frozen 1 hVc;have g6:wc.frozen? ⟨vb,6,none⟩ = false:=blk_frozen 6 hVc;have g8:wc.frozen? ⟨vb,8,none⟩ = false:=blk_frozen 8 hVc;have g9:wc.frozen? ⟨vb,9,none⟩ = false:=blk_frozen 9 hVc;have g10:wc.frozen? ⟨vb,10,none⟩ = false:=blk_frozen 10 hVc;have g11:wc.frozen? ⟨vb,11,none⟩ = false:=blk_frozen 11 hVc;have g12:wc.frozen? ⟨vb,12,none⟩ = false:=blk_frozen 12 hVc;have g14:wc.frozen? ⟨vb,14,none⟩ = false:=blk_frozen 14 hVc;have yc:wc.cell? ⟨yb,bufA F p i,none⟩ = some (.int .u32 v):=yv_cell ((HY1.out.below hbc).cell hixl) HV.out;have yf:wc.frozen? ⟨yb,bufA F p i,none⟩ = false:=(HY1.out.below hbc).frozen _;have hZc:=(hbc.block w.heap.size hzl).trans HZ.out)))
  have hbw:Below W.heap.size W wc:=HB1.out.trans (hbc.mono HB1.out.size)
  have kc:=HROW.out wc hbw
  rw [HE0.out] at x1
  clear hbw
  refine wp_region_held_drew (S:=(fun W' => W'.cell? ⟨vb,1,none⟩ = some (.slice (some ⟨b,o,none⟩) c.chans.length x.cc) ∧ W'.cell? ⟨vb,6,none⟩ = some (.int .i64 (k:Int)) ∧ W'.cell? ⟨b,o + k * 7 + 3,none⟩ = some (.int .i64 (F.n:Int)))) (by kernel_rfl) (⟨x1,x6,kc⟩) (fun hHeld => ?_)
  refine wpAnyH_take (i:=0) rfl (by kernel_rfl) (by kernel_rfl) (by kernel_rfl) (fun _ _ _ h => h) (Or.inl ⟨by rfl,by intro w hSw;(have z0:=hSw.1;have z1:=hSw.2.1;have z2:=hSw.2.2;clear hSw);(go_simp <;> with_reducible rfl)⟩) (by assumption) ?_
  (try simp only [Act.put,List.setIfInBounds_toArray,List.set_cons_zero,List.set_cons_succ,List.getElem_toArray,List.getElem_cons_zero,List.getElem_cons_succ])
  refine wpAnyH_take (i:=1) rfl (by kernel_rfl) (by kernel_rfl) (by kernel_rfl) (fun _ _ _ h => h) (Or.inl ⟨by rfl,by intro w hSw;(have z0:=hSw.1;have z1:=hSw.2.1;have z2:=hSw.2.2;clear hSw);(go_simp <;> with_reducible rfl)⟩) (by assumption) ?_
  (try simp only [Act.put,List.setIfInBounds_toArray,List.set_cons_zero,List.set_cons_succ,List.getElem_toArray,List.getElem_cons_zero,List.getElem_cons_succ])
  refine wpAnyH_take (i:=2) rfl (by kernel_rfl) (by kernel_rfl) (by kernel_rfl) (fun _ _ _ h => h) (Or.inl ⟨by rfl,by intro w hSw;(have z0:=hSw.1;have z1:=hSw.2.1;have z2:=hSw.2.2;clear hSw);(go_simp <;> with_reducible rfl)⟩) (by assumption) ?_
  (try simp only [Act.put,List.setIfInBounds_toArray,List.set_cons_zero,List.set_cons_succ,List.getElem_toArray,List.getElem_cons_zero,List.getElem_cons_succ])
  refine wpAnyH_take (i:=3) rfl (by kernel_rfl) (by kernel_rfl) (by kernel_rfl) (fun _ _ _ h => h) (Or.inl ⟨by rfl,by intro w hSw;(have z0:=hSw.1;have z1:=hSw.2.1;have z2:=hSw.2.2;clear hSw);(go_simp <;> with_reducible rfl)⟩) (by assumption) ?_
  (try simp only [Act.put,List.setIfInBounds_toArray,List.set_cons_zero,List.set_cons_succ,List.getElem_toArray,List.getElem_cons_zero,List.getElem_cons_succ])
  refine wpAnyH_take (i:=4) rfl (by kernel_rfl) (by kernel_rfl) (by kernel_rfl) (fun _ _ _ h => h) (Or.inl ⟨by rfl,by intro w hSw;(have z0:=hSw.1;have z1:=hSw.2.1;have z2:=hSw.2.2;clear hSw);(go_simp <;> with_reducible rfl)⟩) (by assumption) ?_
  (try simp only [Act.put,List.setIfInBounds_toArray,List.set_cons_zero,List.set_cons_succ,List.getElem_toArray,List.getElem_cons_zero,List.getElem_cons_succ])
  refine wpAnyH_take (i:=5) rfl (by kernel_rfl) (by kernel_rfl) (by kernel_rfl) (fun _ _ _ h => h) (Or.inl ⟨by rfl,by intro w hSw;(have z0:=hSw.1;have z1:=hSw.2.1;have z2:=hSw.2.2;clear hSw);(go_simp <;> with_reducible rfl)⟩) (by assumption) ?_
  (try simp only [Act.put,List.setIfInBounds_toArray,List.set_cons_zero,List.set_cons_succ,List.getElem_toArray,List.getElem_cons_zero,List.getElem_cons_succ])
  refine wpAnyH_take (i:=6) rfl (by kernel_rfl) (by kernel_rfl) (by kernel_rfl) (fun _ _ _ h => h) (Or.inl ⟨by rfl,by intro w hSw;(have z0:=hSw.1;have z1:=hSw.2.1;have z2:=hSw.2.2;clear hSw);(go_simp <;> with_reducible rfl)⟩) (by assumption) ?_
  (try simp only [Act.put,List.setIfInBounds_toArray,List.set_cons_zero,List.set_cons_succ,List.getElem_toArray,List.getElem_cons_zero,List.getElem_cons_succ])
  refine wpAnyH_take (i:=7) rfl (by kernel_rfl) (by kernel_rfl) (by kernel_rfl) (fun _ _ _ h => h) (Or.inl ⟨by rfl,by intro w hSw;(have z0:=hSw.1;have z1:=hSw.2.1;have z2:=hSw.2.2;clear hSw);(go_simp <;> with_reducible rfl)⟩) (by assumption) ?_
  (try simp only [Act.put,List.setIfInBounds_toArray,List.set_cons_zero,List.set_cons_succ,List.getElem_toArray,List.getElem_cons_zero,List.getElem_cons_succ])
  refine wpAnyH_take (i:=8) rfl (by kernel_rfl) (by kernel_rfl) (by kernel_rfl) (fun _ _ _ h => h) (Or.inl ⟨by rfl,by intro w hSw;(have z0:=hSw.1;have z1:=hSw.2.1;have z2:=hSw.2.2;clear hSw);(go_simp <;> with_reducible rfl)⟩) (by assumption) ?_
  (try simp only [Act.put,List.setIfInBounds_toArray,List.set_cons_zero,List.set_cons_succ,List.getElem_toArray,List.getElem_cons_zero,List.getElem_cons_succ])
  refine wpAnyH_take (i:=9) rfl (by kernel_rfl) (by kernel_rfl) (by kernel_rfl) (fun _ _ _ h => h) (Or.inl ⟨by rfl,by intro w hSw;(have z0:=hSw.1;have z1:=hSw.2.1;have z2:=hSw.2.2;clear hSw);(go_simp <;> with_reducible rfl)⟩) (by assumption) ?_
  (try simp only [Act.put,List.setIfInBounds_toArray,List.set_cons_zero,List.set_cons_succ,List.getElem_toArray,List.getElem_cons_zero,List.getElem_cons_succ])
  refine wpAnyH_take (i:=10) rfl (by kernel_rfl) (by kernel_rfl) (by kernel_rfl) (fun _ _ _ h => h) (Or.inl ⟨by rfl,by intro w hSw;(have z0:=hSw.1;have z1:=hSw.2.1;have z2:=hSw.2.2;clear hSw);(go_simp <;> with_reducible rfl)⟩) (by assumption) ?_
  (try simp only [Act.put,List.setIfInBounds_toArray,List.set_cons_zero,List.set_cons_succ,List.getElem_toArray,List.getElem_cons_zero,List.getElem_cons_succ])
  refine wpAnyH_take (i:=11) rfl (by kernel_rfl) (by kernel_rfl) (by kernel_rfl) (fun _ _ _ h => h) (Or.inl ⟨by rfl,by intro w hSw;(have z0:=hSw.1;have z1:=hSw.2.1;have z2:=hSw.2.2;clear hSw);(go_simp <;> with_reducible rfl)⟩) (by assumption) ?_
  (try simp only [Act.put,List.setIfInBounds_toArray,List.set_cons_zero,List.set_cons_succ,List.getElem_toArray,List.getElem_cons_zero,List.getElem_cons_succ])
  refine wpAnyH_take (i:=12) rfl (by kernel_rfl) (by kernel_rfl) (by kernel_rfl) (fun _ _ _ h => h) (Or.inl ⟨by rfl,by intro w hSw;(have z0:=hSw.1;have z1:=hSw.2.1;have z2:=hSw.2.2;clear hSw);(go_simp <;> with_reducible rfl)⟩) (by assumption) ?_
  (try simp only [Act.put,List.setIfInBounds_toArray,List.set_cons_zero,List.set_cons_succ,List.getElem_toArray,List.getElem_cons_zero,List.getElem_cons_succ])
  refine wpAnyH_take (i:=13) rfl (by kernel_rfl) (by kernel_rfl) (by kernel_rfl) (fun _ _ _ h => h) (Or.inl ⟨by rfl,by intro w hSw;(have z0:=hSw.1;have z1:=hSw.2.1;have z2:=hSw.2.2;clear hSw);(go_simp <;> with_reducible rfl)⟩) (by assumption) ?_
  (try simp only [Act.put,List.setIfInBounds_toArray,List.set_cons_zero,List.set_cons_succ,List.getElem_toArray,List.getElem_cons_zero,List.getElem_cons_succ])
  refine wpAnyH_take (i:=14) rfl (by kernel_rfl) (by kernel_rfl) (by kernel_rfl) (fun _ _ _ h => h) (Or.inl ⟨by rfl,by intro w hSw;(have z0:=hSw.1;have z1:=hSw.2.1;have z2:=hSw.2.2;clear hSw);(go_simp <;> with_reducible rfl)⟩) (by assumption) ?_
  (try simp only [Act.put,List.setIfInBounds_toArray,List.set_cons_zero,List.set_cons_succ,List.getElem_toArray,List.getElem_cons_zero,List.getElem_cons_succ])
  refine wpAnyH_ready (rs:=[15]) (by kernel_rfl) (by simp) (AllReadyH.cons rfl (fun K hK => ?_) AllReadyH.nil)
  go_simp
  refine hK.out _ _ ((by exact ⟨cset (And.left hHeld) (.inr (by decide)),cset (And.left (And.right hHeld)) (.inr (by decide)),cset (And.right (And.right hHeld)) (.inl hbv)⟩)) (fun hHeld => ?_)
  clear hK K
  (try simp only [Act.put,List.setIfInBounds_toArray,List.set_cons_zero,List.set_cons_succ,List.getElem_toArray,List.getElem_cons_zero,List.getElem_cons_succ])
  refine wpAnyH_done (by kernel_rfl) ?_ _
  obtain ⟨X1,HX1⟩:∃ u,Hid (u = wc.setCell ⟨vb,12,none⟩ (.int .i64 (F.n:Int))):=⟨_,rfl⟩
  rw [← HX1.out]
  have HOW:=(HO.out.mono (T:=New w.heap.size fun j => j = vb ∨ j = yb) fun _ _ h => h.elim).trans ((Only.of_below (S:=New w.heap.size fun j => j = vb ∨ j = yb) hbc))
  have HOX1:Hid (Only (New w.heap.size fun j => j = vb ∨ j = yb) w X1):=Lib.hid (by rw [HX1.out];exact HOW.set (p:=⟨vb,12,none⟩) (.inr (.inl rfl)) _)
  have HVX1:Hid (X1.heap[vb]? = some (.cells (vV c x k (false) ((.slice A ds.length cap)) (4) (p) (i) ((F.n:Int)) (st) (mk)) 52 (0,0))):=Lib.hid (by rw [HX1.out];exact vset12 hVc (F.n:Int))
  have HYX1:=Lib.hid (show WordsAt X1 yb ws from by rw [HX1.out];exact (HY1.out.below hbc).of (Below.heap_setCell _ _ _ _ (by show yb ≠ vb;exact hny.symm)))
  have HZC:=(hbc.block w.heap.size (by have:=HZ.out;exact (Array.getElem?_eq_some_iff.1 this).1)).trans HZ.out

  have HZX1:Hid (X1.heap[w.heap.size]? = some (.cells #[.bool false,.int .i64 0,.slice none 0 0,.bool false,.int .i64 0,.bool false,.bool false,.bool false,.int .i64 0] 56 (0,0))):=Lib.hid (by rw [HX1.out];exact (Below.heap_setCell _ _ _ _ (by show w.heap.size ≠ vb;exact hzv)).trans HZC)
  have u12:X1.drew.cell? ⟨vb,12,none⟩ = some (.int .i64 (F.n:Int)):=cell_blk (W:=X1.drew) HVX1.out rfl
  have uf12:X1.drew.drew.frozen? ⟨vb,12,none⟩ = false:=blk_frozen (W:=X1.drew.drew) 12 HVX1.out
  have ub12:X1.drew.drew.cell? ⟨vb,12,none⟩ = some (.int .i64 (F.n:Int)):=cell_blk (W:=X1.drew.drew) HVX1.out rfl
  have uyb:X1.drew.drew.cell? ⟨yb,bufA F p i,none⟩ = some (.int .u32 v):=yv_cell (HYX1.out.cell hBl) HV.out
  have uy:X1.drew.cell? ⟨yb,bufA F p i,none⟩ = some (.int .u32 v):=yv_cell (HYX1.out.cell hBl) HV.out
  clear HZC HOW hVc hZc x1 x6 x8 x9 x10 x11 x12 x14 g1 g6 g8 g9 g10 g11 g12 g14 yc yf kc q0 q1 q2 q3 q4 q5 q6 q8 q9 q10 q11 q14
  go_wp2
  refine wp_region_held_drew (S:=(fun W' => W'.cell? ⟨vb,12,none⟩ = some (.int .i64 (F.n:Int)) ∧ W'.cell? ⟨yb,bufA F p i,none⟩ = some (.int .u32 v))) (by kernel_rfl) (⟨u12,uy⟩) (fun hHeld => ?_)
  refine wpAnyH_take (i:=0) rfl (by kernel_rfl) (by kernel_rfl) (by kernel_rfl) (fun _ _ _ h => h) (Or.inl ⟨by rfl,by intro w hSw;(have z0:=hSw.1;have z1:=hSw.2;clear hSw);(go_simp <;> with_reducible rfl)⟩) (by assumption) ?_
  (try simp only [Act.put,List.setIfInBounds_toArray,List.set_cons_zero,List.set_cons_succ,List.getElem_toArray,List.getElem_cons_zero,List.getElem_cons_succ])
  refine wpAnyH_take (i:=1) rfl (by kernel_rfl) (by kernel_rfl) (by kernel_rfl) (fun _ _ _ h => h) (Or.inl ⟨by rfl,by intro w hSw;(have z0:=hSw.1;have z1:=hSw.2;clear hSw);(go_simp <;> with_reducible rfl)⟩) (by assumption) ?_
  (try simp only [Act.put,List.setIfInBounds_toArray,List.set_cons_zero,List.set_cons_succ,List.getElem_toArray,List.getElem_cons_zero,List.getElem_cons_succ])
  refine wpAnyH_take (i:=2) rfl (by kernel_rfl) (by kernel_rfl) (by kernel_rfl) (fun _ _ _ h => h) (Or.inl ⟨by rfl,by intro w hSw;(have z0:=hSw.1;have z1:=hSw.2;clear hSw);(go_simp <;> with_reducible rfl)⟩) (by assumption) ?_
  (try simp only [Act.put,List.setIfInBounds_toArray,List.set_cons_zero,List.set_cons_succ,List.getElem_toArray,List.getElem_cons_zero,List.getElem_cons_succ])
  refine wpAnyH_take (i:=3) rfl (by kernel_rfl) (by kernel_rfl) (by kernel_rfl) (fun _ _ _ h => h) (Or.inl ⟨by rfl,by intro w hSw;(have z0:=hSw.1;have z1:=hSw.2;clear hSw);(go_simp <;> with_reducible rfl)⟩) (by assumption) ?_
  (try simp only [Act.put,List.setIfInBounds_toArray,List.set_cons_zero,List.set_cons_succ,List.getElem_toArray,List.getElem_cons_zero,List.getElem_cons_succ])
  refine wpAnyH_take (i:=4) rfl (by kernel_rfl) (by kernel_rfl) (by kernel_rfl) (fun _ _ _ h => h) (Or.inl ⟨by rfl,by intro w hSw;(have z0:=hSw.1;have z1:=hSw.2;clear hSw);(go_simp <;> with_reducible rfl)⟩) (by assumption) ?_
  (try simp only [Act.put,List.setIfInBounds_toArray,List.set_cons_zero,List.set_cons_succ,List.getElem_toArray,List.getElem_cons_zero,List.getElem_cons_succ])
  refine wpAnyH_take (i:=5) rfl (by kernel_rfl) (by kernel_rfl) (by kernel_rfl) (fun _ _ _ h => h) (Or.inl ⟨by rfl,by intro w hSw;(have z0:=hSw.1;have z1:=hSw.2;clear hSw);(go_simp <;> with_reducible rfl)⟩) (by assumption) ?_
  (try simp only [Act.put,List.setIfInBounds_toArray,List.set_cons_zero,List.set_cons_succ,List.getElem_toArray,List.getElem_cons_zero,List.getElem_cons_succ])
  refine wpAnyH_take (i:=6) rfl (by kernel_rfl) (by kernel_rfl) (by kernel_rfl) (fun _ _ _ h => h) (Or.inl ⟨by rfl,by intro w hSw;(have z0:=hSw.1;have z1:=hSw.2;clear hSw);(go_simp <;> with_reducible rfl)⟩) (by assumption) ?_
  (try simp only [Act.put,List.setIfInBounds_toArray,List.set_cons_zero,List.set_cons_succ,List.getElem_toArray,List.getElem_cons_zero,List.getElem_cons_succ])
  refine wpAnyH_take (i:=7) rfl (by kernel_rfl) (by kernel_rfl) (by kernel_rfl) (fun _ _ _ h => h) (Or.inl ⟨by rfl,by intro w hSw;(have z0:=hSw.1;have z1:=hSw.2;clear hSw);(go_simp <;> with_reducible rfl)⟩) (by assumption) ?_
  (try simp only [Act.put,List.setIfInBounds_toArray,List.set_cons_zero,List.set_cons_succ,List.getElem_toArray,List.getElem_cons_zero,List.getElem_cons_succ])
  refine wpAnyH_take (i:=8) rfl (by kernel_rfl) (by kernel_rfl) (by kernel_rfl) (fun _ _ _ h => h) (Or.inl ⟨by rfl,by intro w hSw;(have z0:=hSw.1;have z1:=hSw.2;clear hSw);(go_simp <;> with_reducible rfl)⟩) (by assumption) ?_
  (try simp only [Act.put,List.setIfInBounds_toArray,List.set_cons_zero,List.set_cons_succ,List.getElem_toArray,List.getElem_cons_zero,List.getElem_cons_succ])
  refine wpAnyH_take (i:=9) rfl (by kernel_rfl) (by kernel_rfl) (by kernel_rfl) (fun _ _ _ h => h) (Or.inl ⟨by rfl,by intro w hSw;(have z0:=hSw.1;have z1:=hSw.2;clear hSw);(go_simp <;> with_reducible rfl)⟩) (by assumption) ?_
  (try simp only [Act.put,List.setIfInBounds_toArray,List.set_cons_zero,List.set_cons_succ,List.getElem_toArray,List.getElem_cons_zero,List.getElem_cons_succ])
  refine wpAnyH_done (by kernel_rfl) ?_ _
  obtain ⟨X,HX⟩:∃ u,Hid (u = X1.setCell ⟨vb,12,none⟩ (.int .i64 v)):=⟨_,rfl⟩
  have HOX:Hid (Only (New w.heap.size fun j => j = vb ∨ j = yb) w X):=Lib.hid (by rw [HX.out];exact HOX1.out.set (p:=⟨vb,12,none⟩) (.inr (.inl rfl)) _)
  have HVX:Hid (X.heap[vb]? = some (.cells (vV c x k (false) ((.slice A ds.length cap)) (4) (p) (i) (v) (st) (mk)) 52 (0,0))):=Lib.hid (by rw [HX.out];exact vset12 HVX1.out v)
  have HYX:=Lib.hid (show WordsAt X yb ws from by rw [HX.out];exact HYX1.out.of (Below.heap_setCell _ _ _ _ (by show yb ≠ vb;exact hny.symm)))
  have HZX:Hid (X.heap[w.heap.size]? = some (.cells #[.bool false,.int .i64 0,.slice none 0 0,.bool false,.int .i64 0,.bool false,.bool false,.bool false,.int .i64 0] 56 (0,0))):=Lib.hid (by rw [HX.out];exact (Below.heap_setCell _ _ _ _ (by show w.heap.size ≠ vb;exact hzv)).trans HZX1.out)
  have e12:X.drew.drew.cell? ⟨vb,12,none⟩ = some (.int .i64 v):=cell_blk (W:=X.drew.drew) HVX.out rfl

  go_wp2_with (first | (rw [← HX.out]))
  have e10:X.cell? ⟨vb,10,none⟩ = some (.int .i64 (p:Int)):=cell_blk HVX.out rfl
  have e11:X.cell? ⟨vb,11,none⟩ = some (.int .i64 (i:Int)):=cell_blk HVX.out rfl
  have hth:=there_at (W:=X) HZX.out (n:=(didV false 0 (.slice none 0 0) false (false) false (1 + 2 * (p:Int) + i):Array Value).size) rfl
  obtain ⟨i1,i2⟩:=hpi
  refine wp_region_held_drew (S:=(fun W' => W'.cell? ⟨vb,10,none⟩ = some (.int .i64 (p:Int)) ∧ W'.cell? ⟨vb,11,none⟩ = some (.int .i64 (i:Int)))) (by kernel_rfl) (⟨e10,e11⟩) (fun hHeld => ?_)
  refine wpAnyH_take (i:=0) rfl (by kernel_rfl) (by kernel_rfl) (by kernel_rfl) (fun _ _ _ h => h) (Or.inl ⟨by rfl,by intro w hSw;(have z0:=hSw.1;have z1:=hSw.2;clear hSw);(go_simp <;> with_reducible rfl)⟩) (by assumption) ?_
  (try simp only [Act.put,List.setIfInBounds_toArray,List.set_cons_zero,List.set_cons_succ,List.getElem_toArray,List.getElem_cons_zero,List.getElem_cons_succ])
  refine wpAnyH_take (i:=1) rfl (by kernel_rfl) (by kernel_rfl) (by kernel_rfl) (fun _ _ _ h => h) (Or.inl ⟨by rfl,by intro w hSw;(have z0:=hSw.1;have z1:=hSw.2;clear hSw);(go_simp <;> with_reducible rfl)⟩) (by assumption) ?_
  (try simp only [Act.put,List.setIfInBounds_toArray,List.set_cons_zero,List.set_cons_succ,List.getElem_toArray,List.getElem_cons_zero,List.getElem_cons_succ])
  refine wpAnyH_take (i:=2) rfl (by kernel_rfl) (by kernel_rfl) (by kernel_rfl) (fun _ _ _ h => h) (Or.inl ⟨by rfl,by intro w hSw;(have z0:=hSw.1;have z1:=hSw.2;clear hSw);(go_simp <;> with_reducible rfl)⟩) (by assumption) ?_
  (try simp only [Act.put,List.setIfInBounds_toArray,List.set_cons_zero,List.set_cons_succ,List.getElem_toArray,List.getElem_cons_zero,List.getElem_cons_succ])
  refine wpAnyH_take (i:=3) rfl (by kernel_rfl) (by kernel_rfl) (by kernel_rfl) (fun _ _ _ h => h) (Or.inl ⟨by rfl,by intro w hSw;(have z0:=hSw.1;have z1:=hSw.2;clear hSw);(go_simp <;> with_reducible rfl)⟩) (by assumption) ?_
  (try simp only [Act.put,List.setIfInBounds_toArray,List.set_cons_zero,List.set_cons_succ,List.getElem_toArray,List.getElem_cons_zero,List.getElem_cons_succ])
  refine wpAnyH_take (i:=4) rfl (by kernel_rfl) (by kernel_rfl) (by kernel_rfl) (fun _ _ _ h => h) (Or.inl ⟨by rfl,by intro w hSw;(have z0:=hSw.1;have z1:=hSw.2;clear hSw);(go_simp <;> with_reducible rfl)⟩) (by assumption) ?_
  (try simp only [Act.put,List.setIfInBounds_toArray,List.set_cons_zero,List.set_cons_succ,List.getElem_toArray,List.getElem_cons_zero,List.getElem_cons_succ])
  refine wpAnyH_take (i:=5) rfl (by kernel_rfl) (by kernel_rfl) (by kernel_rfl) (fun _ _ _ h => h) (Or.inl ⟨by rfl,by intro w hSw;(have z0:=hSw.1;have z1:=hSw.2;clear hSw);(go_simp <;> with_reducible rfl)⟩) (by assumption) ?_
  (try simp only [Act.put,List.setIfInBounds_toArray,List.set_cons_zero,List.set_cons_succ,List.getElem_toArray,List.getElem_cons_zero,List.getElem_cons_succ])
  refine wpAnyH_take (i:=6) rfl (by kernel_rfl) (by kernel_rfl) (by kernel_rfl) (fun _ _ _ h => h) (Or.inl ⟨by rfl,by intro w hSw;(have z0:=hSw.1;have z1:=hSw.2;clear hSw);(go_simp <;> with_reducible rfl)⟩) (by assumption) ?_
  (try simp only [Act.put,List.setIfInBounds_toArray,List.set_cons_zero,List.set_cons_succ,List.getElem_toArray,List.getElem_cons_zero,List.getElem_cons_succ])
  refine wpAnyH_take (i:=7) rfl (by kernel_rfl) (by kernel_rfl) (by kernel_rfl) (fun _ _ _ h => h) (Or.inl ⟨by rfl,by intro w hSw;(have z0:=hSw.1;have z1:=hSw.2;clear hSw);(go_simp <;> with_reducible rfl)⟩) (by assumption) ?_
  (try simp only [Act.put,List.setIfInBounds_toArray,List.set_cons_zero,List.set_cons_succ,List.getElem_toArray,List.getElem_cons_zero,List.getElem_cons_succ])
  refine wpAnyH_take (i:=8) rfl (by kernel_rfl) (by kernel_rfl) (by kernel_rfl) (fun _ _ _ h => h) (Or.inl ⟨by rfl,by intro w hSw;(have z0:=hSw.1;have z1:=hSw.2;clear hSw);(go_simp <;> with_reducible rfl)⟩) (by assumption) ?_
  (try simp only [Act.put,List.setIfInBounds_toArray,List.set_cons_zero,List.set_cons_succ,List.getElem_toArray,List.getElem_cons_zero,List.getElem_cons_succ])
  refine wpAnyH_take (i:=9) rfl (by kernel_rfl) (by kernel_rfl) (by kernel_rfl) (fun _ _ _ h => h) (Or.inl ⟨by rfl,by intro w hSw;(have z0:=hSw.1;have z1:=hSw.2;clear hSw);(go_simp <;> with_reducible rfl)⟩) (by assumption) ?_
  (try simp only [Act.put,List.setIfInBounds_toArray,List.set_cons_zero,List.set_cons_succ,List.getElem_toArray,List.getElem_cons_zero,List.getElem_cons_succ])
  refine wpAnyH_take (i:=10) rfl (by kernel_rfl) (by kernel_rfl) (by kernel_rfl) (fun _ _ _ h => h) (Or.inl ⟨by rfl,by intro w hSw;(have z0:=hSw.1;have z1:=hSw.2;clear hSw);(go_simp <;> with_reducible rfl)⟩) (by assumption) ?_
  (try simp only [Act.put,List.setIfInBounds_toArray,List.set_cons_zero,List.set_cons_succ,List.getElem_toArray,List.getElem_cons_zero,List.getElem_cons_succ])
  refine wpAnyH_take (i:=11) rfl (by kernel_rfl) (by kernel_rfl) (by kernel_rfl) (fun _ _ _ h => h) (Or.inl ⟨by rfl,by intro w hSw;(have z0:=hSw.1;have z1:=hSw.2;clear hSw);(go_simp <;> with_reducible rfl)⟩) (by assumption) ?_
  (try simp only [Act.put,List.setIfInBounds_toArray,List.set_cons_zero,List.set_cons_succ,List.getElem_toArray,List.getElem_cons_zero,List.getElem_cons_succ])
  refine wpAnyH_ready (rs:=[12]) (by kernel_rfl) (by simp) (AllReadyH.cons rfl (fun K hK => ?_) AllReadyH.nil)
  rw [if_pos (by rfl)]
  refine wp_store_mid _ _ _ rfl w.heap.size 0 (didV false 0 (.slice none 0 0) false (false) false (1 + 2 * (p:Int) + i)) rfl rfl hth hsd (by kernel_rfl) ?_
  refine hK.out _ _ (keep_box2 hHeld (by have:=hvl;show w.heap.size ≠ vb;omega)) (fun hHeld => ?_)
  clear hK K
  (try simp only [Act.put,List.setIfInBounds_toArray,List.set_cons_zero,List.set_cons_succ,List.getElem_toArray,List.getElem_cons_zero,List.getElem_cons_succ])
  refine wpAnyH_done (by kernel_rfl) ?_ _
  go_wp2
  have hrg:=World.rangeAt_setCells_same X.drew.drew.drew w.heap.size 0 [.bool false,.int .i64 0,.slice none 0 0,.bool false,.int .i64 0,.bool (false),.bool false,.bool false,.int .i64 (1 + 2 * (p:Int) + i)] (there_at (cs:=#[.bool false,.int .i64 0,.slice none 0 0,.bool false,.int .i64 0,.bool false,.bool false,.bool false,.int .i64 0]) (n:=9) (show (X.drew.drew.drew).heap[w.heap.size]? = _ from HZX.out) rfl)
  (try simp only [Exit.inBlock,Exit.then])
  refine bodyPost_ret (results_cell_row rfl _ _ w.heap.size [.bool false,.int .i64 0,.slice none 0 0,.bool false,.int .i64 0,.bool (false),.bool false,.bool false,.int .i64 (1 + 2 * (p:Int) + i)] _ rfl hrg Tryz.underlying56 rfl did_size) rfl ?_
  obtain ⟨v1,v2⟩:=HH.out.fin (X:=X.drew.drew.drew) HVX.out HYX.out HOX.out.drew.drew.drew rfl HH.out.w32 [.bool false,.int .i64 0,.slice none 0 0,.bool false,.int .i64 0,.bool (false),.bool false,.bool false,.int .i64 (1 + 2 * (p:Int) + i)]
  exact ⟨rfl,v1,v2⟩
theorem dread4b_b (W w:World) (vb yb:Nat) (c:Cfg) (x:CfgAt) (k:Nat) (F:Fr) (ws:List Int) (A:Option Addr) (ds:List Int) (cap:Nat) (p i:Nat) (len st:Int) (mk:Bool) (now:Int) (h:VAt W w vb yb c x k F ws false (.slice A ds.length cap) 4 p i len st mk) (hpi:p ≤ 1 ∧ i ≤ 1) (hr:ws.getD (bufA F p i) 0 = 0):Calls Tryz.prog 39 #[.pointer (some ⟨vb,0,none⟩),.slice (some ⟨yb,0,none⟩) ws.length ws.length,.int .i64 now] w (VGives W w vb yb c x k F (ws) false (.slice A ds.length cap) (-1) (p) (i) 0 st (mk) (didV true 1 (.slice none 0 0) false (false) false (1 + 2 * (p:Int) + i))):=by
  have hbin:=h.len.buf hpi.1 hpi.2
  have hmx:=h.len.max
  have hn2:=h.len.n2
  have hn1:=h.len.n1
  have h32s:=h.w32 (bufA F p i)
  unfold rd at h32s
  have hBl:bufA F p i < ws.length:=by omega
  obtain ⟨v,hv⟩:∃ u,ws.getD (bufA F p i) 0 = u:=⟨_,rfl⟩
  rw [hv] at h32s hr
  subst hr
  have n1:decide ((0:Int) ≤ (F.n:Int)) = true:=decide_eq_true (by omega)
  have HV:=Lib.hid hv
  clear hv
  obtain ⟨b,o,y0,y1,y2,y3,y4,y5,y6,e0,hlt,e1,hwf,hrow⟩:=h.cfg.rc.at7 h.wf.wc h.fr.lk
  have ew:=h.fr.words
  rw [row_at e1] at ew
  have ew:y3 = (F.n:Int):=ew
  subst ew
  have hnw:IntKind.u32.wrap (F.n:Int) = (F.n:Int):=IntWalk.u32_in _ (by omega)
  have hk1:(k:Int) < (c.chans.length:Int):=by have:=h.fr.lk;omega
  have HROW:=Lib.hid (fun w' hb => (hrow w' hb).2.2.2.1)
  have HE0:=Lib.hid e0
  have hbv:vb ≠ b:=fun e => by have:=h.ne.2.1;omega
  have hbf:IntKind.i64.wrap (IntKind.i64.wrap (1 + IntKind.i64.wrap (2 * (p:Int))) + (i:Int)) = 1 + 2 * (p:Int) + i:=by rw [IntWalk.i64_in (2 * (p:Int)) (by omega),IntWalk.i64_in (1 + 2 * (p:Int)) (by omega)];exact IntWalk.i64_in _ (by omega)
  clear e0 e1 hwf hrow
  have hsd:(Tryz.prog.info? 56).map (·.size) = some (didV true 1 (.slice none 0 0) false (false) false (1 + 2 * (p:Int) + i):Array Value).size:=did_size
  have hzy:w.heap.size ≠ yb:=fun e => by have:=h.row.lt;omega
  have hzv:w.heap.size ≠ vb:=fun e => by have:=(Array.getElem?_eq_some_iff.1 h.blk).1;omega
  have hny:vb ≠ yb:=h.ne.1
  obtain ⟨W1,HW1,hsz,hO,hz⟩:=did_new w
  have hvl:vb < w.heap.size:=(Array.getElem?_eq_some_iff.1 h.blk).1
  have hyl:=h.row.lt
  have hV1:=hO.at_ h.blk (fun h => h)
  have hY1:=h.row.of (hO.block yb hyl (fun h => h))
  have hB1:Below W.heap.size W W1:=h.below.trans ⟨hO.os,hO.tape,hO.output,hO.size,fun j hj => hO.block j (by have:=h.below.size;omega) (fun h => h)⟩
  have hcW:CfgIn W1 W1.heap.size c x:=h.cfg.later hB1
  have HSRC:Hid (∀ d os,Calls Tryz.prog 55 #[.agg #[.slice x.pa c.parts.length x.pc,.slice x.ca c.chans.length x.cc,.int .i64 c.len0,.slice x.aa c.win0.length x.ac,.int .i64 c.len1,.slice x.ba c.win1.length x.bc],.int .i64 (k:Int)] (grow (redrawn W1 d) os) (fun e w'' => e = .returned (.agg #[.int .i64 (F.src:Int),.int .i64 (srcSpan c k).2]) ∧ ∃ p:Regrown,w'' = grow (redrawn W1 p.d) p.os)):=Lib.hid (fun d os => by
    have q:=rsource_b c x k (grow (redrawn W1 d) os) (hcW.later (below_regrown W1 d os)) h.wf h.few
    rw [h.fr.src] at q
    exact Calls.regrown_of q)
  have HBUF:Hid (∀ d os,Calls Tryz.prog 70 #[.agg #[.slice x.pa c.parts.length x.pc,.slice x.ca c.chans.length x.cc,.int .i64 c.len0,.slice x.aa c.win0.length x.ac,.int .i64 c.len1,.slice x.ba c.win1.length x.bc],.int .i64 (k:Int),.int .i64 (p:Int),.int .i64 (i:Int)] (grow (redrawn W1 d) os) (fun e w'' => e = .returned (.agg #[.int .i64 ((bufA F p i:Nat):Int),.int .i64 (bufSpan c k p i).2]) ∧ ∃ p:Regrown,w'' = grow (redrawn W1 p.d) p.os)):=Lib.hid (fun d os => by
    have q:=rbuffer_b c x k p i (grow (redrawn W1 d) os) (hcW.later (below_regrown W1 d os)) h.wf h.few
    rw [h.fr.buf p i hpi.1 hpi.2] at q
    exact Calls.regrown_of q)
  have hfs:=run_span0
  have q0:∀ rg:Regrown,(grow (redrawn W1 rg.d) rg.os).cell? ⟨vb,0,none⟩ = some (.slice x.pa c.parts.length x.pc):=fun rg => cell_regrown (cell_blk hV1 rfl) rg.d rg.os
  have q1:∀ rg:Regrown,(grow (redrawn W1 rg.d) rg.os).cell? ⟨vb,1,none⟩ = some (.slice x.ca c.chans.length x.cc):=fun rg => cell_regrown (cell_blk hV1 rfl) rg.d rg.os
  have q2:∀ rg:Regrown,(grow (redrawn W1 rg.d) rg.os).cell? ⟨vb,2,none⟩ = some (.int .i64 c.len0):=fun rg => cell_regrown (cell_blk hV1 rfl) rg.d rg.os
  have q3:∀ rg:Regrown,(grow (redrawn W1 rg.d) rg.os).cell? ⟨vb,3,none⟩ = some (.slice x.aa c.win0.length x.ac):=fun rg => cell_regrown (cell_blk hV1 rfl) rg.d rg.os
  have q4:∀ rg:Regrown,(grow (redrawn W1 rg.d) rg.os).cell? ⟨vb,4,none⟩ = some (.int .i64 c.len1):=fun rg => cell_regrown (cell_blk hV1 rfl) rg.d rg.os
  have q5:∀ rg:Regrown,(grow (redrawn W1 rg.d) rg.os).cell? ⟨vb,5,none⟩ = some (.slice x.ba c.win1.length x.bc):=fun rg => cell_regrown (cell_blk hV1 rfl) rg.d rg.os
  have q6:∀ rg:Regrown,(grow (redrawn W1 rg.d) rg.os).cell? ⟨vb,6,none⟩ = some (.int .i64 (k:Int)):=fun rg => cell_regrown (cell_blk hV1 rfl) rg.d rg.os
  have q8:∀ rg:Regrown,(grow (redrawn W1 rg.d) rg.os).cell? ⟨vb,8,none⟩ = some ((.slice A ds.length cap)):=fun rg => cell_regrown (cell_blk hV1 rfl) rg.d rg.os
  have q9:∀ rg:Regrown,(grow (redrawn W1 rg.d) rg.os).cell? ⟨vb,9,none⟩ = some (.int .i64 4):=fun rg => cell_regrown (cell_blk hV1 rfl) rg.d rg.os
  have q10:∀ rg:Regrown,(grow (redrawn W1 rg.d) rg.os).cell? ⟨vb,10,none⟩ = some (.int .i64 (p:Int)):=fun rg => cell_regrown (cell_blk hV1 rfl) rg.d rg.os
  have q11:∀ rg:Regrown,(grow (redrawn W1 rg.d) rg.os).cell? ⟨vb,11,none⟩ = some (.int .i64 (i:Int)):=fun rg => cell_regrown (cell_blk hV1 rfl) rg.d rg.os
  have q14:∀ rg:Regrown,(grow (redrawn W1 rg.d) rg.os).cell? ⟨vb,14,none⟩ = some (.bool mk):=fun rg => cell_regrown (cell_blk hV1 rfl) rg.d rg.os
  have hixl:bufA F p i < ws.length:=by omega
  have hbc:=Below.refl W1.heap.size W1
  have hzl:w.heap.size < W1.heap.size:=(Array.getElem?_eq_some_iff.1 hz).1
  have HV1:=Lib.hid hV1;have HY1:=Lib.hid hY1;have HO:=Lib.hid hO;have HZ:=Lib.hid hz;have HH:=Lib.hid h;have HB1:=Lib.hid hB1
  clear hV1 hY1 hO hz hB1 hcW
  go_enter Tryz.func39,Tryz.ntmps39
  go_wp2_with (first | (rw [← HW1.out]) | (((first | with_reducible refine wpList_on hbc ?_ | with_reducible refine wp_on hbc (by kernel_rfl) (by kernel_rfl) ?_);(repeat (first | (go_big_quiet_want;(refine quiet_eqlT 117 _ _ _ rfl _ _ rfl rfl (eqS _ _ _ _ true (by simp)) (by kernel_rfl) ?_);go_big_quiet_on;(try simp only [Act.put,List.setIfInBounds_toArray,List.set_cons_zero,List.set_cons_succ])) | go_big_quiet_step (first | with_reducible exact HSRC.out _ _ | with_reducible exact HBUF.out _ _)));with_reducible refine wpQuiet_nil ?_;intro wc hbc;(try clear x1 x6 x8 x9 x10 x11 x12 x14 g1 g6 g8 g9 g10 g11 g12 g14 yc yf hVc hZc);have hVc:=(hbc.block vb (Array.getElem?_eq_some_iff.1 HV1.out).1).trans HV1.out;have x1:wc.cell? ⟨vb,1,none⟩ = some (.slice x.ca c.chans.length x.cc):=cell_blk hVc rfl;have x6:wc.cell? ⟨vb,6,none⟩ = some (.int .i64 (k:Int)):=cell_blk hVc rfl;have x8:wc.cell? ⟨vb,8,none⟩ = some ((.slice A ds.length cap)):=cell_blk hVc rfl;have x9:wc.cell? ⟨vb,9,none⟩ = some (.int .i64 4):=cell_blk hVc rfl;have x10:wc.cell? ⟨vb,10,none⟩ = some (.int .i64 (p:Int)):=cell_blk hVc rfl;have x11:wc.cell? ⟨vb,11,none⟩ = some (.int .i64 (i:Int)):=cell_blk hVc rfl;have x12:wc.cell? ⟨vb,12,none⟩ = some (.int .i64 len):=cell_blk hVc rfl;have x14:wc.cell? ⟨vb,14,none⟩ = some (.bool mk):=cell_blk hVc rfl;have g1:wc.frozen? ⟨vb,1,none⟩ = false:=blk_frozen 1 hVc;have g6:wc.frozen? ⟨vb,6,none⟩ = false:=blk_frozen 6 hVc;have g8:wc.frozen? ⟨vb,8,none⟩ = false:=blk_frozen 8 hVc;have g9:wc.frozen? ⟨vb,9,none⟩ = false:=blk_frozen 9 hVc;have g10:wc.frozen? ⟨vb,10,none⟩ = false:=blk_frozen 10 hVc;have g11:wc.frozen? ⟨vb,11,none⟩ = false:=blk_frozen 11 hVc;have g12:wc.frozen? ⟨vb,12,none⟩ = false:=blk_frozen 12 hVc;have g14:wc.frozen? ⟨vb,14,none⟩ = false:=blk_frozen 14 hVc;have yc:wc.cell? ⟨yb,bufA F p i,none⟩ = some (.int .u32 0):=yv_cell ((HY1.out.below hbc).cell hixl) HV.out;have yf:wc.frozen? ⟨yb,bufA F p i,none⟩ = false:=(HY1.out.below hbc).frozen _;have hZc:=(hbc.block w.heap.size hzl).trans HZ.out)))
  have hbw:Below W.heap.size W wc:=HB1.out.trans (hbc.mono HB1.out.size)
  have kc:=HROW.out wc hbw
  rw [HE0.out] at x1
  clear hbw
  refine wp_region_held_drew (S:=(fun W' => W'.cell? ⟨vb,1,none⟩ = some (.slice (some ⟨b,o,none⟩) c.chans.length x.cc) ∧ W'.cell? ⟨vb,6,none⟩ = some (.int .i64 (k:Int)) ∧ W'.cell? ⟨b,o + k * 7 + 3,none⟩ = some (.int .i64 (F.n:Int)))) (by kernel_rfl) (⟨x1,x6,kc⟩) (fun hHeld => ?_)
  refine wpAnyH_take (i:=0) rfl (by kernel_rfl) (by kernel_rfl) (by kernel_rfl) (fun _ _ _ h => h) (Or.inl ⟨by rfl,by intro w hSw;(have z0:=hSw.1;have z1:=hSw.2.1;have z2:=hSw.2.2;clear hSw);(go_simp <;> with_reducible rfl)⟩) (by assumption) ?_
  (try simp only [Act.put,List.setIfInBounds_toArray,List.set_cons_zero,List.set_cons_succ,List.getElem_toArray,List.getElem_cons_zero,List.getElem_cons_succ])
  refine wpAnyH_take (i:=1) rfl (by kernel_rfl) (by kernel_rfl) (by kernel_rfl) (fun _ _ _ h => h) (Or.inl ⟨by rfl,by intro w hSw;(have z0:=hSw.1;have z1:=hSw.2.1;have z2:=hSw.2.2;clear hSw);(go_simp <;> with_reducible rfl)⟩) (by assumption) ?_
  (try simp only [Act.put,List.setIfInBounds_toArray,List.set_cons_zero,List.set_cons_succ,List.getElem_toArray,List.getElem_cons_zero,List.getElem_cons_succ])
  refine wpAnyH_take (i:=2) rfl (by kernel_rfl) (by kernel_rfl) (by kernel_rfl) (fun _ _ _ h => h) (Or.inl ⟨by rfl,by intro w hSw;(have z0:=hSw.1;have z1:=hSw.2.1;have z2:=hSw.2.2;clear hSw);(go_simp <;> with_reducible rfl)⟩) (by assumption) ?_
  (try simp only [Act.put,List.setIfInBounds_toArray,List.set_cons_zero,List.set_cons_succ,List.getElem_toArray,List.getElem_cons_zero,List.getElem_cons_succ])
  refine wpAnyH_take (i:=3) rfl (by kernel_rfl) (by kernel_rfl) (by kernel_rfl) (fun _ _ _ h => h) (Or.inl ⟨by rfl,by intro w hSw;(have z0:=hSw.1;have z1:=hSw.2.1;have z2:=hSw.2.2;clear hSw);(go_simp <;> with_reducible rfl)⟩) (by assumption) ?_
  (try simp only [Act.put,List.setIfInBounds_toArray,List.set_cons_zero,List.set_cons_succ,List.getElem_toArray,List.getElem_cons_zero,List.getElem_cons_succ])
  refine wpAnyH_take (i:=4) rfl (by kernel_rfl) (by kernel_rfl) (by kernel_rfl) (fun _ _ _ h => h) (Or.inl ⟨by rfl,by intro w hSw;(have z0:=hSw.1;have z1:=hSw.2.1;have z2:=hSw.2.2;clear hSw);(go_simp <;> with_reducible rfl)⟩) (by assumption) ?_
  (try simp only [Act.put,List.setIfInBounds_toArray,List.set_cons_zero,List.set_cons_succ,List.getElem_toArray,List.getElem_cons_zero,List.getElem_cons_succ])
  refine wpAnyH_take (i:=5) rfl (by kernel_rfl) (by kernel_rfl) (by kernel_rfl) (fun _ _ _ h => h) (Or.inl ⟨by rfl,by intro w hSw;(have z0:=hSw.1;have z1:=hSw.2.1;have z2:=hSw.2.2;clear hSw);(go_simp <;> with_reducible rfl)⟩) (by assumption) ?_
  (try simp only [Act.put,List.setIfInBounds_toArray,List.set_cons_zero,List.set_cons_succ,List.getElem_toArray,List.getElem_cons_zero,List.getElem_cons_succ])
  refine wpAnyH_take (i:=6) rfl (by kernel_rfl) (by kernel_rfl) (by kernel_rfl) (fun _ _ _ h => h) (Or.inl ⟨by rfl,by intro w hSw;(have z0:=hSw.1;have z1:=hSw.2.1;have z2:=hSw.2.2;clear hSw);(go_simp <;> with_reducible rfl)⟩) (by assumption) ?_
  (try simp only [Act.put,List.setIfInBounds_toArray,List.set_cons_zero,List.set_cons_succ,List.getElem_toArray,List.getElem_cons_zero,List.getElem_cons_succ])
  refine wpAnyH_take (i:=7) rfl (by kernel_rfl) (by kernel_rfl) (by kernel_rfl) (fun _ _ _ h => h) (Or.inl ⟨by rfl,by intro w hSw;(have z0:=hSw.1;have z1:=hSw.2.1;have z2:=hSw.2.2;clear hSw);(go_simp <;> with_reducible rfl)⟩) (by assumption) ?_
  (try simp only [Act.put,List.setIfInBounds_toArray,List.set_cons_zero,List.set_cons_succ,List.getElem_toArray,List.getElem_cons_zero,List.getElem_cons_succ])
  refine wpAnyH_take (i:=8) rfl (by kernel_rfl) (by kernel_rfl) (by kernel_rfl) (fun _ _ _ h => h) (Or.inl ⟨by rfl,by intro w hSw;(have z0:=hSw.1;have z1:=hSw.2.1;have z2:=hSw.2.2;clear hSw);(go_simp <;> with_reducible rfl)⟩) (by assumption) ?_
  (try simp only [Act.put,List.setIfInBounds_toArray,List.set_cons_zero,List.set_cons_succ,List.getElem_toArray,List.getElem_cons_zero,List.getElem_cons_succ])
  refine wpAnyH_take (i:=9) rfl (by kernel_rfl) (by kernel_rfl) (by kernel_rfl) (fun _ _ _ h => h) (Or.inl ⟨by rfl,by intro w hSw;(have z0:=hSw.1;have z1:=hSw.2.1;have z2:=hSw.2.2;clear hSw);(go_simp <;> with_reducible rfl)⟩) (by assumption) ?_
  (try simp only [Act.put,List.setIfInBounds_toArray,List.set_cons_zero,List.set_cons_succ,List.getElem_toArray,List.getElem_cons_zero,List.getElem_cons_succ])
  refine wpAnyH_take (i:=10) rfl (by kernel_rfl) (by kernel_rfl) (by kernel_rfl) (fun _ _ _ h => h) (Or.inl ⟨by rfl,by intro w hSw;(have z0:=hSw.1;have z1:=hSw.2.1;have z2:=hSw.2.2;clear hSw);(go_simp <;> with_reducible rfl)⟩) (by assumption) ?_
  (try simp only [Act.put,List.setIfInBounds_toArray,List.set_cons_zero,List.set_cons_succ,List.getElem_toArray,List.getElem_cons_zero,List.getElem_cons_succ])
  refine wpAnyH_take (i:=11) rfl (by kernel_rfl) (by kernel_rfl) (by kernel_rfl) (fun _ _ _ h => h) (Or.inl ⟨by rfl,by intro w hSw;(have z0:=hSw.1;have z1:=hSw.2.1;have z2:=hSw.2.2;clear hSw);(go_simp <;> with_reducible rfl)⟩) (by assumption) ?_
  (try simp only [Act.put,List.setIfInBounds_toArray,List.set_cons_zero,List.set_cons_succ,List.getElem_toArray,List.getElem_cons_zero,List.getElem_cons_succ])
  refine wpAnyH_take (i:=12) rfl (by kernel_rfl) (by kernel_rfl) (by kernel_rfl) (fun _ _ _ h => h) (Or.inl ⟨by rfl,by intro w hSw;(have z0:=hSw.1;have z1:=hSw.2.1;have z2:=hSw.2.2;clear hSw);(go_simp <;> with_reducible rfl)⟩) (by assumption) ?_
  (try simp only [Act.put,List.setIfInBounds_toArray,List.set_cons_zero,List.set_cons_succ,List.getElem_toArray,List.getElem_cons_zero,List.getElem_cons_succ])
  refine wpAnyH_take (i:=13) rfl (by kernel_rfl) (by kernel_rfl) (by kernel_rfl) (fun _ _ _ h => h) (Or.inl ⟨by rfl,by intro w hSw;(have z0:=hSw.1;have z1:=hSw.2.1;have z2:=hSw.2.2;clear hSw);(go_simp <;> with_reducible rfl)⟩) (by assumption) ?_
  (try simp only [Act.put,List.setIfInBounds_toArray,List.set_cons_zero,List.set_cons_succ,List.getElem_toArray,List.getElem_cons_zero,List.getElem_cons_succ])
  refine wpAnyH_take (i:=14) rfl (by kernel_rfl) (by kernel_rfl) (by kernel_rfl) (fun _ _ _ h => h) (Or.inl ⟨by rfl,by intro w hSw;(have z0:=hSw.1;have z1:=hSw.2.1;have z2:=hSw.2.2;clear hSw);(go_simp <;> with_reducible rfl)⟩) (by assumption) ?_
  (try simp only [Act.put,List.setIfInBounds_toArray,List.set_cons_zero,List.set_cons_succ,List.getElem_toArray,List.getElem_cons_zero,List.getElem_cons_succ])
  refine wpAnyH_ready (rs:=[15]) (by kernel_rfl) (by simp) (AllReadyH.cons rfl (fun K hK => ?_) AllReadyH.nil)
  go_simp
  refine hK.out _ _ ((by exact ⟨cset (And.left hHeld) (.inr (by decide)),cset (And.left (And.right hHeld)) (.inr (by decide)),cset (And.right (And.right hHeld)) (.inl hbv)⟩)) (fun hHeld => ?_)
  clear hK K
  (try simp only [Act.put,List.setIfInBounds_toArray,List.set_cons_zero,List.set_cons_succ,List.getElem_toArray,List.getElem_cons_zero,List.getElem_cons_succ])
  refine wpAnyH_done (by kernel_rfl) ?_ _
  obtain ⟨X1,HX1⟩:∃ u,Hid (u = wc.setCell ⟨vb,12,none⟩ (.int .i64 (F.n:Int))):=⟨_,rfl⟩
  rw [← HX1.out]
  have HOW:=(HO.out.mono (T:=New w.heap.size fun j => j = vb ∨ j = yb) fun _ _ h => h.elim).trans ((Only.of_below (S:=New w.heap.size fun j => j = vb ∨ j = yb) hbc))
  have HOX1:Hid (Only (New w.heap.size fun j => j = vb ∨ j = yb) w X1):=Lib.hid (by rw [HX1.out];exact HOW.set (p:=⟨vb,12,none⟩) (.inr (.inl rfl)) _)
  have HVX1:Hid (X1.heap[vb]? = some (.cells (vV c x k (false) ((.slice A ds.length cap)) (4) (p) (i) ((F.n:Int)) (st) (mk)) 52 (0,0))):=Lib.hid (by rw [HX1.out];exact vset12 hVc (F.n:Int))
  have HYX1:=Lib.hid (show WordsAt X1 yb ws from by rw [HX1.out];exact (HY1.out.below hbc).of (Below.heap_setCell _ _ _ _ (by show yb ≠ vb;exact hny.symm)))
  have HZC:=(hbc.block w.heap.size (by have:=HZ.out;exact (Array.getElem?_eq_some_iff.1 this).1)).trans HZ.out

  have HZX1:Hid (X1.heap[w.heap.size]? = some (.cells #[.bool false,.int .i64 0,.slice none 0 0,.bool false,.int .i64 0,.bool false,.bool false,.bool false,.int .i64 0] 56 (0,0))):=Lib.hid (by rw [HX1.out];exact (Below.heap_setCell _ _ _ _ (by show w.heap.size ≠ vb;exact hzv)).trans HZC)
  have u12:X1.drew.cell? ⟨vb,12,none⟩ = some (.int .i64 (F.n:Int)):=cell_blk (W:=X1.drew) HVX1.out rfl
  have uf12:X1.drew.drew.frozen? ⟨vb,12,none⟩ = false:=blk_frozen (W:=X1.drew.drew) 12 HVX1.out
  have ub12:X1.drew.drew.cell? ⟨vb,12,none⟩ = some (.int .i64 (F.n:Int)):=cell_blk (W:=X1.drew.drew) HVX1.out rfl
  have uyb:X1.drew.drew.cell? ⟨yb,bufA F p i,none⟩ = some (.int .u32 0):=yv_cell (HYX1.out.cell hBl) HV.out
  have uy:X1.drew.cell? ⟨yb,bufA F p i,none⟩ = some (.int .u32 0):=yv_cell (HYX1.out.cell hBl) HV.out
  clear HZC HOW hVc hZc x1 x6 x8 x9 x10 x11 x12 x14 g1 g6 g8 g9 g10 g11 g12 g14 yc yf kc q0 q1 q2 q3 q4 q5 q6 q8 q9 q10 q11 q14
  go_wp2
  refine wp_region_held_drew (S:=(fun W' => W'.cell? ⟨vb,12,none⟩ = some (.int .i64 (F.n:Int)) ∧ W'.cell? ⟨yb,bufA F p i,none⟩ = some (.int .u32 0))) (by kernel_rfl) (⟨u12,uy⟩) (fun hHeld => ?_)
  refine wpAnyH_take (i:=0) rfl (by kernel_rfl) (by kernel_rfl) (by kernel_rfl) (fun _ _ _ h => h) (Or.inl ⟨by rfl,by intro w hSw;(have z0:=hSw.1;have z1:=hSw.2;clear hSw);(go_simp <;> with_reducible rfl)⟩) (by assumption) ?_
  (try simp only [Act.put,List.setIfInBounds_toArray,List.set_cons_zero,List.set_cons_succ,List.getElem_toArray,List.getElem_cons_zero,List.getElem_cons_succ])
  refine wpAnyH_take (i:=1) rfl (by kernel_rfl) (by kernel_rfl) (by kernel_rfl) (fun _ _ _ h => h) (Or.inl ⟨by rfl,by intro w hSw;(have z0:=hSw.1;have z1:=hSw.2;clear hSw);(go_simp <;> with_reducible rfl)⟩) (by assumption) ?_
  (try simp only [Act.put,List.setIfInBounds_toArray,List.set_cons_zero,List.set_cons_succ,List.getElem_toArray,List.getElem_cons_zero,List.getElem_cons_succ])
  refine wpAnyH_take (i:=2) rfl (by kernel_rfl) (by kernel_rfl) (by kernel_rfl) (fun _ _ _ h => h) (Or.inl ⟨by rfl,by intro w hSw;(have z0:=hSw.1;have z1:=hSw.2;clear hSw);(go_simp <;> with_reducible rfl)⟩) (by assumption) ?_
  (try simp only [Act.put,List.setIfInBounds_toArray,List.set_cons_zero,List.set_cons_succ,List.getElem_toArray,List.getElem_cons_zero,List.getElem_cons_succ])
  refine wpAnyH_take (i:=3) rfl (by kernel_rfl) (by kernel_rfl) (by kernel_rfl) (fun _ _ _ h => h) (Or.inl ⟨by rfl,by intro w hSw;(have z0:=hSw.1;have z1:=hSw.2;clear hSw);(go_simp <;> with_reducible rfl)⟩) (by assumption) ?_
  (try simp only [Act.put,List.setIfInBounds_toArray,List.set_cons_zero,List.set_cons_succ,List.getElem_toArray,List.getElem_cons_zero,List.getElem_cons_succ])
  refine wpAnyH_take (i:=4) rfl (by kernel_rfl) (by kernel_rfl) (by kernel_rfl) (fun _ _ _ h => h) (Or.inl ⟨by rfl,by intro w hSw;(have z0:=hSw.1;have z1:=hSw.2;clear hSw);(go_simp <;> with_reducible rfl)⟩) (by assumption) ?_
  (try simp only [Act.put,List.setIfInBounds_toArray,List.set_cons_zero,List.set_cons_succ,List.getElem_toArray,List.getElem_cons_zero,List.getElem_cons_succ])
  refine wpAnyH_take (i:=5) rfl (by kernel_rfl) (by kernel_rfl) (by kernel_rfl) (fun _ _ _ h => h) (Or.inl ⟨by rfl,by intro w hSw;(have z0:=hSw.1;have z1:=hSw.2;clear hSw);(go_simp <;> with_reducible rfl)⟩) (by assumption) ?_
  (try simp only [Act.put,List.setIfInBounds_toArray,List.set_cons_zero,List.set_cons_succ,List.getElem_toArray,List.getElem_cons_zero,List.getElem_cons_succ])
  refine wpAnyH_take (i:=6) rfl (by kernel_rfl) (by kernel_rfl) (by kernel_rfl) (fun _ _ _ h => h) (Or.inl ⟨by rfl,by intro w hSw;(have z0:=hSw.1;have z1:=hSw.2;clear hSw);(go_simp <;> with_reducible rfl)⟩) (by assumption) ?_
  (try simp only [Act.put,List.setIfInBounds_toArray,List.set_cons_zero,List.set_cons_succ,List.getElem_toArray,List.getElem_cons_zero,List.getElem_cons_succ])
  refine wpAnyH_take (i:=7) rfl (by kernel_rfl) (by kernel_rfl) (by kernel_rfl) (fun _ _ _ h => h) (Or.inl ⟨by rfl,by intro w hSw;(have z0:=hSw.1;have z1:=hSw.2;clear hSw);(go_simp <;> with_reducible rfl)⟩) (by assumption) ?_
  (try simp only [Act.put,List.setIfInBounds_toArray,List.set_cons_zero,List.set_cons_succ,List.getElem_toArray,List.getElem_cons_zero,List.getElem_cons_succ])
  refine wpAnyH_take (i:=8) rfl (by kernel_rfl) (by kernel_rfl) (by kernel_rfl) (fun _ _ _ h => h) (Or.inl ⟨by rfl,by intro w hSw;(have z0:=hSw.1;have z1:=hSw.2;clear hSw);(go_simp <;> with_reducible rfl)⟩) (by assumption) ?_
  (try simp only [Act.put,List.setIfInBounds_toArray,List.set_cons_zero,List.set_cons_succ,List.getElem_toArray,List.getElem_cons_zero,List.getElem_cons_succ])
  refine wpAnyH_take (i:=9) rfl (by kernel_rfl) (by kernel_rfl) (by kernel_rfl) (fun _ _ _ h => h) (Or.inl ⟨by rfl,by intro w hSw;(have z0:=hSw.1;have z1:=hSw.2;clear hSw);(go_simp <;> with_reducible rfl)⟩) (by assumption) ?_
  (try simp only [Act.put,List.setIfInBounds_toArray,List.set_cons_zero,List.set_cons_succ,List.getElem_toArray,List.getElem_cons_zero,List.getElem_cons_succ])
  refine wpAnyH_done (by kernel_rfl) ?_ _
  obtain ⟨X2,HX2⟩:∃ u,Hid (u = X1.setCell ⟨vb,12,none⟩ (.int .i64 0)):=⟨_,rfl⟩
  have HVX2:Hid (X2.heap[vb]? = some (.cells (vV c x k (false) ((.slice A ds.length cap)) (4) (p) (i) (0) (st) (mk)) 52 (0,0))):=Lib.hid (by rw [HX2.out];exact vset12 HVX1.out 0)
  have e12:X2.drew.drew.cell? ⟨vb,12,none⟩ = some (.int .i64 0):=cell_blk (W:=X2.drew.drew) HVX2.out rfl
  have h9:=blk_frozen (W:=X2.drew.drew) 9 HVX2.out
  have e9:X2.drew.drew.cell? ⟨vb,9,none⟩ = some (.int .i64 4):=cell_blk (W:=X2.drew.drew) HVX2.out rfl
  obtain ⟨X,HX⟩:∃ u,Hid (u = X2.setCell ⟨vb,9,none⟩ (.int .i64 (-1))):=⟨_,rfl⟩
  have HOX:Hid (Only (New w.heap.size fun j => j = vb ∨ j = yb) w X):=Lib.hid (by rw [HX.out,HX2.out];exact (HOX1.out.set (p:=⟨vb,12,none⟩) (.inr (.inl rfl)) _).set (p:=⟨vb,9,none⟩) (.inr (.inl rfl)) _)
  have HVX:Hid (X.heap[vb]? = some (.cells (vV c x k (false) ((.slice A ds.length cap)) (-1) (p) (i) (0) (st) (mk)) 52 (0,0))):=Lib.hid (by rw [HX.out];exact vset9 HVX2.out (-1))
  have HYX:=Lib.hid (show WordsAt X yb ws from by rw [HX.out,HX2.out];exact (HYX1.out.of (Below.heap_setCell _ _ _ _ (by show yb ≠ vb;exact hny.symm))).of (Below.heap_setCell _ _ _ _ (by show yb ≠ vb;exact hny.symm)))
  have HZX:Hid (X.heap[w.heap.size]? = some (.cells #[.bool false,.int .i64 0,.slice none 0 0,.bool false,.int .i64 0,.bool false,.bool false,.bool false,.int .i64 0] 56 (0,0))):=Lib.hid (by rw [HX.out,HX2.out];exact (Below.heap_setCell _ _ _ _ (by show w.heap.size ≠ vb;exact hzv)).trans ((Below.heap_setCell _ _ _ _ (by show w.heap.size ≠ vb;exact hzv)).trans HZX1.out))

  go_wp2_with (first | (rw [← HX2.out]) | (rw [← HX.out]))
  have e10:X.cell? ⟨vb,10,none⟩ = some (.int .i64 (p:Int)):=cell_blk HVX.out rfl
  have e11:X.cell? ⟨vb,11,none⟩ = some (.int .i64 (i:Int)):=cell_blk HVX.out rfl
  have hth:=there_at (W:=X) HZX.out (n:=(didV true 1 (.slice none 0 0) false (false) false (1 + 2 * (p:Int) + i):Array Value).size) rfl
  obtain ⟨i1,i2⟩:=hpi
  refine wp_region_held_drew (S:=(fun W' => W'.cell? ⟨vb,10,none⟩ = some (.int .i64 (p:Int)) ∧ W'.cell? ⟨vb,11,none⟩ = some (.int .i64 (i:Int)))) (by kernel_rfl) (⟨e10,e11⟩) (fun hHeld => ?_)
  refine wpAnyH_take (i:=0) rfl (by kernel_rfl) (by kernel_rfl) (by kernel_rfl) (fun _ _ _ h => h) (Or.inl ⟨by rfl,by intro w hSw;(have z0:=hSw.1;have z1:=hSw.2;clear hSw);(go_simp <;> with_reducible rfl)⟩) (by assumption) ?_
  (try simp only [Act.put,List.setIfInBounds_toArray,List.set_cons_zero,List.set_cons_succ,List.getElem_toArray,List.getElem_cons_zero,List.getElem_cons_succ])
  refine wpAnyH_take (i:=1) rfl (by kernel_rfl) (by kernel_rfl) (by kernel_rfl) (fun _ _ _ h => h) (Or.inl ⟨by rfl,by intro w hSw;(have z0:=hSw.1;have z1:=hSw.2;clear hSw);(go_simp <;> with_reducible rfl)⟩) (by assumption) ?_
  (try simp only [Act.put,List.setIfInBounds_toArray,List.set_cons_zero,List.set_cons_succ,List.getElem_toArray,List.getElem_cons_zero,List.getElem_cons_succ])
  refine wpAnyH_take (i:=2) rfl (by kernel_rfl) (by kernel_rfl) (by kernel_rfl) (fun _ _ _ h => h) (Or.inl ⟨by rfl,by intro w hSw;(have z0:=hSw.1;have z1:=hSw.2;clear hSw);(go_simp <;> with_reducible rfl)⟩) (by assumption) ?_
  (try simp only [Act.put,List.setIfInBounds_toArray,List.set_cons_zero,List.set_cons_succ,List.getElem_toArray,List.getElem_cons_zero,List.getElem_cons_succ])
  refine wpAnyH_take (i:=3) rfl (by kernel_rfl) (by kernel_rfl) (by kernel_rfl) (fun _ _ _ h => h) (Or.inl ⟨by rfl,by intro w hSw;(have z0:=hSw.1;have z1:=hSw.2;clear hSw);(go_simp <;> with_reducible rfl)⟩) (by assumption) ?_
  (try simp only [Act.put,List.setIfInBounds_toArray,List.set_cons_zero,List.set_cons_succ,List.getElem_toArray,List.getElem_cons_zero,List.getElem_cons_succ])
  refine wpAnyH_take (i:=4) rfl (by kernel_rfl) (by kernel_rfl) (by kernel_rfl) (fun _ _ _ h => h) (Or.inl ⟨by rfl,by intro w hSw;(have z0:=hSw.1;have z1:=hSw.2;clear hSw);(go_simp <;> with_reducible rfl)⟩) (by assumption) ?_
  (try simp only [Act.put,List.setIfInBounds_toArray,List.set_cons_zero,List.set_cons_succ,List.getElem_toArray,List.getElem_cons_zero,List.getElem_cons_succ])
  refine wpAnyH_take (i:=5) rfl (by kernel_rfl) (by kernel_rfl) (by kernel_rfl) (fun _ _ _ h => h) (Or.inl ⟨by rfl,by intro w hSw;(have z0:=hSw.1;have z1:=hSw.2;clear hSw);(go_simp <;> with_reducible rfl)⟩) (by assumption) ?_
  (try simp only [Act.put,List.setIfInBounds_toArray,List.set_cons_zero,List.set_cons_succ,List.getElem_toArray,List.getElem_cons_zero,List.getElem_cons_succ])
  refine wpAnyH_take (i:=6) rfl (by kernel_rfl) (by kernel_rfl) (by kernel_rfl) (fun _ _ _ h => h) (Or.inl ⟨by rfl,by intro w hSw;(have z0:=hSw.1;have z1:=hSw.2;clear hSw);(go_simp <;> with_reducible rfl)⟩) (by assumption) ?_
  (try simp only [Act.put,List.setIfInBounds_toArray,List.set_cons_zero,List.set_cons_succ,List.getElem_toArray,List.getElem_cons_zero,List.getElem_cons_succ])
  refine wpAnyH_take (i:=7) rfl (by kernel_rfl) (by kernel_rfl) (by kernel_rfl) (fun _ _ _ h => h) (Or.inl ⟨by rfl,by intro w hSw;(have z0:=hSw.1;have z1:=hSw.2;clear hSw);(go_simp <;> with_reducible rfl)⟩) (by assumption) ?_
  (try simp only [Act.put,List.setIfInBounds_toArray,List.set_cons_zero,List.set_cons_succ,List.getElem_toArray,List.getElem_cons_zero,List.getElem_cons_succ])
  refine wpAnyH_take (i:=8) rfl (by kernel_rfl) (by kernel_rfl) (by kernel_rfl) (fun _ _ _ h => h) (Or.inl ⟨by rfl,by intro w hSw;(have z0:=hSw.1;have z1:=hSw.2;clear hSw);(go_simp <;> with_reducible rfl)⟩) (by assumption) ?_
  (try simp only [Act.put,List.setIfInBounds_toArray,List.set_cons_zero,List.set_cons_succ,List.getElem_toArray,List.getElem_cons_zero,List.getElem_cons_succ])
  refine wpAnyH_take (i:=9) rfl (by kernel_rfl) (by kernel_rfl) (by kernel_rfl) (fun _ _ _ h => h) (Or.inl ⟨by rfl,by intro w hSw;(have z0:=hSw.1;have z1:=hSw.2;clear hSw);(go_simp <;> with_reducible rfl)⟩) (by assumption) ?_
  (try simp only [Act.put,List.setIfInBounds_toArray,List.set_cons_zero,List.set_cons_succ,List.getElem_toArray,List.getElem_cons_zero,List.getElem_cons_succ])
  refine wpAnyH_take (i:=10) rfl (by kernel_rfl) (by kernel_rfl) (by kernel_rfl) (fun _ _ _ h => h) (Or.inl ⟨by rfl,by intro w hSw;(have z0:=hSw.1;have z1:=hSw.2;clear hSw);(go_simp <;> with_reducible rfl)⟩) (by assumption) ?_
  (try simp only [Act.put,List.setIfInBounds_toArray,List.set_cons_zero,List.set_cons_succ,List.getElem_toArray,List.getElem_cons_zero,List.getElem_cons_succ])
  refine wpAnyH_take (i:=11) rfl (by kernel_rfl) (by kernel_rfl) (by kernel_rfl) (fun _ _ _ h => h) (Or.inl ⟨by rfl,by intro w hSw;(have z0:=hSw.1;have z1:=hSw.2;clear hSw);(go_simp <;> with_reducible rfl)⟩) (by assumption) ?_
  (try simp only [Act.put,List.setIfInBounds_toArray,List.set_cons_zero,List.set_cons_succ,List.getElem_toArray,List.getElem_cons_zero,List.getElem_cons_succ])
  refine wpAnyH_take (i:=12) rfl (by kernel_rfl) (by kernel_rfl) (by kernel_rfl) (fun _ _ _ h => h) (Or.inl ⟨by rfl,by intro w hSw;(have z0:=hSw.1;have z1:=hSw.2;clear hSw);(go_simp <;> with_reducible rfl)⟩) (by assumption) ?_
  (try simp only [Act.put,List.setIfInBounds_toArray,List.set_cons_zero,List.set_cons_succ,List.getElem_toArray,List.getElem_cons_zero,List.getElem_cons_succ])
  refine wpAnyH_ready (rs:=[13]) (by kernel_rfl) (by simp) (AllReadyH.cons rfl (fun K hK => ?_) AllReadyH.nil)
  rw [if_pos (by rfl)]
  refine wp_store_mid _ _ _ rfl w.heap.size 0 (didV true 1 (.slice none 0 0) false (false) false (1 + 2 * (p:Int) + i)) rfl rfl hth hsd (by kernel_rfl) ?_
  refine hK.out _ _ (keep_box2 hHeld (by have:=hvl;show w.heap.size ≠ vb;omega)) (fun hHeld => ?_)
  clear hK K
  (try simp only [Act.put,List.setIfInBounds_toArray,List.set_cons_zero,List.set_cons_succ,List.getElem_toArray,List.getElem_cons_zero,List.getElem_cons_succ])
  refine wpAnyH_done (by kernel_rfl) ?_ _
  go_wp2
  have hrg:=World.rangeAt_setCells_same X.drew.drew.drew w.heap.size 0 [.bool true,.int .i64 1,.slice none 0 0,.bool false,.int .i64 0,.bool (false),.bool false,.bool false,.int .i64 (1 + 2 * (p:Int) + i)] (there_at (cs:=#[.bool false,.int .i64 0,.slice none 0 0,.bool false,.int .i64 0,.bool false,.bool false,.bool false,.int .i64 0]) (n:=9) (show (X.drew.drew.drew).heap[w.heap.size]? = _ from HZX.out) rfl)
  (try simp only [Exit.inBlock,Exit.then])
  refine bodyPost_ret (results_cell_row rfl _ _ w.heap.size [.bool true,.int .i64 1,.slice none 0 0,.bool false,.int .i64 0,.bool (false),.bool false,.bool false,.int .i64 (1 + 2 * (p:Int) + i)] _ rfl hrg Tryz.underlying56 rfl did_size) rfl ?_
  obtain ⟨v1,v2⟩:=HH.out.fin (X:=X.drew.drew.drew) HVX.out HYX.out HOX.out.drew.drew.drew rfl HH.out.w32 [.bool true,.int .i64 1,.slice none 0 0,.bool false,.int .i64 0,.bool (false),.bool false,.bool false,.int .i64 (1 + 2 * (p:Int) + i)]
  exact ⟨rfl,v1,v2⟩
theorem dread4c_b (W w:World) (vb yb:Nat) (c:Cfg) (x:CfgAt) (k:Nat) (F:Fr) (ws:List Int) (A:Option Addr) (ds:List Int) (cap:Nat) (p i:Nat) (len st:Int) (mk:Bool) (now:Int) (h:VAt W w vb yb c x k F ws false (.slice A ds.length cap) 4 p i len st mk) (hpi:p ≤ 1 ∧ i ≤ 1) (hr:¬ ws.getD (bufA F p i) 0 ≤ (F.n:Int)):Calls Tryz.prog 39 #[.pointer (some ⟨vb,0,none⟩),.slice (some ⟨yb,0,none⟩) ws.length ws.length,.int .i64 now] w (VGives W w vb yb c x k F (ws) false (.slice A ds.length cap) (4) (p) (i) (F.n:Int) st (mk) (didV false 0 (.slice none 0 0) false (false) false (1 + 2 * (p:Int) + i))):=by
  have hbin:=h.len.buf hpi.1 hpi.2
  have hmx:=h.len.max
  have hn2:=h.len.n2
  have hn1:=h.len.n1
  have h32s:=h.w32 (bufA F p i)
  unfold rd at h32s
  have hBl:bufA F p i < ws.length:=by omega
  obtain ⟨v,hv⟩:∃ u,ws.getD (bufA F p i) 0 = u:=⟨_,rfl⟩
  rw [hv] at h32s hr
  have n1:decide (v ≤ (F.n:Int)) = false:=decide_eq_false hr
  have n2:((F.n:Int) == 0) = false:=beq_false_of_ne (by omega)
  have n3:decide ((F.n:Int) = 0) = false:=decide_eq_false (by omega)
  have HV:=Lib.hid hv
  clear hv
  obtain ⟨b,o,y0,y1,y2,y3,y4,y5,y6,e0,hlt,e1,hwf,hrow⟩:=h.cfg.rc.at7 h.wf.wc h.fr.lk
  have ew:=h.fr.words
  rw [row_at e1] at ew
  have ew:y3 = (F.n:Int):=ew
  subst ew
  have hnw:IntKind.u32.wrap (F.n:Int) = (F.n:Int):=IntWalk.u32_in _ (by omega)
  have hk1:(k:Int) < (c.chans.length:Int):=by have:=h.fr.lk;omega
  have HROW:=Lib.hid (fun w' hb => (hrow w' hb).2.2.2.1)
  have HE0:=Lib.hid e0
  have hbv:vb ≠ b:=fun e => by have:=h.ne.2.1;omega
  have hbf:IntKind.i64.wrap (IntKind.i64.wrap (1 + IntKind.i64.wrap (2 * (p:Int))) + (i:Int)) = 1 + 2 * (p:Int) + i:=by rw [IntWalk.i64_in (2 * (p:Int)) (by omega),IntWalk.i64_in (1 + 2 * (p:Int)) (by omega)];exact IntWalk.i64_in _ (by omega)
  clear e0 e1 hwf hrow hr
  have hsd:(Tryz.prog.info? 56).map (·.size) = some (didV false 0 (.slice none 0 0) false (false) false (1 + 2 * (p:Int) + i):Array Value).size:=did_size
  have hzy:w.heap.size ≠ yb:=fun e => by have:=h.row.lt;omega
  have hzv:w.heap.size ≠ vb:=fun e => by have:=(Array.getElem?_eq_some_iff.1 h.blk).1;omega
  have hny:vb ≠ yb:=h.ne.1
  obtain ⟨W1,HW1,hsz,hO,hz⟩:=did_new w
  have hvl:vb < w.heap.size:=(Array.getElem?_eq_some_iff.1 h.blk).1
  have hyl:=h.row.lt
  have hV1:=hO.at_ h.blk (fun h => h)
  have hY1:=h.row.of (hO.block yb hyl (fun h => h))
  have hB1:Below W.heap.size W W1:=h.below.trans ⟨hO.os,hO.tape,hO.output,hO.size,fun j hj => hO.block j (by have:=h.below.size;omega) (fun h => h)⟩
  have hcW:CfgIn W1 W1.heap.size c x:=h.cfg.later hB1
  have HSRC:Hid (∀ d os,Calls Tryz.prog 55 #[.agg #[.slice x.pa c.parts.length x.pc,.slice x.ca c.chans.length x.cc,.int .i64 c.len0,.slice x.aa c.win0.length x.ac,.int .i64 c.len1,.slice x.ba c.win1.length x.bc],.int .i64 (k:Int)] (grow (redrawn W1 d) os) (fun e w'' => e = .returned (.agg #[.int .i64 (F.src:Int),.int .i64 (srcSpan c k).2]) ∧ ∃ p:Regrown,w'' = grow (redrawn W1 p.d) p.os)):=Lib.hid (fun d os => by
    have q:=rsource_b c x k (grow (redrawn W1 d) os) (hcW.later (below_regrown W1 d os)) h.wf h.few
    rw [h.fr.src] at q
    exact Calls.regrown_of q)
  have HBUF:Hid (∀ d os,Calls Tryz.prog 70 #[.agg #[.slice x.pa c.parts.length x.pc,.slice x.ca c.chans.length x.cc,.int .i64 c.len0,.slice x.aa c.win0.length x.ac,.int .i64 c.len1,.slice x.ba c.win1.length x.bc],.int .i64 (k:Int),.int .i64 (p:Int),.int .i64 (i:Int)] (grow (redrawn W1 d) os) (fun e w'' => e = .returned (.agg #[.int .i64 ((bufA F p i:Nat):Int),.int .i64 (bufSpan c k p i).2]) ∧ ∃ p:Regrown,w'' = grow (redrawn W1 p.d) p.os)):=Lib.hid (fun d os => by
    have q:=rbuffer_b c x k p i (grow (redrawn W1 d) os) (hcW.later (below_regrown W1 d os)) h.wf h.few
    rw [h.fr.buf p i hpi.1 hpi.2] at q
    exact Calls.regrown_of q)
  have hfs:=run_span0
  have q0:∀ rg:Regrown,(grow (redrawn W1 rg.d) rg.os).cell? ⟨vb,0,none⟩ = some (.slice x.pa c.parts.length x.pc):=fun rg => cell_regrown (cell_blk hV1 rfl) rg.d rg.os
  have q1:∀ rg:Regrown,(grow (redrawn W1 rg.d) rg.os).cell? ⟨vb,1,none⟩ = some (.slice x.ca c.chans.length x.cc):=fun rg => cell_regrown (cell_blk hV1 rfl) rg.d rg.os
  have q2:∀ rg:Regrown,(grow (redrawn W1 rg.d) rg.os).cell? ⟨vb,2,none⟩ = some (.int .i64 c.len0):=fun rg => cell_regrown (cell_blk hV1 rfl) rg.d rg.os
  have q3:∀ rg:Regrown,(grow (redrawn W1 rg.d) rg.os).cell? ⟨vb,3,none⟩ = some (.slice x.aa c.win0.length x.ac):=fun rg => cell_regrown (cell_blk hV1 rfl) rg.d rg.os
  have q4:∀ rg:Regrown,(grow (redrawn W1 rg.d) rg.os).cell? ⟨vb,4,none⟩ = some (.int .i64 c.len1):=fun rg => cell_regrown (cell_blk hV1 rfl) rg.d rg.os
  have q5:∀ rg:Regrown,(grow (redrawn W1 rg.d) rg.os).cell? ⟨vb,5,none⟩ = some (.slice x.ba c.win1.length x.bc):=fun rg => cell_regrown (cell_blk hV1 rfl) rg.d rg.os
  have q6:∀ rg:Regrown,(grow (redrawn W1 rg.d) rg.os).cell? ⟨vb,6,none⟩ = some (.int .i64 (k:Int)):=fun rg => cell_regrown (cell_blk hV1 rfl) rg.d rg.os
  have q8:∀ rg:Regrown,(grow (redrawn W1 rg.d) rg.os).cell? ⟨vb,8,none⟩ = some ((.slice A ds.length cap)):=fun rg => cell_regrown (cell_blk hV1 rfl) rg.d rg.os
  have q9:∀ rg:Regrown,(grow (redrawn W1 rg.d) rg.os).cell? ⟨vb,9,none⟩ = some (.int .i64 4):=fun rg => cell_regrown (cell_blk hV1 rfl) rg.d rg.os
  have q10:∀ rg:Regrown,(grow (redrawn W1 rg.d) rg.os).cell? ⟨vb,10,none⟩ = some (.int .i64 (p:Int)):=fun rg => cell_regrown (cell_blk hV1 rfl) rg.d rg.os
  have q11:∀ rg:Regrown,(grow (redrawn W1 rg.d) rg.os).cell? ⟨vb,11,none⟩ = some (.int .i64 (i:Int)):=fun rg => cell_regrown (cell_blk hV1 rfl) rg.d rg.os
  have q14:∀ rg:Regrown,(grow (redrawn W1 rg.d) rg.os).cell? ⟨vb,14,none⟩ = some (.bool mk):=fun rg => cell_regrown (cell_blk hV1 rfl) rg.d rg.os
  have hixl:bufA F p i < ws.length:=by omega
  have hbc:=Below.refl W1.heap.size W1
  have hzl:w.heap.size < W1.heap.size:=(Array.getElem?_eq_some_iff.1 hz).1
  have HV1:=Lib.hid hV1;have HY1:=Lib.hid hY1;have HO:=Lib.hid hO;have HZ:=Lib.hid hz;have HH:=Lib.hid h;have HB1:=Lib.hid hB1
  clear hV1 hY1 hO hz hB1 hcW
  go_enter Tryz.func39,Tryz.ntmps39
  go_wp2_with (first | (rw [← HW1.out]) | (((first | with_reducible refine wpList_on hbc ?_ | with_reducible refine wp_on hbc (by kernel_rfl) (by kernel_rfl) ?_);(repeat (first | (go_big_quiet_want;(refine quiet_eqlT 117 _ _ _ rfl _ _ rfl rfl (eqS _ _ _ _ true (by simp)) (by kernel_rfl) ?_);go_big_quiet_on;(try simp only [Act.put,List.setIfInBounds_toArray,List.set_cons_zero,List.set_cons_succ])) | go_big_quiet_step (first | with_reducible exact HSRC.out _ _ | with_reducible exact HBUF.out _ _)));with_reducible refine wpQuiet_nil ?_;intro wc hbc;(try clear x1 x6 x8 x9 x10 x11 x12 x14 g1 g6 g8 g9 g10 g11 g12 g14 yc yf hVc hZc);have hVc:=(hbc.block vb (Array.getElem?_eq_some_iff.1 HV1.out).1).trans HV1.out;have x1:wc.cell? ⟨vb,1,none⟩ = some (.slice x.ca c.chans.length x.cc):=cell_blk hVc rfl;have x6:wc.cell? ⟨vb,6,none⟩ = some (.int .i64 (k:Int)):=cell_blk hVc rfl;have x8:wc.cell? ⟨vb,8,none⟩ = some ((.slice A ds.length cap)):=cell_blk hVc rfl;have x9:wc.cell? ⟨vb,9,none⟩ = some (.int .i64 4):=cell_blk hVc rfl;have x10:wc.cell? ⟨vb,10,none⟩ = some (.int .i64 (p:Int)):=cell_blk hVc rfl;have x11:wc.cell? ⟨vb,11,none⟩ = some (.int .i64 (i:Int)):=cell_blk hVc rfl;have x12:wc.cell? ⟨vb,12,none⟩ = some (.int .i64 len):=cell_blk hVc rfl;have x14:wc.cell? ⟨vb,14,none⟩ = some (.bool mk):=cell_blk hVc rfl;have g1:wc.frozen? ⟨vb,1,none⟩ = false:=blk_frozen 1 hVc;have g6:wc.frozen? ⟨vb,6,none⟩ = false:=blk_frozen 6 hVc;have g8:wc.frozen? ⟨vb,8,none⟩ = false:=blk_frozen 8 hVc;have g9:wc.frozen? ⟨vb,9,none⟩ = false:=blk_frozen 9 hVc;have g10:wc.frozen? ⟨vb,10,none⟩ = false:=blk_frozen 10 hVc;have g11:wc.frozen? ⟨vb,11,none⟩ = false:=blk_frozen 11 hVc;have g12:wc.frozen? ⟨vb,12,none⟩ = false:=blk_frozen 12 hVc;have g14:wc.frozen? ⟨vb,14,none⟩ = false:=blk_frozen 14 hVc;have yc:wc.cell? ⟨yb,bufA F p i,none⟩ = some (.int .u32 v):=yv_cell ((HY1.out.below hbc).cell hixl) HV.out;have yf:wc.frozen? ⟨yb,bufA F p i,none⟩ = false:=(HY1.out.below hbc).frozen _;have hZc:=(hbc.block w.heap.size hzl).trans HZ.out)))
  have hbw:Below W.heap.size W wc:=HB1.out.trans (hbc.mono HB1.out.size)
  have kc:=HROW.out wc hbw
  rw [HE0.out] at x1
  clear hbw
  refine wp_region_held_drew (S:=(fun W' => W'.cell? ⟨vb,1,none⟩ = some (.slice (some ⟨b,o,none⟩) c.chans.length x.cc) ∧ W'.cell? ⟨vb,6,none⟩ = some (.int .i64 (k:Int)) ∧ W'.cell? ⟨b,o + k * 7 + 3,none⟩ = some (.int .i64 (F.n:Int)))) (by kernel_rfl) (⟨x1,x6,kc⟩) (fun hHeld => ?_)
  refine wpAnyH_take (i:=0) rfl (by kernel_rfl) (by kernel_rfl) (by kernel_rfl) (fun _ _ _ h => h) (Or.inl ⟨by rfl,by intro w hSw;(have z0:=hSw.1;have z1:=hSw.2.1;have z2:=hSw.2.2;clear hSw);(go_simp <;> with_reducible rfl)⟩) (by assumption) ?_
  (try simp only [Act.put,List.setIfInBounds_toArray,List.set_cons_zero,List.set_cons_succ,List.getElem_toArray,List.getElem_cons_zero,List.getElem_cons_succ])
  refine wpAnyH_take (i:=1) rfl (by kernel_rfl) (by kernel_rfl) (by kernel_rfl) (fun _ _ _ h => h) (Or.inl ⟨by rfl,by intro w hSw;(have z0:=hSw.1;have z1:=hSw.2.1;have z2:=hSw.2.2;clear hSw);(go_simp <;> with_reducible rfl)⟩) (by assumption) ?_
  (try simp only [Act.put,List.setIfInBounds_toArray,List.set_cons_zero,List.set_cons_succ,List.getElem_toArray,List.getElem_cons_zero,List.getElem_cons_succ])
  refine wpAnyH_take (i:=2) rfl (by kernel_rfl) (by kernel_rfl) (by kernel_rfl) (fun _ _ _ h => h) (Or.inl ⟨by rfl,by intro w hSw;(have z0:=hSw.1;have z1:=hSw.2.1;have z2:=hSw.2.2;clear hSw);(go_simp <;> with_reducible rfl)⟩) (by assumption) ?_
  (try simp only [Act.put,List.setIfInBounds_toArray,List.set_cons_zero,List.set_cons_succ,List.getElem_toArray,List.getElem_cons_zero,List.getElem_cons_succ])
  refine wpAnyH_take (i:=3) rfl (by kernel_rfl) (by kernel_rfl) (by kernel_rfl) (fun _ _ _ h => h) (Or.inl ⟨by rfl,by intro w hSw;(have z0:=hSw.1;have z1:=hSw.2.1;have z2:=hSw.2.2;clear hSw);(go_simp <;> with_reducible rfl)⟩) (by assumption) ?_
  (try simp only [Act.put,List.setIfInBounds_toArray,List.set_cons_zero,List.set_cons_succ,List.getElem_toArray,List.getElem_cons_zero,List.getElem_cons_succ])
  refine wpAnyH_take (i:=4) rfl (by kernel_rfl) (by kernel_rfl) (by kernel_rfl) (fun _ _ _ h => h) (Or.inl ⟨by rfl,by intro w hSw;(have z0:=hSw.1;have z1:=hSw.2.1;have z2:=hSw.2.2;clear hSw);(go_simp <;> with_reducible rfl)⟩) (by assumption) ?_
  (try simp only [Act.put,List.setIfInBounds_toArray,List.set_cons_zero,List.set_cons_succ,List.getElem_toArray,List.getElem_cons_zero,List.getElem_cons_succ])
  refine wpAnyH_take (i:=5) rfl (by kernel_rfl) (by kernel_rfl) (by kernel_rfl) (fun _ _ _ h => h) (Or.inl ⟨by rfl,by intro w hSw;(have z0:=hSw.1;have z1:=hSw.2.1;have z2:=hSw.2.2;clear hSw);(go_simp <;> with_reducible rfl)⟩) (by assumption) ?_
  (try simp only [Act.put,List.setIfInBounds_toArray,List.set_cons_zero,List.set_cons_succ,List.getElem_toArray,List.getElem_cons_zero,List.getElem_cons_succ])
  refine wpAnyH_take (i:=6) rfl (by kernel_rfl) (by kernel_rfl) (by kernel_rfl) (fun _ _ _ h => h) (Or.inl ⟨by rfl,by intro w hSw;(have z0:=hSw.1;have z1:=hSw.2.1;have z2:=hSw.2.2;clear hSw);(go_simp <;> with_reducible rfl)⟩) (by assumption) ?_
  (try simp only [Act.put,List.setIfInBounds_toArray,List.set_cons_zero,List.set_cons_succ,List.getElem_toArray,List.getElem_cons_zero,List.getElem_cons_succ])
  refine wpAnyH_take (i:=7) rfl (by kernel_rfl) (by kernel_rfl) (by kernel_rfl) (fun _ _ _ h => h) (Or.inl ⟨by rfl,by intro w hSw;(have z0:=hSw.1;have z1:=hSw.2.1;have z2:=hSw.2.2;clear hSw);(go_simp <;> with_reducible rfl)⟩) (by assumption) ?_
  (try simp only [Act.put,List.setIfInBounds_toArray,List.set_cons_zero,List.set_cons_succ,List.getElem_toArray,List.getElem_cons_zero,List.getElem_cons_succ])
  refine wpAnyH_take (i:=8) rfl (by kernel_rfl) (by kernel_rfl) (by kernel_rfl) (fun _ _ _ h => h) (Or.inl ⟨by rfl,by intro w hSw;(have z0:=hSw.1;have z1:=hSw.2.1;have z2:=hSw.2.2;clear hSw);(go_simp <;> with_reducible rfl)⟩) (by assumption) ?_
  (try simp only [Act.put,List.setIfInBounds_toArray,List.set_cons_zero,List.set_cons_succ,List.getElem_toArray,List.getElem_cons_zero,List.getElem_cons_succ])
  refine wpAnyH_take (i:=9) rfl (by kernel_rfl) (by kernel_rfl) (by kernel_rfl) (fun _ _ _ h => h) (Or.inl ⟨by rfl,by intro w hSw;(have z0:=hSw.1;have z1:=hSw.2.1;have z2:=hSw.2.2;clear hSw);(go_simp <;> with_reducible rfl)⟩) (by assumption) ?_
  (try simp only [Act.put,List.setIfInBounds_toArray,List.set_cons_zero,List.set_cons_succ,List.getElem_toArray,List.getElem_cons_zero,List.getElem_cons_succ])
  refine wpAnyH_take (i:=10) rfl (by kernel_rfl) (by kernel_rfl) (by kernel_rfl) (fun _ _ _ h => h) (Or.inl ⟨by rfl,by intro w hSw;(have z0:=hSw.1;have z1:=hSw.2.1;have z2:=hSw.2.2;clear hSw);(go_simp <;> with_reducible rfl)⟩) (by assumption) ?_
  (try simp only [Act.put,List.setIfInBounds_toArray,List.set_cons_zero,List.set_cons_succ,List.getElem_toArray,List.getElem_cons_zero,List.getElem_cons_succ])
  refine wpAnyH_take (i:=11) rfl (by kernel_rfl) (by kernel_rfl) (by kernel_rfl) (fun _ _ _ h => h) (Or.inl ⟨by rfl,by intro w hSw;(have z0:=hSw.1;have z1:=hSw.2.1;have z2:=hSw.2.2;clear hSw);(go_simp <;> with_reducible rfl)⟩) (by assumption) ?_
  (try simp only [Act.put,List.setIfInBounds_toArray,List.set_cons_zero,List.set_cons_succ,List.getElem_toArray,List.getElem_cons_zero,List.getElem_cons_succ])
  refine wpAnyH_take (i:=12) rfl (by kernel_rfl) (by kernel_rfl) (by kernel_rfl) (fun _ _ _ h => h) (Or.inl ⟨by rfl,by intro w hSw;(have z0:=hSw.1;have z1:=hSw.2.1;have z2:=hSw.2.2;clear hSw);(go_simp <;> with_reducible rfl)⟩) (by assumption) ?_
  (try simp only [Act.put,List.setIfInBounds_toArray,List.set_cons_zero,List.set_cons_succ,List.getElem_toArray,List.getElem_cons_zero,List.getElem_cons_succ])
  refine wpAnyH_take (i:=13) rfl (by kernel_rfl) (by kernel_rfl) (by kernel_rfl) (fun _ _ _ h => h) (Or.inl ⟨by rfl,by intro w hSw;(have z0:=hSw.1;have z1:=hSw.2.1;have z2:=hSw.2.2;clear hSw);(go_simp <;> with_reducible rfl)⟩) (by assumption) ?_
  (try simp only [Act.put,List.setIfInBounds_toArray,List.set_cons_zero,List.set_cons_succ,List.getElem_toArray,List.getElem_cons_zero,List.getElem_cons_succ])
  refine wpAnyH_take (i:=14) rfl (by kernel_rfl) (by kernel_rfl) (by kernel_rfl) (fun _ _ _ h => h) (Or.inl ⟨by rfl,by intro w hSw;(have z0:=hSw.1;have z1:=hSw.2.1;have z2:=hSw.2.2;clear hSw);(go_simp <;> with_reducible rfl)⟩) (by assumption) ?_
  (try simp only [Act.put,List.setIfInBounds_toArray,List.set_cons_zero,List.set_cons_succ,List.getElem_toArray,List.getElem_cons_zero,List.getElem_cons_succ])
  refine wpAnyH_ready (rs:=[15]) (by kernel_rfl) (by simp) (AllReadyH.cons rfl (fun K hK => ?_) AllReadyH.nil)
  go_simp
  refine hK.out _ _ ((by exact ⟨cset (And.left hHeld) (.inr (by decide)),cset (And.left (And.right hHeld)) (.inr (by decide)),cset (And.right (And.right hHeld)) (.inl hbv)⟩)) (fun hHeld => ?_)
  clear hK K
  (try simp only [Act.put,List.setIfInBounds_toArray,List.set_cons_zero,List.set_cons_succ,List.getElem_toArray,List.getElem_cons_zero,List.getElem_cons_succ])
  refine wpAnyH_done (by kernel_rfl) ?_ _
  obtain ⟨X1,HX1⟩:∃ u,Hid (u = wc.setCell ⟨vb,12,none⟩ (.int .i64 (F.n:Int))):=⟨_,rfl⟩
  rw [← HX1.out]
  have HOW:=(HO.out.mono (T:=New w.heap.size fun j => j = vb ∨ j = yb) fun _ _ h => h.elim).trans ((Only.of_below (S:=New w.heap.size fun j => j = vb ∨ j = yb) hbc))
  have HOX1:Hid (Only (New w.heap.size fun j => j = vb ∨ j = yb) w X1):=Lib.hid (by rw [HX1.out];exact HOW.set (p:=⟨vb,12,none⟩) (.inr (.inl rfl)) _)
  have HVX1:Hid (X1.heap[vb]? = some (.cells (vV c x k (false) ((.slice A ds.length cap)) (4) (p) (i) ((F.n:Int)) (st) (mk)) 52 (0,0))):=Lib.hid (by rw [HX1.out];exact vset12 hVc (F.n:Int))
  have HYX1:=Lib.hid (show WordsAt X1 yb ws from by rw [HX1.out];exact (HY1.out.below hbc).of (Below.heap_setCell _ _ _ _ (by show yb ≠ vb;exact hny.symm)))
  have HZC:=(hbc.block w.heap.size (by have:=HZ.out;exact (Array.getElem?_eq_some_iff.1 this).1)).trans HZ.out

  have HZX1:Hid (X1.heap[w.heap.size]? = some (.cells #[.bool false,.int .i64 0,.slice none 0 0,.bool false,.int .i64 0,.bool false,.bool false,.bool false,.int .i64 0] 56 (0,0))):=Lib.hid (by rw [HX1.out];exact (Below.heap_setCell _ _ _ _ (by show w.heap.size ≠ vb;exact hzv)).trans HZC)
  have u12:X1.drew.cell? ⟨vb,12,none⟩ = some (.int .i64 (F.n:Int)):=cell_blk (W:=X1.drew) HVX1.out rfl
  have uf12:X1.drew.drew.frozen? ⟨vb,12,none⟩ = false:=blk_frozen (W:=X1.drew.drew) 12 HVX1.out
  have ub12:X1.drew.drew.cell? ⟨vb,12,none⟩ = some (.int .i64 (F.n:Int)):=cell_blk (W:=X1.drew.drew) HVX1.out rfl
  have uyb:X1.drew.drew.cell? ⟨yb,bufA F p i,none⟩ = some (.int .u32 v):=yv_cell (HYX1.out.cell hBl) HV.out
  have uy:X1.drew.cell? ⟨yb,bufA F p i,none⟩ = some (.int .u32 v):=yv_cell (HYX1.out.cell hBl) HV.out
  clear HZC HOW hVc hZc x1 x6 x8 x9 x10 x11 x12 x14 g1 g6 g8 g9 g10 g11 g12 g14 yc yf kc q0 q1 q2 q3 q4 q5 q6 q8 q9 q10 q11 q14
  go_wp2
  refine wp_region_held_drew (S:=(fun W' => W'.cell? ⟨vb,12,none⟩ = some (.int .i64 (F.n:Int)) ∧ W'.cell? ⟨yb,bufA F p i,none⟩ = some (.int .u32 v))) (by kernel_rfl) (⟨u12,uy⟩) (fun hHeld => ?_)
  refine wpAnyH_take (i:=0) rfl (by kernel_rfl) (by kernel_rfl) (by kernel_rfl) (fun _ _ _ h => h) (Or.inl ⟨by rfl,by intro w hSw;(have z0:=hSw.1;have z1:=hSw.2;clear hSw);(go_simp <;> with_reducible rfl)⟩) (by assumption) ?_
  (try simp only [Act.put,List.setIfInBounds_toArray,List.set_cons_zero,List.set_cons_succ,List.getElem_toArray,List.getElem_cons_zero,List.getElem_cons_succ])
  refine wpAnyH_take (i:=1) rfl (by kernel_rfl) (by kernel_rfl) (by kernel_rfl) (fun _ _ _ h => h) (Or.inl ⟨by rfl,by intro w hSw;(have z0:=hSw.1;have z1:=hSw.2;clear hSw);(go_simp <;> with_reducible rfl)⟩) (by assumption) ?_
  (try simp only [Act.put,List.setIfInBounds_toArray,List.set_cons_zero,List.set_cons_succ,List.getElem_toArray,List.getElem_cons_zero,List.getElem_cons_succ])
  refine wpAnyH_take (i:=2) rfl (by kernel_rfl) (by kernel_rfl) (by kernel_rfl) (fun _ _ _ h => h) (Or.inl ⟨by rfl,by intro w hSw;(have z0:=hSw.1;have z1:=hSw.2;clear hSw);(go_simp <;> with_reducible rfl)⟩) (by assumption) ?_
  (try simp only [Act.put,List.setIfInBounds_toArray,List.set_cons_zero,List.set_cons_succ,List.getElem_toArray,List.getElem_cons_zero,List.getElem_cons_succ])
  refine wpAnyH_take (i:=3) rfl (by kernel_rfl) (by kernel_rfl) (by kernel_rfl) (fun _ _ _ h => h) (Or.inl ⟨by rfl,by intro w hSw;(have z0:=hSw.1;have z1:=hSw.2;clear hSw);(go_simp <;> with_reducible rfl)⟩) (by assumption) ?_
  (try simp only [Act.put,List.setIfInBounds_toArray,List.set_cons_zero,List.set_cons_succ,List.getElem_toArray,List.getElem_cons_zero,List.getElem_cons_succ])
  refine wpAnyH_take (i:=4) rfl (by kernel_rfl) (by kernel_rfl) (by kernel_rfl) (fun _ _ _ h => h) (Or.inl ⟨by rfl,by intro w hSw;(have z0:=hSw.1;have z1:=hSw.2;clear hSw);(go_simp <;> with_reducible rfl)⟩) (by assumption) ?_
  (try simp only [Act.put,List.setIfInBounds_toArray,List.set_cons_zero,List.set_cons_succ,List.getElem_toArray,List.getElem_cons_zero,List.getElem_cons_succ])
  refine wpAnyH_take (i:=5) rfl (by kernel_rfl) (by kernel_rfl) (by kernel_rfl) (fun _ _ _ h => h) (Or.inl ⟨by rfl,by intro w hSw;(have z0:=hSw.1;have z1:=hSw.2;clear hSw);(go_simp <;> with_reducible rfl)⟩) (by assumption) ?_
  (try simp only [Act.put,List.setIfInBounds_toArray,List.set_cons_zero,List.set_cons_succ,List.getElem_toArray,List.getElem_cons_zero,List.getElem_cons_succ])
  refine wpAnyH_take (i:=6) rfl (by kernel_rfl) (by kernel_rfl) (by kernel_rfl) (fun _ _ _ h => h) (Or.inl ⟨by rfl,by intro w hSw;(have z0:=hSw.1;have z1:=hSw.2;clear hSw);(go_simp <;> with_reducible rfl)⟩) (by assumption) ?_
  (try simp only [Act.put,List.setIfInBounds_toArray,List.set_cons_zero,List.set_cons_succ,List.getElem_toArray,List.getElem_cons_zero,List.getElem_cons_succ])
  refine wpAnyH_take (i:=7) rfl (by kernel_rfl) (by kernel_rfl) (by kernel_rfl) (fun _ _ _ h => h) (Or.inl ⟨by rfl,by intro w hSw;(have z0:=hSw.1;have z1:=hSw.2;clear hSw);(go_simp <;> with_reducible rfl)⟩) (by assumption) ?_
  (try simp only [Act.put,List.setIfInBounds_toArray,List.set_cons_zero,List.set_cons_succ,List.getElem_toArray,List.getElem_cons_zero,List.getElem_cons_succ])
  refine wpAnyH_take (i:=8) rfl (by kernel_rfl) (by kernel_rfl) (by kernel_rfl) (fun _ _ _ h => h) (Or.inl ⟨by rfl,by intro w hSw;(have z0:=hSw.1;have z1:=hSw.2;clear hSw);(go_simp <;> with_reducible rfl)⟩) (by assumption) ?_
  (try simp only [Act.put,List.setIfInBounds_toArray,List.set_cons_zero,List.set_cons_succ,List.getElem_toArray,List.getElem_cons_zero,List.getElem_cons_succ])
  refine wpAnyH_take (i:=9) rfl (by kernel_rfl) (by kernel_rfl) (by kernel_rfl) (fun _ _ _ h => h) (Or.inl ⟨by rfl,by intro w hSw;(have z0:=hSw.1;have z1:=hSw.2;clear hSw);(go_simp <;> with_reducible rfl)⟩) (by assumption) ?_
  (try simp only [Act.put,List.setIfInBounds_toArray,List.set_cons_zero,List.set_cons_succ,List.getElem_toArray,List.getElem_cons_zero,List.getElem_cons_succ])
  refine wpAnyH_done (by kernel_rfl) ?_ _
  obtain ⟨X,HX⟩:∃ u,Hid (u = X1):=⟨_,rfl⟩
  have HOX:Hid (Only (New w.heap.size fun j => j = vb ∨ j = yb) w X):=Lib.hid (by rw [HX.out];exact HOX1.out)
  have HVX:Hid (X.heap[vb]? = some (.cells (vV c x k (false) ((.slice A ds.length cap)) (4) (p) (i) ((F.n:Int)) (st) (mk)) 52 (0,0))):=Lib.hid (by rw [HX.out];exact HVX1.out)
  have HYX:=Lib.hid (show WordsAt X yb ws from by rw [HX.out];exact HYX1.out)
  have HZX:Hid (X.heap[w.heap.size]? = some (.cells #[.bool false,.int .i64 0,.slice none 0 0,.bool false,.int .i64 0,.bool false,.bool false,.bool false,.int .i64 0] 56 (0,0))):=Lib.hid (by rw [HX.out];exact HZX1.out)
  have e12:X.drew.drew.cell? ⟨vb,12,none⟩ = some (.int .i64 (F.n:Int)):=cell_blk (W:=X.drew.drew) HVX.out rfl
  rw [← HX.out]

  go_wp2
  have e10:X.cell? ⟨vb,10,none⟩ = some (.int .i64 (p:Int)):=cell_blk HVX.out rfl
  have e11:X.cell? ⟨vb,11,none⟩ = some (.int .i64 (i:Int)):=cell_blk HVX.out rfl
  have hth:=there_at (W:=X) HZX.out (n:=(didV false 0 (.slice none 0 0) false (false) false (1 + 2 * (p:Int) + i):Array Value).size) rfl
  obtain ⟨i1,i2⟩:=hpi
  refine wp_region_held_drew (S:=(fun W' => W'.cell? ⟨vb,10,none⟩ = some (.int .i64 (p:Int)) ∧ W'.cell? ⟨vb,11,none⟩ = some (.int .i64 (i:Int)))) (by kernel_rfl) (⟨e10,e11⟩) (fun hHeld => ?_)
  refine wpAnyH_take (i:=0) rfl (by kernel_rfl) (by kernel_rfl) (by kernel_rfl) (fun _ _ _ h => h) (Or.inl ⟨by rfl,by intro w hSw;(have z0:=hSw.1;have z1:=hSw.2;clear hSw);(go_simp <;> with_reducible rfl)⟩) (by assumption) ?_
  (try simp only [Act.put,List.setIfInBounds_toArray,List.set_cons_zero,List.set_cons_succ,List.getElem_toArray,List.getElem_cons_zero,List.getElem_cons_succ])
  refine wpAnyH_take (i:=1) rfl (by kernel_rfl) (by kernel_rfl) (by kernel_rfl) (fun _ _ _ h => h) (Or.inl ⟨by rfl,by intro w hSw;(have z0:=hSw.1;have z1:=hSw.2;clear hSw);(go_simp <;> with_reducible rfl)⟩) (by assumption) ?_
  (try simp only [Act.put,List.setIfInBounds_toArray,List.set_cons_zero,List.set_cons_succ,List.getElem_toArray,List.getElem_cons_zero,List.getElem_cons_succ])
  refine wpAnyH_take (i:=2) rfl (by kernel_rfl) (by kernel_rfl) (by kernel_rfl) (fun _ _ _ h => h) (Or.inl ⟨by rfl,by intro w hSw;(have z0:=hSw.1;have z1:=hSw.2;clear hSw);(go_simp <;> with_reducible rfl)⟩) (by assumption) ?_
  (try simp only [Act.put,List.setIfInBounds_toArray,List.set_cons_zero,List.set_cons_succ,List.getElem_toArray,List.getElem_cons_zero,List.getElem_cons_succ])
  refine wpAnyH_take (i:=3) rfl (by kernel_rfl) (by kernel_rfl) (by kernel_rfl) (fun _ _ _ h => h) (Or.inl ⟨by rfl,by intro w hSw;(have z0:=hSw.1;have z1:=hSw.2;clear hSw);(go_simp <;> with_reducible rfl)⟩) (by assumption) ?_
  (try simp only [Act.put,List.setIfInBounds_toArray,List.set_cons_zero,List.set_cons_succ,List.getElem_toArray,List.getElem_cons_zero,List.getElem_cons_succ])
  refine wpAnyH_take (i:=4) rfl (by kernel_rfl) (by kernel_rfl) (by kernel_rfl) (fun _ _ _ h => h) (Or.inl ⟨by rfl,by intro w hSw;(have z0:=hSw.1;have z1:=hSw.2;clear hSw);(go_simp <;> with_reducible rfl)⟩) (by assumption) ?_
  (try simp only [Act.put,List.setIfInBounds_toArray,List.set_cons_zero,List.set_cons_succ,List.getElem_toArray,List.getElem_cons_zero,List.getElem_cons_succ])
  refine wpAnyH_take (i:=5) rfl (by kernel_rfl) (by kernel_rfl) (by kernel_rfl) (fun _ _ _ h => h) (Or.inl ⟨by rfl,by intro w hSw;(have z0:=hSw.1;have z1:=hSw.2;clear hSw);(go_simp <;> with_reducible rfl)⟩) (by assumption) ?_
  (try simp only [Act.put,List.setIfInBounds_toArray,List.set_cons_zero,List.set_cons_succ,List.getElem_toArray,List.getElem_cons_zero,List.getElem_cons_succ])
  refine wpAnyH_take (i:=6) rfl (by kernel_rfl) (by kernel_rfl) (by kernel_rfl) (fun _ _ _ h => h) (Or.inl ⟨by rfl,by intro w hSw;(have z0:=hSw.1;have z1:=hSw.2;clear hSw);(go_simp <;> with_reducible rfl)⟩) (by assumption) ?_
  (try simp only [Act.put,List.setIfInBounds_toArray,List.set_cons_zero,List.set_cons_succ,List.getElem_toArray,List.getElem_cons_zero,List.getElem_cons_succ])
  refine wpAnyH_take (i:=7) rfl (by kernel_rfl) (by kernel_rfl) (by kernel_rfl) (fun _ _ _ h => h) (Or.inl ⟨by rfl,by intro w hSw;(have z0:=hSw.1;have z1:=hSw.2;clear hSw);(go_simp <;> with_reducible rfl)⟩) (by assumption) ?_
  (try simp only [Act.put,List.setIfInBounds_toArray,List.set_cons_zero,List.set_cons_succ,List.getElem_toArray,List.getElem_cons_zero,List.getElem_cons_succ])
  refine wpAnyH_take (i:=8) rfl (by kernel_rfl) (by kernel_rfl) (by kernel_rfl) (fun _ _ _ h => h) (Or.inl ⟨by rfl,by intro w hSw;(have z0:=hSw.1;have z1:=hSw.2;clear hSw);(go_simp <;> with_reducible rfl)⟩) (by assumption) ?_
  (try simp only [Act.put,List.setIfInBounds_toArray,List.set_cons_zero,List.set_cons_succ,List.getElem_toArray,List.getElem_cons_zero,List.getElem_cons_succ])
  refine wpAnyH_take (i:=9) rfl (by kernel_rfl) (by kernel_rfl) (by kernel_rfl) (fun _ _ _ h => h) (Or.inl ⟨by rfl,by intro w hSw;(have z0:=hSw.1;have z1:=hSw.2;clear hSw);(go_simp <;> with_reducible rfl)⟩) (by assumption) ?_
  (try simp only [Act.put,List.setIfInBounds_toArray,List.set_cons_zero,List.set_cons_succ,List.getElem_toArray,List.getElem_cons_zero,List.getElem_cons_succ])
  refine wpAnyH_take (i:=10) rfl (by kernel_rfl) (by kernel_rfl) (by kernel_rfl) (fun _ _ _ h => h) (Or.inl ⟨by rfl,by intro w hSw;(have z0:=hSw.1;have z1:=hSw.2;clear hSw);(go_simp <;> with_reducible rfl)⟩) (by assumption) ?_
  (try simp only [Act.put,List.setIfInBounds_toArray,List.set_cons_zero,List.set_cons_succ,List.getElem_toArray,List.getElem_cons_zero,List.getElem_cons_succ])
  refine wpAnyH_take (i:=11) rfl (by kernel_rfl) (by kernel_rfl) (by kernel_rfl) (fun _ _ _ h => h) (Or.inl ⟨by rfl,by intro w hSw;(have z0:=hSw.1;have z1:=hSw.2;clear hSw);(go_simp <;> with_reducible rfl)⟩) (by assumption) ?_
  (try simp only [Act.put,List.setIfInBounds_toArray,List.set_cons_zero,List.set_cons_succ,List.getElem_toArray,List.getElem_cons_zero,List.getElem_cons_succ])
  refine wpAnyH_ready (rs:=[12]) (by kernel_rfl) (by simp) (AllReadyH.cons rfl (fun K hK => ?_) AllReadyH.nil)
  rw [if_pos (by rfl)]
  refine wp_store_mid _ _ _ rfl w.heap.size 0 (didV false 0 (.slice none 0 0) false (false) false (1 + 2 * (p:Int) + i)) rfl rfl hth hsd (by kernel_rfl) ?_
  refine hK.out _ _ (keep_box2 hHeld (by have:=hvl;show w.heap.size ≠ vb;omega)) (fun hHeld => ?_)
  clear hK K
  (try simp only [Act.put,List.setIfInBounds_toArray,List.set_cons_zero,List.set_cons_succ,List.getElem_toArray,List.getElem_cons_zero,List.getElem_cons_succ])
  refine wpAnyH_done (by kernel_rfl) ?_ _
  go_wp2
  have hrg:=World.rangeAt_setCells_same X.drew.drew.drew w.heap.size 0 [.bool false,.int .i64 0,.slice none 0 0,.bool false,.int .i64 0,.bool (false),.bool false,.bool false,.int .i64 (1 + 2 * (p:Int) + i)] (there_at (cs:=#[.bool false,.int .i64 0,.slice none 0 0,.bool false,.int .i64 0,.bool false,.bool false,.bool false,.int .i64 0]) (n:=9) (show (X.drew.drew.drew).heap[w.heap.size]? = _ from HZX.out) rfl)
  (try simp only [Exit.inBlock,Exit.then])
  refine bodyPost_ret (results_cell_row rfl _ _ w.heap.size [.bool false,.int .i64 0,.slice none 0 0,.bool false,.int .i64 0,.bool (false),.bool false,.bool false,.int .i64 (1 + 2 * (p:Int) + i)] _ rfl hrg Tryz.underlying56 rfl did_size) rfl ?_
  obtain ⟨v1,v2⟩:=HH.out.fin (X:=X.drew.drew.drew) HVX.out HYX.out HOX.out.drew.drew.drew rfl HH.out.w32 [.bool false,.int .i64 0,.slice none 0 0,.bool false,.int .i64 0,.bool (false),.bool false,.bool false,.int .i64 (1 + 2 * (p:Int) + i)]
  exact ⟨rfl,v1,v2⟩
end Go.Proofs.YtmhpcgcloojfbaaGreat
