/- Texts of the ring, joined, what is used of them. No condition but those in the statements. -/
import Derived.BigQuiet
import Derived.BigRegion
import Derived.Deep.MidRow
import Derived.Deep.RegionHeld3
import Derived.Deep.Upon
import Derived.IntWalk
import Derived.Shelf.Abstract
import Derived.Test.YtmhpcgcloojfbaaGreatRFDo
namespace Go.Proofs.YtmhpcgcloojfbaaGreat
open Go.RowKit Go.Sort
set_option linter.unusedVariables false
set_option linter.unusedSimpArgs false
set_option linter.unusedVariables false
set_option linter.unusedSimpArgs false
open Go.Proofs.YtmhpcgcloojfbaaGreat.Simp
set_option maxRecDepth 100000
set_option maxHeartbeats 6400000
theorem dread1_b (W w:World) (vb yb:Nat) (c:Cfg) (x:CfgAt) (k:Nat) (F:Fr) (ws:List Int) (A:Option Addr) (ds:List Int) (cap:Nat) (p i:Nat) (len st:Int) (mk:Bool) (now:Int) (h:VAt W w vb yb c x k F ws false (.slice A ds.length cap) 1 p i len st mk) (hpi:p ≤ 1 ∧ i ≤ 1) (hds:ds.length ≤ F.n):Calls Tryz.prog 39 #[.pointer (some ⟨vb,0,none⟩),.slice (some ⟨yb,0,none⟩) ws.length ws.length,.int .i64 now] w (VGives W w vb yb c x k F (ws) false (.slice A ds.length cap) (1) (oddN (ws.getD (F.src) 0)) (i) len st (mk) (didV false 0 (.slice none 0 0) false (false) false (0))):=by
  have hsl:=h.len.src
  have hmx:=h.len.max
  have hn2:=h.len.n2
  obtain ⟨T,hT⟩:∃ u,u = F.src:=⟨_,rfl⟩
  rw [← hT]
  have h32s:=(h.w32 T).1
  unfold rd at h32s
  have hTl:T < ws.length:=by omega
  obtain ⟨v,hv⟩:∃ u,ws.getD T 0 = u:=⟨_,rfl⟩
  rw [hv] at h32s ⊢
  have HOD:=Lib.hid (fun W' => rodd_b v W' h32s)
  have hq1:=oddN_le v
  obtain ⟨q,hq⟩:∃ q,oddN v = q:=⟨_,rfl⟩
  rw [hq] at HOD hq1 ⊢
  obtain ⟨r,hr⟩:∃ r,r = q:=⟨_,rfl⟩
  rw [← hr] at HOD hq1 ⊢
  have hrw:IntKind.i64.wrap (r:Int) = r:=IntWalk.i64_in _ (by omega)
  have eT:(F.src:Int) = (T:Nat):=by omega
  have hTw:IntKind.i64.wrap (T:Int) = T:=IntWalk.i64_in _ (by omega)
  have hsw:IntKind.i64.wrap ((F.src:Int) + 1) = (F.src:Int) + 1:=IntWalk.i64_in _ (by omega)
  clear hT hq hr
  have HV:=Lib.hid hv
  have hsd:(Tryz.prog.info? 56).map (·.size) = some (didV false 0 (.slice none 0 0) false (false) false (0):Array Value).size:=did_size
  have hzy:w.heap.size ≠ yb:=fun e => by have:=h.row.lt;omega
  have hzv:w.heap.size ≠ vb:=fun e => by have:=(Array.getElem?_eq_some_iff.1 h.blk).1;omega
  have hny:vb ≠ yb:=h.ne.1
  obtain ⟨W1,HW1,hsz,hO,hz⟩:=did_new w
  have hvl:vb < w.heap.size:=(Array.getElem?_eq_some_iff.1 h.blk).1
  have hyl:=h.row.lt
  have hV1:=hO.at_ h.blk (fun h => h)
  have hY1:=h.row.of (hO.block yb hyl (fun h => h))
  have hB1:Below W.heap.size W W1:=h.below.trans ⟨hO.os,hO.tape,hO.output,hO.size,fun j hj => hO.block j (by have:=h.below.size;omega) (fun h => h)⟩
  have hcW:CfgIn W1 W1.heap.size c x:=h.cfg.later hB1
  have HSRC:Hid (∀ d os,Calls Tryz.prog 55 #[.agg #[.slice x.pa c.parts.length x.pc,.slice x.ca c.chans.length x.cc,.int .i64 c.len0,.slice x.aa c.win0.length x.ac,.int .i64 c.len1,.slice x.ba c.win1.length x.bc],.int .i64 (k:Int)] (grow (redrawn W1 d) os) (fun e w'' => e = .returned (.agg #[.int .i64 (F.src:Int),.int .i64 (srcSpan c k).2]) ∧ ∃ p:Regrown,w'' = grow (redrawn W1 p.d) p.os)):=Lib.hid (fun d os => by
    have q:=rsource_b c x k (grow (redrawn W1 d) os) (hcW.later (below_regrown W1 d os)) h.wf h.few
    rw [h.fr.src] at q
    exact Calls.regrown_of q)
  have HBUF:Hid (∀ d os,Calls Tryz.prog 70 #[.agg #[.slice x.pa c.parts.length x.pc,.slice x.ca c.chans.length x.cc,.int .i64 c.len0,.slice x.aa c.win0.length x.ac,.int .i64 c.len1,.slice x.ba c.win1.length x.bc],.int .i64 (k:Int),.int .i64 (p:Int),.int .i64 (i:Int)] (grow (redrawn W1 d) os) (fun e w'' => e = .returned (.agg #[.int .i64 ((bufA F p i:Nat):Int),.int .i64 (bufSpan c k p i).2]) ∧ ∃ p:Regrown,w'' = grow (redrawn W1 p.d) p.os)):=Lib.hid (fun d os => by
    have q:=rbuffer_b c x k p i (grow (redrawn W1 d) os) (hcW.later (below_regrown W1 d os)) h.wf h.few
    rw [h.fr.buf p i hpi.1 hpi.2] at q
    exact Calls.regrown_of q)
  have hfs:=run_span0
  have q0:∀ rg:Regrown,(grow (redrawn W1 rg.d) rg.os).cell? ⟨vb,0,none⟩ = some (.slice x.pa c.parts.length x.pc):=fun rg => cell_regrown (cell_blk hV1 rfl) rg.d rg.os
  have q1:∀ rg:Regrown,(grow (redrawn W1 rg.d) rg.os).cell? ⟨vb,1,none⟩ = some (.slice x.ca c.chans.length x.cc):=fun rg => cell_regrown (cell_blk hV1 rfl) rg.d rg.os
  have q2:∀ rg:Regrown,(grow (redrawn W1 rg.d) rg.os).cell? ⟨vb,2,none⟩ = some (.int .i64 c.len0):=fun rg => cell_regrown (cell_blk hV1 rfl) rg.d rg.os
  have q3:∀ rg:Regrown,(grow (redrawn W1 rg.d) rg.os).cell? ⟨vb,3,none⟩ = some (.slice x.aa c.win0.length x.ac):=fun rg => cell_regrown (cell_blk hV1 rfl) rg.d rg.os
  have q4:∀ rg:Regrown,(grow (redrawn W1 rg.d) rg.os).cell? ⟨vb,4,none⟩ = some (.int .i64 c.len1):=fun rg => cell_regrown (cell_blk hV1 rfl) rg.d rg.os
  have q5:∀ rg:Regrown,(grow (redrawn W1 rg.d) rg.os).cell? ⟨vb,5,none⟩ = some (.slice x.ba c.win1.length x.bc):=fun rg => cell_regrown (cell_blk hV1 rfl) rg.d rg.os
  have q6:∀ rg:Regrown,(grow (redrawn W1 rg.d) rg.os).cell? ⟨vb,6,none⟩ = some (.int .i64 (k:Int)):=fun rg => cell_regrown (cell_blk hV1 rfl) rg.d rg.os
  have q8:∀ rg:Regrown,(grow (redrawn W1 rg.d) rg.os).cell? ⟨vb,8,none⟩ = some ((.slice A ds.length cap)):=fun rg => cell_regrown (cell_blk hV1 rfl) rg.d rg.os
  have q9:∀ rg:Regrown,(grow (redrawn W1 rg.d) rg.os).cell? ⟨vb,9,none⟩ = some (.int .i64 1):=fun rg => cell_regrown (cell_blk hV1 rfl) rg.d rg.os
  have q10:∀ rg:Regrown,(grow (redrawn W1 rg.d) rg.os).cell? ⟨vb,10,none⟩ = some (.int .i64 (p:Int)):=fun rg => cell_regrown (cell_blk hV1 rfl) rg.d rg.os
  have q11:∀ rg:Regrown,(grow (redrawn W1 rg.d) rg.os).cell? ⟨vb,11,none⟩ = some (.int .i64 (i:Int)):=fun rg => cell_regrown (cell_blk hV1 rfl) rg.d rg.os
  have q14:∀ rg:Regrown,(grow (redrawn W1 rg.d) rg.os).cell? ⟨vb,14,none⟩ = some (.bool mk):=fun rg => cell_regrown (cell_blk hV1 rfl) rg.d rg.os
  have hixl:T < ws.length:=by omega
  have hbc:=Below.refl W1.heap.size W1
  have hzl:w.heap.size < W1.heap.size:=(Array.getElem?_eq_some_iff.1 hz).1
  have HV1:=Lib.hid hV1;have HY1:=Lib.hid hY1;have HO:=Lib.hid hO;have HZ:=Lib.hid hz;have HH:=Lib.hid h;have HB1:=Lib.hid hB1
  clear hV1 hY1 hO hz hB1 hcW
  go_enter Tryz.func39,Tryz.ntmps39
  go_wp2_with (first | (rw [← HW1.out]) | (((first | with_reducible refine wpList_on hbc ?_ | with_reducible refine wp_on hbc (by kernel_rfl) (by kernel_rfl) ?_);(repeat (first | (go_big_quiet_want;(refine quiet_eqlT 117 _ _ _ rfl _ _ rfl rfl (eqS _ _ _ _ true (by simp)) (by kernel_rfl) ?_);go_big_quiet_on;(try simp only [Act.put,List.setIfInBounds_toArray,List.set_cons_zero,List.set_cons_succ])) | go_big_quiet_step (first | with_reducible exact HSRC.out _ _ | with_reducible exact HBUF.out _ _)));with_reducible refine wpQuiet_nil ?_;intro wc hbc;(try clear x8 x9 x10 x11 x14 g8 g9 g10 g11 g14 yc yf hVc hZc);have hVc:=(hbc.block vb (Array.getElem?_eq_some_iff.1 HV1.out).1).trans HV1.out;have x8:wc.cell? ⟨vb,8,none⟩ = some ((.slice A ds.length cap)):=cell_blk hVc rfl;have x9:wc.cell? ⟨vb,9,none⟩ = some (.int .i64 1):=cell_blk hVc rfl;have x10:wc.cell? ⟨vb,10,none⟩ = some (.int .i64 (p:Int)):=cell_blk hVc rfl;have x11:wc.cell? ⟨vb,11,none⟩ = some (.int .i64 (i:Int)):=cell_blk hVc rfl;have x14:wc.cell? ⟨vb,14,none⟩ = some (.bool mk):=cell_blk hVc rfl;have g8:wc.frozen? ⟨vb,8,none⟩ = false:=blk_frozen 8 hVc;have g9:wc.frozen? ⟨vb,9,none⟩ = false:=blk_frozen 9 hVc;have g10:wc.frozen? ⟨vb,10,none⟩ = false:=blk_frozen 10 hVc;have g11:wc.frozen? ⟨vb,11,none⟩ = false:=blk_frozen 11 hVc;have g14:wc.frozen? ⟨vb,14,none⟩ = false:=blk_frozen 14 hVc;have yc:wc.cell? ⟨yb,T,none⟩ = some (.int .u32 v):=yv_cell ((HY1.out.below hbc).cell hixl) HV.out;have yf:wc.frozen? ⟨yb,T,none⟩ = false:=(HY1.out.below hbc).frozen _;have hZc:=(hbc.block w.heap.size hzl).trans HZ.out)) | (go_at_call 71;((with_reducible refine (HOD.out _).mono ?_);rintro e w5 ⟨rfl,rfl⟩)) | (with_reducible refine wpList_store_mid (by kernel_rfl) _ _ _ rfl w.heap.size 0 (didV false 0 (.slice none 0 0) false (false) false (0)) (by kernel_rfl) (by kernel_rfl) (there_at ((Below.heap_setCell _ _ _ _ hzv).trans hZc) rfl) hsd (by kernel_rfl) ?_))
  obtain ⟨X,HX⟩:∃ u,Hid (u = wc.setCell ⟨vb,10,none⟩ (.int .i64 (r:Int))):=⟨_,rfl⟩
  rw [← HX.out]
  have HOW:=(HO.out.mono (T:=New w.heap.size fun j => j = vb ∨ j = yb) fun _ _ h => h.elim).trans ((Only.of_below (S:=New w.heap.size fun j => j = vb ∨ j = yb) hbc))
  have HOX:Hid (Only (New w.heap.size fun j => j = vb ∨ j = yb) w X):=Lib.hid (by rw [HX.out];exact HOW.set (p:=⟨vb,10,none⟩) (.inr (.inl rfl)) _)
  have HVX:Hid (X.heap[vb]? = some (.cells (vV c x k (false) ((.slice A ds.length cap)) (1) (r) (i) (len) (st) (mk)) 52 (0,0))):=Lib.hid (by rw [HX.out];exact vset10 hVc r)
  have HYX:=Lib.hid (show WordsAt X yb _ from by rw [HX.out];exact (HY1.out.below hbc).of (Below.heap_setCell _ _ _ _ (by show yb ≠ vb;exact hny.symm)))
  have HZC:=(hbc.block w.heap.size (by have:=HZ.out;exact (Array.getElem?_eq_some_iff.1 this).1)).trans HZ.out

  have HZX:Hid (X.heap[w.heap.size]? = some (.cells #[.bool false,.int .i64 0,.slice none 0 0,.bool false,.int .i64 0,.bool false,.bool false,.bool false,.int .i64 0] 56 (0,0))):=Lib.hid (by rw [HX.out];exact (Below.heap_setCell _ _ _ _ hzv).trans HZC)
  have hrg:=World.rangeAt_setCells_same X w.heap.size 0 [.bool false,.int .i64 0,.slice none 0 0,.bool false,.int .i64 0,.bool (false),.bool false,.bool false,.int .i64 (0)] (there_at (cs:=#[.bool false,.int .i64 0,.slice none 0 0,.bool false,.int .i64 0,.bool false,.bool false,.bool false,.int .i64 0]) (n:=9) (show (X).heap[w.heap.size]? = _ from HZX.out) rfl)
  (try simp only [Exit.inBlock,Exit.then])
  refine bodyPost_ret (results_cell_row rfl _ _ w.heap.size [.bool false,.int .i64 0,.slice none 0 0,.bool false,.int .i64 0,.bool (false),.bool false,.bool false,.int .i64 (0)] _ rfl hrg Tryz.underlying56 rfl did_size) rfl ?_
  obtain ⟨v1,v2⟩:=HH.out.fin (X:=X) HVX.out HYX.out HOX.out rfl HH.out.w32 [.bool false,.int .i64 0,.slice none 0 0,.bool false,.int .i64 0,.bool (false),.bool false,.bool false,.int .i64 (0)]
  exact ⟨rfl,v1,v2⟩
theorem dread3_b (W w:World) (vb yb:Nat) (c:Cfg) (x:CfgAt) (k:Nat) (F:Fr) (ws:List Int) (A:Option Addr) (ds:List Int) (cap:Nat) (p i:Nat) (len st:Int) (mk:Bool) (now:Int) (h:VAt W w vb yb c x k F ws false (.slice A ds.length cap) 3 p i len st mk) (hpi:p ≤ 1 ∧ i ≤ 1) (hds:ds.length ≤ F.n):Calls Tryz.prog 39 #[.pointer (some ⟨vb,0,none⟩),.slice (some ⟨yb,0,none⟩) ws.length ws.length,.int .i64 now] w (VGives W w vb yb c x k F (ws) false (.slice A ds.length cap) (3) (p) (oddN (ws.getD (F.src + 1 + p) 0)) len st (mk) (didV false 0 (.slice none 0 0) false (false) false (0))):=by
  have hsl:=h.len.src
  have hmx:=h.len.max
  have hn2:=h.len.n2
  obtain ⟨T,hT⟩:∃ u,u = F.src + 1 + p:=⟨_,rfl⟩
  rw [← hT]
  have h32s:=(h.w32 T).1
  unfold rd at h32s
  have hTl:T < ws.length:=by omega
  obtain ⟨v,hv⟩:∃ u,ws.getD T 0 = u:=⟨_,rfl⟩
  rw [hv] at h32s ⊢
  have HOD:=Lib.hid (fun W' => rodd_b v W' h32s)
  have hq1:=oddN_le v
  obtain ⟨q,hq⟩:∃ q,oddN v = q:=⟨_,rfl⟩
  rw [hq] at HOD hq1 ⊢
  obtain ⟨r,hr⟩:∃ r,r = q:=⟨_,rfl⟩
  rw [← hr] at HOD hq1 ⊢
  have hrw:IntKind.i64.wrap (r:Int) = r:=IntWalk.i64_in _ (by omega)
  have eT:(F.src:Int) + 1 + (p:Int) = (T:Nat):=by omega
  have hTw:IntKind.i64.wrap (T:Int) = T:=IntWalk.i64_in _ (by omega)
  have hsw:IntKind.i64.wrap ((F.src:Int) + 1) = (F.src:Int) + 1:=IntWalk.i64_in _ (by omega)
  clear hT hq hr
  have HV:=Lib.hid hv
  have hsd:(Tryz.prog.info? 56).map (·.size) = some (didV false 0 (.slice none 0 0) false (false) false (0):Array Value).size:=did_size
  have hzy:w.heap.size ≠ yb:=fun e => by have:=h.row.lt;omega
  have hzv:w.heap.size ≠ vb:=fun e => by have:=(Array.getElem?_eq_some_iff.1 h.blk).1;omega
  have hny:vb ≠ yb:=h.ne.1
  obtain ⟨W1,HW1,hsz,hO,hz⟩:=did_new w
  have hvl:vb < w.heap.size:=(Array.getElem?_eq_some_iff.1 h.blk).1
  have hyl:=h.row.lt
  have hV1:=hO.at_ h.blk (fun h => h)
  have hY1:=h.row.of (hO.block yb hyl (fun h => h))
  have hB1:Below W.heap.size W W1:=h.below.trans ⟨hO.os,hO.tape,hO.output,hO.size,fun j hj => hO.block j (by have:=h.below.size;omega) (fun h => h)⟩
  have hcW:CfgIn W1 W1.heap.size c x:=h.cfg.later hB1
  have HSRC:Hid (∀ d os,Calls Tryz.prog 55 #[.agg #[.slice x.pa c.parts.length x.pc,.slice x.ca c.chans.length x.cc,.int .i64 c.len0,.slice x.aa c.win0.length x.ac,.int .i64 c.len1,.slice x.ba c.win1.length x.bc],.int .i64 (k:Int)] (grow (redrawn W1 d) os) (fun e w'' => e = .returned (.agg #[.int .i64 (F.src:Int),.int .i64 (srcSpan c k).2]) ∧ ∃ p:Regrown,w'' = grow (redrawn W1 p.d) p.os)):=Lib.hid (fun d os => by
    have q:=rsource_b c x k (grow (redrawn W1 d) os) (hcW.later (below_regrown W1 d os)) h.wf h.few
    rw [h.fr.src] at q
    exact Calls.regrown_of q)
  have HBUF:Hid (∀ d os,Calls Tryz.prog 70 #[.agg #[.slice x.pa c.parts.length x.pc,.slice x.ca c.chans.length x.cc,.int .i64 c.len0,.slice x.aa c.win0.length x.ac,.int .i64 c.len1,.slice x.ba c.win1.length x.bc],.int .i64 (k:Int),.int .i64 (p:Int),.int .i64 (i:Int)] (grow (redrawn W1 d) os) (fun e w'' => e = .returned (.agg #[.int .i64 ((bufA F p i:Nat):Int),.int .i64 (bufSpan c k p i).2]) ∧ ∃ p:Regrown,w'' = grow (redrawn W1 p.d) p.os)):=Lib.hid (fun d os => by
    have q:=rbuffer_b c x k p i (grow (redrawn W1 d) os) (hcW.later (below_regrown W1 d os)) h.wf h.few
    rw [h.fr.buf p i hpi.1 hpi.2] at q
    exact Calls.regrown_of q)
  have hfs:=run_span0
  have q0:∀ rg:Regrown,(grow (redrawn W1 rg.d) rg.os).cell? ⟨vb,0,none⟩ = some (.slice x.pa c.parts.length x.pc):=fun rg => cell_regrown (cell_blk hV1 rfl) rg.d rg.os
  have q1:∀ rg:Regrown,(grow (redrawn W1 rg.d) rg.os).cell? ⟨vb,1,none⟩ = some (.slice x.ca c.chans.length x.cc):=fun rg => cell_regrown (cell_blk hV1 rfl) rg.d rg.os
  have q2:∀ rg:Regrown,(grow (redrawn W1 rg.d) rg.os).cell? ⟨vb,2,none⟩ = some (.int .i64 c.len0):=fun rg => cell_regrown (cell_blk hV1 rfl) rg.d rg.os
  have q3:∀ rg:Regrown,(grow (redrawn W1 rg.d) rg.os).cell? ⟨vb,3,none⟩ = some (.slice x.aa c.win0.length x.ac):=fun rg => cell_regrown (cell_blk hV1 rfl) rg.d rg.os
  have q4:∀ rg:Regrown,(grow (redrawn W1 rg.d) rg.os).cell? ⟨vb,4,none⟩ = some (.int .i64 c.len1):=fun rg => cell_regrown (cell_blk hV1 rfl) rg.d rg.os
  have q5:∀ rg:Regrown,(grow (redrawn W1 rg.d) rg.os).cell? ⟨vb,5,none⟩ = some (.slice x.ba c.win1.length x.bc):=fun rg => cell_regrown (cell_blk hV1 rfl) rg.d rg.os
  have q6:∀ rg:Regrown,(grow (redrawn W1 rg.d) rg.os).cell? ⟨vb,6,none⟩ = some (.int .i64 (k:Int)):=fun rg => cell_regrown (cell_blk hV1 rfl) rg.d rg.os
  have q8:∀ rg:Regrown,(grow (redrawn W1 rg.d) rg.os).cell? ⟨vb,8,none⟩ = some ((.slice A ds.length cap)):=fun rg => cell_regrown (cell_blk hV1 rfl) rg.d rg.os
  have q9:∀ rg:Regrown,(grow (redrawn W1 rg.d) rg.os).cell? ⟨vb,9,none⟩ = some (.int .i64 3):=fun rg => cell_regrown (cell_blk hV1 rfl) rg.d rg.os
  have q10:∀ rg:Regrown,(grow (redrawn W1 rg.d) rg.os).cell? ⟨vb,10,none⟩ = some (.int .i64 (p:Int)):=fun rg => cell_regrown (cell_blk hV1 rfl) rg.d rg.os
  have q11:∀ rg:Regrown,(grow (redrawn W1 rg.d) rg.os).cell? ⟨vb,11,none⟩ = some (.int .i64 (i:Int)):=fun rg => cell_regrown (cell_blk hV1 rfl) rg.d rg.os
  have q14:∀ rg:Regrown,(grow (redrawn W1 rg.d) rg.os).cell? ⟨vb,14,none⟩ = some (.bool mk):=fun rg => cell_regrown (cell_blk hV1 rfl) rg.d rg.os
  have hixl:T < ws.length:=by omega
  have hbc:=Below.refl W1.heap.size W1
  have hzl:w.heap.size < W1.heap.size:=(Array.getElem?_eq_some_iff.1 hz).1
  have HV1:=Lib.hid hV1;have HY1:=Lib.hid hY1;have HO:=Lib.hid hO;have HZ:=Lib.hid hz;have HH:=Lib.hid h;have HB1:=Lib.hid hB1
  clear hV1 hY1 hO hz hB1 hcW
  go_enter Tryz.func39,Tryz.ntmps39
  go_wp2_with (first | (rw [← HW1.out]) | (((first | with_reducible refine wpList_on hbc ?_ | with_reducible refine wp_on hbc (by kernel_rfl) (by kernel_rfl) ?_);(repeat (first | (go_big_quiet_want;(refine quiet_eqlT 117 _ _ _ rfl _ _ rfl rfl (eqS _ _ _ _ true (by simp)) (by kernel_rfl) ?_);go_big_quiet_on;(try simp only [Act.put,List.setIfInBounds_toArray,List.set_cons_zero,List.set_cons_succ])) | go_big_quiet_step (first | with_reducible exact HSRC.out _ _ | with_reducible exact HBUF.out _ _)));with_reducible refine wpQuiet_nil ?_;intro wc hbc;(try clear x8 x9 x10 x11 x14 g8 g9 g10 g11 g14 yc yf hVc hZc);have hVc:=(hbc.block vb (Array.getElem?_eq_some_iff.1 HV1.out).1).trans HV1.out;have x8:wc.cell? ⟨vb,8,none⟩ = some ((.slice A ds.length cap)):=cell_blk hVc rfl;have x9:wc.cell? ⟨vb,9,none⟩ = some (.int .i64 3):=cell_blk hVc rfl;have x10:wc.cell? ⟨vb,10,none⟩ = some (.int .i64 (p:Int)):=cell_blk hVc rfl;have x11:wc.cell? ⟨vb,11,none⟩ = some (.int .i64 (i:Int)):=cell_blk hVc rfl;have x14:wc.cell? ⟨vb,14,none⟩ = some (.bool mk):=cell_blk hVc rfl;have g8:wc.frozen? ⟨vb,8,none⟩ = false:=blk_frozen 8 hVc;have g9:wc.frozen? ⟨vb,9,none⟩ = false:=blk_frozen 9 hVc;have g10:wc.frozen? ⟨vb,10,none⟩ = false:=blk_frozen 10 hVc;have g11:wc.frozen? ⟨vb,11,none⟩ = false:=blk_frozen 11 hVc;have g14:wc.frozen? ⟨vb,14,none⟩ = false:=blk_frozen 14 hVc;have yc:wc.cell? ⟨yb,T,none⟩ = some (.int .u32 v):=yv_cell ((HY1.out.below hbc).cell hixl) HV.out;have yf:wc.frozen? ⟨yb,T,none⟩ = false:=(HY1.out.below hbc).frozen _;have hZc:=(hbc.block w.heap.size hzl).trans HZ.out)) | (go_at_call 71;((with_reducible refine (HOD.out _).mono ?_);rintro e w5 ⟨rfl,rfl⟩)) | (with_reducible refine wpList_store_mid (by kernel_rfl) _ _ _ rfl w.heap.size 0 (didV false 0 (.slice none 0 0) false (false) false (0)) (by kernel_rfl) (by kernel_rfl) (there_at ((Below.heap_setCell _ _ _ _ hzv).trans hZc) rfl) hsd (by kernel_rfl) ?_))
  obtain ⟨X,HX⟩:∃ u,Hid (u = wc.setCell ⟨vb,11,none⟩ (.int .i64 (r:Int))):=⟨_,rfl⟩
  rw [← HX.out]
  have HOW:=(HO.out.mono (T:=New w.heap.size fun j => j = vb ∨ j = yb) fun _ _ h => h.elim).trans ((Only.of_below (S:=New w.heap.size fun j => j = vb ∨ j = yb) hbc))
  have HOX:Hid (Only (New w.heap.size fun j => j = vb ∨ j = yb) w X):=Lib.hid (by rw [HX.out];exact HOW.set (p:=⟨vb,11,none⟩) (.inr (.inl rfl)) _)
  have HVX:Hid (X.heap[vb]? = some (.cells (vV c x k (false) ((.slice A ds.length cap)) (3) (p) (r) (len) (st) (mk)) 52 (0,0))):=Lib.hid (by rw [HX.out];exact vset11 hVc r)
  have HYX:=Lib.hid (show WordsAt X yb _ from by rw [HX.out];exact (HY1.out.below hbc).of (Below.heap_setCell _ _ _ _ (by show yb ≠ vb;exact hny.symm)))
  have HZC:=(hbc.block w.heap.size (by have:=HZ.out;exact (Array.getElem?_eq_some_iff.1 this).1)).trans HZ.out

  have HZX:Hid (X.heap[w.heap.size]? = some (.cells #[.bool false,.int .i64 0,.slice none 0 0,.bool false,.int .i64 0,.bool false,.bool false,.bool false,.int .i64 0] 56 (0,0))):=Lib.hid (by rw [HX.out];exact (Below.heap_setCell _ _ _ _ hzv).trans HZC)
  have hrg:=World.rangeAt_setCells_same X w.heap.size 0 [.bool false,.int .i64 0,.slice none 0 0,.bool false,.int .i64 0,.bool (false),.bool false,.bool false,.int .i64 (0)] (there_at (cs:=#[.bool false,.int .i64 0,.slice none 0 0,.bool false,.int .i64 0,.bool false,.bool false,.bool false,.int .i64 0]) (n:=9) (show (X).heap[w.heap.size]? = _ from HZX.out) rfl)
  (try simp only [Exit.inBlock,Exit.then])
  refine bodyPost_ret (results_cell_row rfl _ _ w.heap.size [.bool false,.int .i64 0,.slice none 0 0,.bool false,.int .i64 0,.bool (false),.bool false,.bool false,.int .i64 (0)] _ rfl hrg Tryz.underlying56 rfl did_size) rfl ?_
  obtain ⟨v1,v2⟩:=HH.out.fin (X:=X) HVX.out HYX.out HOX.out rfl HH.out.w32 [.bool false,.int .i64 0,.slice none 0 0,.bool false,.int .i64 0,.bool (false),.bool false,.bool false,.int .i64 (0)]
  exact ⟨rfl,v1,v2⟩
theorem dread5_b (W w:World) (vb yb:Nat) (c:Cfg) (x:CfgAt) (k:Nat) (F:Fr) (ws:List Int) (A:Option Addr) (ds:List Int) (cap:Nat) (p i:Nat) (len st:Int) (mk:Bool) (now:Int) (h:VAt W w vb yb c x k F ws false (.slice A ds.length cap) 5 p i len st mk) (hpi:p ≤ 1 ∧ i ≤ 1) (hds:ds.length ≤ F.n):Calls Tryz.prog 39 #[.pointer (some ⟨vb,0,none⟩),.slice (some ⟨yb,0,none⟩) ws.length ws.length,.int .i64 now] w (VGives W w vb yb c x k F (ws) false (.slice A ds.length cap) (5) (p) (i) len (ws.getD (bufA F p i + 1) 0) (mk) (didV false 0 (.slice none 0 0) false (false) false (0))):=by
  have hbin:=h.len.buf hpi.1 hpi.2
  have hmx:=h.len.max
  have hn2:=h.len.n2
  obtain ⟨T,hT⟩:∃ u,u = bufA F p i + 1:=⟨_,rfl⟩
  rw [← hT]
  have eT:((bufA F p i:Nat):Int) + 1 = (T:Nat):=by omega
  have hTl:T < ws.length:=by omega
  have hTw:IntKind.i64.wrap (T:Int) = T:=IntWalk.i64_in _ (by omega)
  have h32s:=h.w32 T
  unfold rd at h32s
  obtain ⟨v,hv⟩:∃ u,ws.getD T 0 = u:=⟨_,rfl⟩
  rw [hv] at h32s ⊢
  have hvw:IntKind.i64.wrap v = v:=IntWalk.i64_in _ (by omega)
  clear hT
  have HV:=Lib.hid hv
  have hsd:(Tryz.prog.info? 56).map (·.size) = some (didV false 0 (.slice none 0 0) false (false) false (0):Array Value).size:=did_size
  have hzy:w.heap.size ≠ yb:=fun e => by have:=h.row.lt;omega
  have hzv:w.heap.size ≠ vb:=fun e => by have:=(Array.getElem?_eq_some_iff.1 h.blk).1;omega
  have hny:vb ≠ yb:=h.ne.1
  obtain ⟨W1,HW1,hsz,hO,hz⟩:=did_new w
  have hvl:vb < w.heap.size:=(Array.getElem?_eq_some_iff.1 h.blk).1
  have hyl:=h.row.lt
  have hV1:=hO.at_ h.blk (fun h => h)
  have hY1:=h.row.of (hO.block yb hyl (fun h => h))
  have hB1:Below W.heap.size W W1:=h.below.trans ⟨hO.os,hO.tape,hO.output,hO.size,fun j hj => hO.block j (by have:=h.below.size;omega) (fun h => h)⟩
  have hcW:CfgIn W1 W1.heap.size c x:=h.cfg.later hB1
  have HSRC:Hid (∀ d os,Calls Tryz.prog 55 #[.agg #[.slice x.pa c.parts.length x.pc,.slice x.ca c.chans.length x.cc,.int .i64 c.len0,.slice x.aa c.win0.length x.ac,.int .i64 c.len1,.slice x.ba c.win1.length x.bc],.int .i64 (k:Int)] (grow (redrawn W1 d) os) (fun e w'' => e = .returned (.agg #[.int .i64 (F.src:Int),.int .i64 (srcSpan c k).2]) ∧ ∃ p:Regrown,w'' = grow (redrawn W1 p.d) p.os)):=Lib.hid (fun d os => by
    have q:=rsource_b c x k (grow (redrawn W1 d) os) (hcW.later (below_regrown W1 d os)) h.wf h.few
    rw [h.fr.src] at q
    exact Calls.regrown_of q)
  have HBUF:Hid (∀ d os,Calls Tryz.prog 70 #[.agg #[.slice x.pa c.parts.length x.pc,.slice x.ca c.chans.length x.cc,.int .i64 c.len0,.slice x.aa c.win0.length x.ac,.int .i64 c.len1,.slice x.ba c.win1.length x.bc],.int .i64 (k:Int),.int .i64 (p:Int),.int .i64 (i:Int)] (grow (redrawn W1 d) os) (fun e w'' => e = .returned (.agg #[.int .i64 ((bufA F p i:Nat):Int),.int .i64 (bufSpan c k p i).2]) ∧ ∃ p:Regrown,w'' = grow (redrawn W1 p.d) p.os)):=Lib.hid (fun d os => by
    have q:=rbuffer_b c x k p i (grow (redrawn W1 d) os) (hcW.later (below_regrown W1 d os)) h.wf h.few
    rw [h.fr.buf p i hpi.1 hpi.2] at q
    exact Calls.regrown_of q)
  have hfs:=run_span0
  have q0:∀ rg:Regrown,(grow (redrawn W1 rg.d) rg.os).cell? ⟨vb,0,none⟩ = some (.slice x.pa c.parts.length x.pc):=fun rg => cell_regrown (cell_blk hV1 rfl) rg.d rg.os
  have q1:∀ rg:Regrown,(grow (redrawn W1 rg.d) rg.os).cell? ⟨vb,1,none⟩ = some (.slice x.ca c.chans.length x.cc):=fun rg => cell_regrown (cell_blk hV1 rfl) rg.d rg.os
  have q2:∀ rg:Regrown,(grow (redrawn W1 rg.d) rg.os).cell? ⟨vb,2,none⟩ = some (.int .i64 c.len0):=fun rg => cell_regrown (cell_blk hV1 rfl) rg.d rg.os
  have q3:∀ rg:Regrown,(grow (redrawn W1 rg.d) rg.os).cell? ⟨vb,3,none⟩ = some (.slice x.aa c.win0.length x.ac):=fun rg => cell_regrown (cell_blk hV1 rfl) rg.d rg.os
  have q4:∀ rg:Regrown,(grow (redrawn W1 rg.d) rg.os).cell? ⟨vb,4,none⟩ = some (.int .i64 c.len1):=fun rg => cell_regrown (cell_blk hV1 rfl) rg.d rg.os
  have q5:∀ rg:Regrown,(grow (redrawn W1 rg.d) rg.os).cell? ⟨vb,5,none⟩ = some (.slice x.ba c.win1.length x.bc):=fun rg => cell_regrown (cell_blk hV1 rfl) rg.d rg.os
  have q6:∀ rg:Regrown,(grow (redrawn W1 rg.d) rg.os).cell? ⟨vb,6,none⟩ = some (.int .i64 (k:Int)):=fun rg => cell_regrown (cell_blk hV1 rfl) rg.d rg.os
  have q8:∀ rg:Regrown,(grow (redrawn W1 rg.d) rg.os).cell? ⟨vb,8,none⟩ = some ((.slice A ds.length cap)):=fun rg => cell_regrown (cell_blk hV1 rfl) rg.d rg.os
  have q9:∀ rg:Regrown,(grow (redrawn W1 rg.d) rg.os).cell? ⟨vb,9,none⟩ = some (.int .i64 5):=fun rg => cell_regrown (cell_blk hV1 rfl) rg.d rg.os
  have q10:∀ rg:Regrown,(grow (redrawn W1 rg.d) rg.os).cell? ⟨vb,10,none⟩ = some (.int .i64 (p:Int)):=fun rg => cell_regrown (cell_blk hV1 rfl) rg.d rg.os
  have q11:∀ rg:Regrown,(grow (redrawn W1 rg.d) rg.os).cell? ⟨vb,11,none⟩ = some (.int .i64 (i:Int)):=fun rg => cell_regrown (cell_blk hV1 rfl) rg.d rg.os
  have q14:∀ rg:Regrown,(grow (redrawn W1 rg.d) rg.os).cell? ⟨vb,14,none⟩ = some (.bool mk):=fun rg => cell_regrown (cell_blk hV1 rfl) rg.d rg.os
  have hixl:T < ws.length:=by omega
  have hbc:=Below.refl W1.heap.size W1
  have hzl:w.heap.size < W1.heap.size:=(Array.getElem?_eq_some_iff.1 hz).1
  have HV1:=Lib.hid hV1;have HY1:=Lib.hid hY1;have HO:=Lib.hid hO;have HZ:=Lib.hid hz;have HH:=Lib.hid h;have HB1:=Lib.hid hB1
  clear hV1 hY1 hO hz hB1 hcW
  go_enter Tryz.func39,Tryz.ntmps39
  go_wp2_with (first | (rw [← HW1.out]) | (((first | with_reducible refine wpList_on hbc ?_ | with_reducible refine wp_on hbc (by kernel_rfl) (by kernel_rfl) ?_);(repeat (first | (go_big_quiet_want;(refine quiet_eqlT 117 _ _ _ rfl _ _ rfl rfl (eqS _ _ _ _ true (by simp)) (by kernel_rfl) ?_);go_big_quiet_on;(try simp only [Act.put,List.setIfInBounds_toArray,List.set_cons_zero,List.set_cons_succ])) | go_big_quiet_step (first | with_reducible exact HSRC.out _ _ | with_reducible exact HBUF.out _ _)));with_reducible refine wpQuiet_nil ?_;intro wc hbc;(try clear x8 x9 x10 x11 x13 x14 g8 g9 g10 g11 g13 g14 yc yf hVc hZc);have hVc:=(hbc.block vb (Array.getElem?_eq_some_iff.1 HV1.out).1).trans HV1.out;have x8:wc.cell? ⟨vb,8,none⟩ = some ((.slice A ds.length cap)):=cell_blk hVc rfl;have x9:wc.cell? ⟨vb,9,none⟩ = some (.int .i64 5):=cell_blk hVc rfl;have x10:wc.cell? ⟨vb,10,none⟩ = some (.int .i64 (p:Int)):=cell_blk hVc rfl;have x11:wc.cell? ⟨vb,11,none⟩ = some (.int .i64 (i:Int)):=cell_blk hVc rfl;have x13:wc.cell? ⟨vb,13,none⟩ = some (.int .i64 st):=cell_blk hVc rfl;have x14:wc.cell? ⟨vb,14,none⟩ = some (.bool mk):=cell_blk hVc rfl;have g8:wc.frozen? ⟨vb,8,none⟩ = false:=blk_frozen 8 hVc;have g9:wc.frozen? ⟨vb,9,none⟩ = false:=blk_frozen 9 hVc;have g10:wc.frozen? ⟨vb,10,none⟩ = false:=blk_frozen 10 hVc;have g11:wc.frozen? ⟨vb,11,none⟩ = false:=blk_frozen 11 hVc;have g13:wc.frozen? ⟨vb,13,none⟩ = false:=blk_frozen 13 hVc;have g14:wc.frozen? ⟨vb,14,none⟩ = false:=blk_frozen 14 hVc;have yc:wc.cell? ⟨yb,T,none⟩ = some (.int .u32 v):=yv_cell ((HY1.out.below hbc).cell hixl) HV.out;have yf:wc.frozen? ⟨yb,T,none⟩ = false:=(HY1.out.below hbc).frozen _;have hZc:=(hbc.block w.heap.size hzl).trans HZ.out)) | (with_reducible refine wpList_store_mid (by kernel_rfl) _ _ _ rfl w.heap.size 0 (didV false 0 (.slice none 0 0) false (false) false (0)) (by kernel_rfl) (by kernel_rfl) (there_at ((Below.heap_setCell _ _ _ _ hzv).trans hZc) rfl) hsd (by kernel_rfl) ?_))
  obtain ⟨X,HX⟩:∃ u,Hid (u = wc.setCell ⟨vb,13,none⟩ (.int .i64 v)):=⟨_,rfl⟩
  rw [← HX.out]
  have HOW:=(HO.out.mono (T:=New w.heap.size fun j => j = vb ∨ j = yb) fun _ _ h => h.elim).trans ((Only.of_below (S:=New w.heap.size fun j => j = vb ∨ j = yb) hbc))
  have HOX:Hid (Only (New w.heap.size fun j => j = vb ∨ j = yb) w X):=Lib.hid (by rw [HX.out];exact HOW.set (p:=⟨vb,13,none⟩) (.inr (.inl rfl)) _)
  have HVX:Hid (X.heap[vb]? = some (.cells (vV c x k (false) ((.slice A ds.length cap)) (5) (p) (i) (len) (v) (mk)) 52 (0,0))):=Lib.hid (by rw [HX.out];exact vset13 hVc v)
  have HYX:=Lib.hid (show WordsAt X yb _ from by rw [HX.out];exact (HY1.out.below hbc).of (Below.heap_setCell _ _ _ _ (by show yb ≠ vb;exact hny.symm)))
  have HZC:=(hbc.block w.heap.size (by have:=HZ.out;exact (Array.getElem?_eq_some_iff.1 this).1)).trans HZ.out

  have HZX:Hid (X.heap[w.heap.size]? = some (.cells #[.bool false,.int .i64 0,.slice none 0 0,.bool false,.int .i64 0,.bool false,.bool false,.bool false,.int .i64 0] 56 (0,0))):=Lib.hid (by rw [HX.out];exact (Below.heap_setCell _ _ _ _ hzv).trans HZC)
  have hrg:=World.rangeAt_setCells_same X w.heap.size 0 [.bool false,.int .i64 0,.slice none 0 0,.bool false,.int .i64 0,.bool (false),.bool false,.bool false,.int .i64 (0)] (there_at (cs:=#[.bool false,.int .i64 0,.slice none 0 0,.bool false,.int .i64 0,.bool false,.bool false,.bool false,.int .i64 0]) (n:=9) (show (X).heap[w.heap.size]? = _ from HZX.out) rfl)
  (try simp only [Exit.inBlock,Exit.then])
  refine bodyPost_ret (results_cell_row rfl _ _ w.heap.size [.bool false,.int .i64 0,.slice none 0 0,.bool false,.int .i64 0,.bool (false),.bool false,.bool false,.int .i64 (0)] _ rfl hrg Tryz.underlying56 rfl did_size) rfl ?_
  obtain ⟨v1,v2⟩:=HH.out.fin (X:=X) HVX.out HYX.out HOX.out rfl HH.out.w32 [.bool false,.int .i64 0,.slice none 0 0,.bool false,.int .i64 0,.bool (false),.bool false,.bool false,.int .i64 (0)]
  exact ⟨rfl,v1,v2⟩
end Go.Proofs.YtmhpcgcloojfbaaGreat
