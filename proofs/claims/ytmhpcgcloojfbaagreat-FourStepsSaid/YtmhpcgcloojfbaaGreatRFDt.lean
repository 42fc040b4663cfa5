/- Texts of the ring, joined, what is used of them. No condition but those in the statements. -/
import Derived.BigQuiet
import Derived.BigRegion
import Derived.Deep.MidRow
import Derived.Deep.RegionHeld3
import Derived.Deep.Upon
import Derived.IntWalk
import Derived.OpenShut
import Derived.Shelf.Abstract
import Derived.Test.YtmhpcgcloojfbaaGreatRFDo
import Derived.Test.YtmhpcgcloojfbaaGreatROffB
import Derived.Test.YtmhpcgcloojfbaaGreatRgT
namespace Go.Proofs.YtmhpcgcloojfbaaGreat
open Go.RowKit Go.Sort
set_option linter.unusedVariables false
set_option linter.unusedSimpArgs false
set_option linter.unusedVariables false
set_option linter.unusedSimpArgs false
open Go.Proofs.YtmhpcgcloojfbaaGreat.Simp
set_option maxRecDepth 100000
set_option maxHeartbeats 6400000
theorem VAt.fin2 {W w X:World} {vb yb:Nat} {c:Cfg} {x:CfgAt} {k:Nat} {F:Fr} {ws:List Int} {wr:Bool} {dv dv':Value} {a a':Int} {p p' i i':Nat} {len len' st st':Int} {mk mk':Bool} (h:VAt W w vb yb c x k F ws wr dv a p i len st mk) {T:Nat → Prop}
    (hv:X.heap[vb]? = some (.cells (vV c x k wr dv' a' p' i' len' st' mk') 52 (0,0))) (hy:WordsAt X yb ws) (ho:Only (New w.heap.size T) w X) (hT:∀ k,T k → W.heap.size ≤ k) (hTy:¬ T yb) (cs:List Value) :
    VAt W (X.setCells w.heap.size 0 cs) vb yb c x k F ws wr dv' a' p' i' len' st' mk' ∧ Only T w (X.setCells w.heap.size 0 cs):=by
  have hs:=Only.sets (S:=fun j => j = w.heap.size) rfl cs 0 (Only.refl _ X)
  have hvl:=(Array.getElem?_eq_some_iff.1 h.blk).1
  have hyl:=h.row.lt
  have hof:Only T w (X.setCells w.heap.size 0 cs):=(ho.trans (hs.mono fun j _ e => .inl (Nat.le_of_eq e.symm))).old
  have hbs:=h.below.size
  refine ⟨⟨h.below.trans ⟨hof.os,hof.tape,hof.output,hof.size,fun j hj => hof.block j (by omega) (fun e => by have:=hT j e;omega)⟩,hs.at_ hv (by omega),hy.of (hs.block yb hy.lt (by omega)),h.ne,h.cfg,h.wf,h.few,h.fr,h.len,h.w32⟩,hof⟩
theorem keep5 {W:World} {vb b g n j:Nat} {v1 v2 v3 v4 v5:Value} {vs:List Value} (h:W.cell? ⟨vb,8,none⟩ = some v1 ∧ W.cell? ⟨vb,13,none⟩ = some v2 ∧ W.cell? ⟨vb,1,none⟩ = some v3 ∧ W.cell? ⟨vb,6,none⟩ = some v4 ∧ W.cell? ⟨b,n,none⟩ = some v5) (h1:g ≠ vb) (h2:g ≠ b) :
    (W.setCells g j vs).cell? ⟨vb,8,none⟩ = some v1 ∧ (W.setCells g j vs).cell? ⟨vb,13,none⟩ = some v2 ∧ (W.setCells g j vs).cell? ⟨vb,1,none⟩ = some v3 ∧ (W.setCells g j vs).cell? ⟨vb,6,none⟩ = some v4 ∧ (W.setCells g j vs).cell? ⟨b,n,none⟩ = some v5:=by
  have hs:=Only.sets (S:=fun j => j = g) rfl vs j (Only.refl _ W)
  have e1:=fun (u:Value) (q:Nat) (hc:W.cell? ⟨vb,q,none⟩ = some u) => cell_of_blk hc (hs.block vb (World.block_lt_of_cell? _ _ hc) (fun e => h1 e.symm))
  have e2:=fun (u:Value) (q:Nat) (hc:W.cell? ⟨b,q,none⟩ = some u) => cell_of_blk hc (hs.block b (World.block_lt_of_cell? _ _ hc) (fun e => h2 e.symm))
  exact ⟨e1 _ _ h.1,e1 _ _ h.2.1,e1 _ _ h.2.2.1,e1 _ _ h.2.2.2.1,e2 _ _ h.2.2.2.2⟩
theorem dread6_b (W w:World) (vb yb:Nat) (c:Cfg) (x:CfgAt) (k:Nat) (F:Fr) (ws:List Int) (A:Option Addr) (ds:List Int) (cap:Nat) (p i:Nat) (len st:Int) (mk:Bool) (now:Int) (h:VAt W w vb yb c x k F ws false (.slice A ds.length cap) (6 + (ds.length:Int)) p i len st mk) (hpi:p ≤ 1 ∧ i ≤ 1) (hdl:ds.length < F.n) (hr:(ds.length:Int) + 1 ≠ len) (hrow:OwnsOff w 0 34 1 (.slice A ds.length cap) ds.length (wcells ds)) (hby:Value.ownBlock (.slice A ds.length cap) ≠ some yb) (hgb:∀ g,Value.ownBlock (.slice A ds.length cap) = some g → W.heap.size ≤ g):Calls Tryz.prog 39 #[.pointer (some ⟨vb,0,none⟩),.slice (some ⟨yb,0,none⟩) ws.length ws.length,.int .i64 now] w fun e w' => ∃ dv',e = .returned (.agg (didV false 0 (.slice none 0 0) false false false 0)) ∧ VAt W w' vb yb c x k F ws false dv' (6 + (ds.length:Int)) p i len st mk ∧ OwnsOff w' 0 34 1 dv' (ds.length + 1) (wcells (ds ++ [ws.getD (bufA F p i + 2 + ds.length) 0])) ∧ (∀ g,dv'.ownBlock = some g → Value.ownBlock (.slice A ds.length cap) = some g ∨ w.heap.size ≤ g) ∧ Only (fun j => j = vb ∨ Value.ownBlock (.slice A ds.length cap) = some j) w w':=by
  have hbin:=h.len.buf hpi.1 hpi.2
  have hmx:=h.len.max
  have hn2:=h.len.n2
  have hn1:=h.len.n1
  obtain ⟨T,hT⟩:∃ u,u = bufA F p i + 2 + ds.length:=⟨_,rfl⟩
  rw [← hT]
  obtain ⟨a,ha⟩:∃ u:Int,u = 6 + (ds.length:Int):=⟨_,rfl⟩
  rw [← ha] at h
  rw [← ha]
  have eT:((bufA F p i:Nat):Int) + a - 4 = (T:Nat):=by omega
  have hTl:T < ws.length:=by omega
  have hab:6 ≤ a ∧ a ≤ 100000:=by omega
  have hTw:IntKind.i64.wrap (T:Int) = T:=IntWalk.i64_in _ (by omega)
  have hT1:IntKind.i64.wrap (((bufA F p i:Nat):Int) + a) = ((bufA F p i:Nat):Int) + a:=IntWalk.i64_in _ (by omega)
  have d1:(a == 1) = false:=beq_false_of_ne (by omega)
  have d2:(a == 2) = false:=beq_false_of_ne (by omega)
  have d3:(a == 3) = false:=beq_false_of_ne (by omega)
  have d4:(a == 4) = false:=beq_false_of_ne (by omega)
  have d5:(a == 5) = false:=beq_false_of_ne (by omega)
  have e1n:(((ds.length + 1:Nat):Int) == len) = false:=beq_false_of_ne (by push_cast;exact hr)
  have e2n:((ds.length:Int) + 1 == len) = false:=beq_false_of_ne hr
  have hbm:ds.length ≤ 1000:=by omega
  clear hT ha hr
  obtain ⟨y,hv⟩:∃ u,ws.getD T 0 = u:=⟨_,rfl⟩
  rw [hv]
  have HV:=Lib.hid hv
  clear hv
  obtain ⟨i0,hi0,hz0,hz1,hz2⟩:=info_parts Tryz.infoW
  skip
  have HBY:=Lib.hid hby;have HGB:=Lib.hid hgb;have HR0:=Lib.hid hrow;have HNE:=Lib.hid h.ne;have HB0:=Lib.hid h.below
  have hsd:(Tryz.prog.info? 56).map (·.size) = some (didV false 0 (.slice none 0 0) false (false) false (0):Array Value).size:=did_size
  clear hsd
  have hzy:w.heap.size ≠ yb:=fun e => by have:=h.row.lt;omega
  have hzv:w.heap.size ≠ vb:=fun e => by have:=(Array.getElem?_eq_some_iff.1 h.blk).1;omega
  have hny:vb ≠ yb:=h.ne.1
  clear hrow hby hgb
  obtain ⟨W1,HW1,hsz,hO,hz⟩:=did_new w
  have hvl:vb < w.heap.size:=(Array.getElem?_eq_some_iff.1 h.blk).1
  have hyl:=h.row.lt
  have hV1:=hO.at_ h.blk (fun h => h)
  have hY1:=h.row.of (hO.block yb hyl (fun h => h))
  have hB1:Below W.heap.size W W1:=h.below.trans ⟨hO.os,hO.tape,hO.output,hO.size,fun j hj => hO.block j (by have:=h.below.size;omega) (fun h => h)⟩
  have hcW:CfgIn W1 W1.heap.size c x:=h.cfg.later hB1
  have HSRC:Hid (∀ d os,Calls Tryz.prog 55 #[.agg #[.slice x.pa c.parts.length x.pc,.slice x.ca c.chans.length x.cc,.int .i64 c.len0,.slice x.aa c.win0.length x.ac,.int .i64 c.len1,.slice x.ba c.win1.length x.bc],.int .i64 (k:Int)] (grow (redrawn W1 d) os) (fun e w'' => e = .returned (.agg #[.int .i64 (F.src:Int),.int .i64 (srcSpan c k).2]) ∧ ∃ p:Regrown,w'' = grow (redrawn W1 p.d) p.os)):=Lib.hid (fun d os => by
    have q:=rsource_b c x k (grow (redrawn W1 d) os) (hcW.later (below_regrown W1 d os)) h.wf h.few
    rw [h.fr.src] at q
    exact Calls.regrown_of q)
  have HBUF:Hid (∀ d os,Calls Tryz.prog 70 #[.agg #[.slice x.pa c.parts.length x.pc,.slice x.ca c.chans.length x.cc,.int .i64 c.len0,.slice x.aa c.win0.length x.ac,.int .i64 c.len1,.slice x.ba c.win1.length x.bc],.int .i64 (k:Int),.int .i64 (p:Int),.int .i64 (i:Int)] (grow (redrawn W1 d) os) (fun e w'' => e = .returned (.agg #[.int .i64 ((bufA F p i:Nat):Int),.int .i64 (bufSpan c k p i).2]) ∧ ∃ p:Regrown,w'' = grow (redrawn W1 p.d) p.os)):=Lib.hid (fun d os => by
    have q:=rbuffer_b c x k p i (grow (redrawn W1 d) os) (hcW.later (below_regrown W1 d os)) h.wf h.few
    rw [h.fr.buf p i hpi.1 hpi.2] at q
    exact Calls.regrown_of q)
  have hfs:=run_span0
  have q0:∀ rg:Regrown,(grow (redrawn W1 rg.d) rg.os).cell? ⟨vb,0,none⟩ = some (.slice x.pa c.parts.length x.pc):=fun rg => cell_regrown (cell_blk hV1 rfl) rg.d rg.os
  have q1:∀ rg:Regrown,(grow (redrawn W1 rg.d) rg.os).cell? ⟨vb,1,none⟩ = some (.slice x.ca c.chans.length x.cc):=fun rg => cell_regrown (cell_blk hV1 rfl) rg.d rg.os
  have q2:∀ rg:Regrown,(grow (redrawn W1 rg.d) rg.os).cell? ⟨vb,2,none⟩ = some (.int .i64 c.len0):=fun rg => cell_regrown (cell_blk hV1 rfl) rg.d rg.os
  have q3:∀ rg:Regrown,(grow (redrawn W1 rg.d) rg.os).cell? ⟨vb,3,none⟩ = some (.slice x.aa c.win0.length x.ac):=fun rg => cell_regrown (cell_blk hV1 rfl) rg.d rg.os
  have q4:∀ rg:Regrown,(grow (redrawn W1 rg.d) rg.os).cell? ⟨vb,4,none⟩ = some (.int .i64 c.len1):=fun rg => cell_regrown (cell_blk hV1 rfl) rg.d rg.os
  have q5:∀ rg:Regrown,(grow (redrawn W1 rg.d) rg.os).cell? ⟨vb,5,none⟩ = some (.slice x.ba c.win1.length x.bc):=fun rg => cell_regrown (cell_blk hV1 rfl) rg.d rg.os
  have q6:∀ rg:Regrown,(grow (redrawn W1 rg.d) rg.os).cell? ⟨vb,6,none⟩ = some (.int .i64 (k:Int)):=fun rg => cell_regrown (cell_blk hV1 rfl) rg.d rg.os
  have q8:∀ rg:Regrown,(grow (redrawn W1 rg.d) rg.os).cell? ⟨vb,8,none⟩ = some ((.slice A ds.length cap)):=fun rg => cell_regrown (cell_blk hV1 rfl) rg.d rg.os
  have q9:∀ rg:Regrown,(grow (redrawn W1 rg.d) rg.os).cell? ⟨vb,9,none⟩ = some (.int .i64 a):=fun rg => cell_regrown (cell_blk hV1 rfl) rg.d rg.os
  have q10:∀ rg:Regrown,(grow (redrawn W1 rg.d) rg.os).cell? ⟨vb,10,none⟩ = some (.int .i64 (p:Int)):=fun rg => cell_regrown (cell_blk hV1 rfl) rg.d rg.os
  have q11:∀ rg:Regrown,(grow (redrawn W1 rg.d) rg.os).cell? ⟨vb,11,none⟩ = some (.int .i64 (i:Int)):=fun rg => cell_regrown (cell_blk hV1 rfl) rg.d rg.os
  have q14:∀ rg:Regrown,(grow (redrawn W1 rg.d) rg.os).cell? ⟨vb,14,none⟩ = some (.bool mk):=fun rg => cell_regrown (cell_blk hV1 rfl) rg.d rg.os
  have hixl:T < ws.length:=by omega
  have hbc:=Below.refl W1.heap.size W1
  have hzl:w.heap.size < W1.heap.size:=(Array.getElem?_eq_some_iff.1 hz).1
  have HV1:=Lib.hid hV1;have HY1:=Lib.hid hY1;have HO:=Lib.hid hO;have HZ:=Lib.hid hz;have HH:=Lib.hid h;have HB1:=Lib.hid hB1
  clear hV1 hY1 hO hz hB1 hcW
  go_enter Tryz.func39,Tryz.ntmps39
  go_wp2_with (first | (rw [← HW1.out]) | (((first | with_reducible refine wpList_on hbc ?_ | with_reducible refine wp_on hbc (by kernel_rfl) (by kernel_rfl) ?_);(repeat (first | (go_big_quiet_want;(refine quiet_eqlT 117 _ _ _ rfl _ _ rfl rfl (eqS _ _ _ _ true (by simp)) (by kernel_rfl) ?_);go_big_quiet_on;(try simp only [Act.put,List.setIfInBounds_toArray,List.set_cons_zero,List.set_cons_succ])) | go_big_quiet_step (first | with_reducible exact HSRC.out _ _ | with_reducible exact HBUF.out _ _)));with_reducible refine wpQuiet_nil ?_;intro wc hbc;(try clear x8 x9 x12 g8 g9 g12 yc yf hVc hZc);have hVc:=(hbc.block vb (Array.getElem?_eq_some_iff.1 HV1.out).1).trans HV1.out;have x8:wc.cell? ⟨vb,8,none⟩ = some ((.slice A ds.length cap)):=cell_blk hVc rfl;have x9:wc.cell? ⟨vb,9,none⟩ = some (.int .i64 a):=cell_blk hVc rfl;have x12:wc.cell? ⟨vb,12,none⟩ = some (.int .i64 len):=cell_blk hVc rfl;have g8:wc.frozen? ⟨vb,8,none⟩ = false:=blk_frozen 8 hVc;have g9:wc.frozen? ⟨vb,9,none⟩ = false:=blk_frozen 9 hVc;have g12:wc.frozen? ⟨vb,12,none⟩ = false:=blk_frozen 12 hVc;have yc:wc.cell? ⟨yb,T,none⟩ = some (.int .u32 y):=yv_cell ((HY1.out.below hbc).cell hixl) HV.out;have yf:wc.frozen? ⟨yb,T,none⟩ = false:=(HY1.out.below hbc).frozen _;have hZc:=(hbc.block w.heap.size hzl).trans HZ.out)))
  have HVc:=Lib.hid hVc;have HYc:=Lib.hid (HY1.out.below hbc);have HZc:=Lib.hid hZc
  have HRc:=Lib.hid (HR0.out.kept (HO.out.trans (Only.of_below (S:=fun _ => False) hbc)) (fun _ _ h => h))
  have HOc:=Lib.hid (HO.out.trans (Only.of_below (S:=fun _ => False) hbc))
  clear hVc hZc g8 g9 g12 yf q0 q1 q2 q3 q4 q5 q6 q8 q9 q10 q11 q14 x12
  refine wp_region_till (fun W' => W'.cell? ⟨vb,8,none⟩ = some (.slice A ds.length cap) ∧ W'.cell? ⟨vb,9,none⟩ = some (.int .i64 a) ∧ W'.cell? ⟨yb,T,none⟩ = some (.int .u32 y)) 19 (by kernel_rfl) (by exact ⟨x8,x9,yc⟩) (fun hHeld => ?_)
  refine till_take (i:=0) rfl (by kernel_rfl) (by kernel_rfl) (by kernel_rfl) (fun _ _ _ h => h) (by kernel_rfl) (Or.inl ⟨by rfl,by intro w _;(go_simp <;> with_reducible rfl)⟩) (by assumption) ?_
  (try simp only [Act.put,List.setIfInBounds_toArray,List.set_cons_zero,List.set_cons_succ,List.getElem_toArray,List.getElem_cons_zero,List.getElem_cons_succ])
  refine till_take (i:=1) rfl (by kernel_rfl) (by kernel_rfl) (by kernel_rfl) (fun _ _ _ h => h) (by kernel_rfl) (Or.inl ⟨by rfl,by intro w _;(go_simp <;> with_reducible rfl)⟩) (by assumption) ?_
  (try simp only [Act.put,List.setIfInBounds_toArray,List.set_cons_zero,List.set_cons_succ,List.getElem_toArray,List.getElem_cons_zero,List.getElem_cons_succ])
  refine till_take (i:=2) rfl (by kernel_rfl) (by kernel_rfl) (by kernel_rfl) (fun _ _ _ h => h) (by kernel_rfl) (Or.inl ⟨by rfl,by intro w _;(go_simp <;> with_reducible rfl)⟩) (by assumption) ?_
  (try simp only [Act.put,List.setIfInBounds_toArray,List.set_cons_zero,List.set_cons_succ,List.getElem_toArray,List.getElem_cons_zero,List.getElem_cons_succ])
  refine till_take (i:=3) rfl (by kernel_rfl) (by kernel_rfl) (by kernel_rfl) (fun _ _ _ h => h) (by kernel_rfl) (Or.inl ⟨by rfl,by intro w _;(go_simp <;> with_reducible rfl)⟩) (by assumption) ?_
  (try simp only [Act.put,List.setIfInBounds_toArray,List.set_cons_zero,List.set_cons_succ,List.getElem_toArray,List.getElem_cons_zero,List.getElem_cons_succ])
  refine till_load (i:=4) rfl (by kernel_rfl) (by kernel_rfl) (by kernel_rfl) (fun _ _ _ h => h) (by kernel_rfl) (by kernel_rfl) (by kernel_rfl) (Or.inl ⟨by rfl,by intro w hSw;(have z0:=hSw.1;have z1:=hSw.2.1;have z2:=hSw.2.2);(go_simp <;> with_reducible rfl)⟩) (by assumption) ?_
  (try simp only [Act.put,List.setIfInBounds_toArray,List.set_cons_zero,List.set_cons_succ,List.getElem_toArray,List.getElem_cons_zero,List.getElem_cons_succ])
  refine till_take (i:=5) rfl (by kernel_rfl) (by kernel_rfl) (by kernel_rfl) (fun _ _ _ h => h) (by kernel_rfl) (Or.inl ⟨by rfl,by intro w _;(go_simp <;> with_reducible rfl)⟩) (by assumption) ?_
  (try simp only [Act.put,List.setIfInBounds_toArray,List.set_cons_zero,List.set_cons_succ,List.getElem_toArray,List.getElem_cons_zero,List.getElem_cons_succ])
  refine till_take (i:=6) rfl (by kernel_rfl) (by kernel_rfl) (by kernel_rfl) (fun _ _ _ h => h) (by kernel_rfl) (Or.inl ⟨by rfl,by intro w _;(go_simp <;> with_reducible rfl)⟩) (by assumption) ?_
  (try simp only [Act.put,List.setIfInBounds_toArray,List.set_cons_zero,List.set_cons_succ,List.getElem_toArray,List.getElem_cons_zero,List.getElem_cons_succ])
  refine till_take (i:=7) rfl (by kernel_rfl) (by kernel_rfl) (by kernel_rfl) (fun _ _ _ h => h) (by kernel_rfl) (Or.inl ⟨by rfl,by intro w _;(go_simp <;> with_reducible rfl)⟩) (by assumption) ?_
  (try simp only [Act.put,List.setIfInBounds_toArray,List.set_cons_zero,List.set_cons_succ,List.getElem_toArray,List.getElem_cons_zero,List.getElem_cons_succ])
  refine till_take (i:=8) rfl (by kernel_rfl) (by kernel_rfl) (by kernel_rfl) (fun _ _ _ h => h) (by kernel_rfl) (Or.inl ⟨by rfl,by intro w _;(go_simp <;> with_reducible rfl)⟩) (by assumption) ?_
  (try simp only [Act.put,List.setIfInBounds_toArray,List.set_cons_zero,List.set_cons_succ,List.getElem_toArray,List.getElem_cons_zero,List.getElem_cons_succ])
  refine till_take (i:=9) rfl (by kernel_rfl) (by kernel_rfl) (by kernel_rfl) (fun _ _ _ h => h) (by kernel_rfl) (Or.inl ⟨by rfl,by intro w _;(go_simp <;> with_reducible rfl)⟩) (by assumption) ?_
  (try simp only [Act.put,List.setIfInBounds_toArray,List.set_cons_zero,List.set_cons_succ,List.getElem_toArray,List.getElem_cons_zero,List.getElem_cons_succ])
  refine till_load (i:=10) rfl (by kernel_rfl) (by kernel_rfl) (by kernel_rfl) (fun _ _ _ h => h) (by kernel_rfl) (by kernel_rfl) (by kernel_rfl) (Or.inl ⟨by rfl,by intro w hSw;(have z0:=hSw.1;have z1:=hSw.2.1;have z2:=hSw.2.2);(go_simp <;> with_reducible rfl)⟩) (by assumption) ?_
  (try simp only [Act.put,List.setIfInBounds_toArray,List.set_cons_zero,List.set_cons_succ,List.getElem_toArray,List.getElem_cons_zero,List.getElem_cons_succ])
  refine till_take (i:=11) rfl (by kernel_rfl) (by kernel_rfl) (by kernel_rfl) (fun _ _ _ h => h) (by kernel_rfl) (Or.inl ⟨by rfl,by intro w _;(go_simp <;> with_reducible rfl)⟩) (by assumption) ?_
  (try simp only [Act.put,List.setIfInBounds_toArray,List.set_cons_zero,List.set_cons_succ,List.getElem_toArray,List.getElem_cons_zero,List.getElem_cons_succ])
  refine till_take (i:=12) rfl (by kernel_rfl) (by kernel_rfl) (by kernel_rfl) (fun _ _ _ h => h) (by kernel_rfl) (Or.inl ⟨by rfl,by intro w _;(go_simp <;> with_reducible rfl)⟩) (by assumption) ?_
  (try simp only [Act.put,List.setIfInBounds_toArray,List.set_cons_zero,List.set_cons_succ,List.getElem_toArray,List.getElem_cons_zero,List.getElem_cons_succ])
  refine till_take (i:=13) rfl (by kernel_rfl) (by kernel_rfl) (by kernel_rfl) (fun _ _ _ h => h) (by kernel_rfl) (Or.inl ⟨by rfl,by intro w _;(go_simp <;> with_reducible rfl)⟩) (by assumption) ?_
  (try simp only [Act.put,List.setIfInBounds_toArray,List.set_cons_zero,List.set_cons_succ,List.getElem_toArray,List.getElem_cons_zero,List.getElem_cons_succ])
  refine till_load (i:=14) rfl (by kernel_rfl) (by kernel_rfl) (by kernel_rfl) (fun _ _ _ h => h) (by kernel_rfl) (by kernel_rfl) (by kernel_rfl) (Or.inl ⟨by rfl,by intro w hSw;(have z0:=hSw.1;have z1:=hSw.2.1;have z2:=hSw.2.2);(go_simp <;> with_reducible rfl)⟩) (by assumption) ?_
  (try simp only [Act.put,List.setIfInBounds_toArray,List.set_cons_zero,List.set_cons_succ,List.getElem_toArray,List.getElem_cons_zero,List.getElem_cons_succ])
  refine till_one (i:=15) (by kernel_rfl) rfl (fun K hK => ?_)
  go_simp
  obtain ⟨w5,hw5⟩:∃ u,Hid (u = (wc.alloc (.cells #[.int .u32 y] 34)).drew):=⟨_,rfl⟩
  rw [← hw5.out]
  have hl5:Below wc.heap.size wc w5:=by rw [hw5.out];exact ((Below.refl wc.heap.size wc).alloc (Nat.le_refl _) _).drew
  have hE5:w5.heap[wc.heap.size]? = some (.cells #[.int .u32 y] 34 (0,0)):=by rw [hw5.out];exact heap_alloc_new wc _
  obtain ⟨g5,hg5⟩:∃ b,b = wc.heap.size:=⟨_,rfl⟩
  rw [← hg5] at hE5
  have HG5:=Lib.hid hg5
  (try simp only [← HG5.out])
  have HL5:=Lib.hid hl5
  have HR5:=Lib.hid (HRc.out.kept (Only.of_below (S:=fun _ => False) hl5) (fun _ _ h => h))
  have HV5:=Lib.hid ((hl5.block vb (Array.getElem?_eq_some_iff.1 HVc.out).1).trans HVc.out)
  have q8:w5.cell? ⟨vb,8,none⟩ = some (.slice A ds.length cap):=cell_blk HV5.out rfl
  have q9:w5.cell? ⟨vb,9,none⟩ = some (.int .i64 a):=cell_blk HV5.out rfl
  have qy:w5.cell? ⟨yb,T,none⟩ = some (.int .u32 y):=cell_of_blk yc (hl5.block yb (World.block_lt_of_cell? _ _ yc))
  clear hl5 hg5
  refine hK.out _ _ (by exact ⟨q8,q9,qy⟩) (fun hHeld => ?_)
  clear hK K
  (try simp only [Act.put,List.setIfInBounds_toArray,List.set_cons_zero,List.set_cons_succ,List.getElem_toArray,List.getElem_cons_zero,List.getElem_cons_succ])
  refine till_one (i:=16) (by kernel_rfl) rfl (fun K hK => ?_)
  refine step_append_off rfl _ _ 30 rfl 0 34 i0 (.int .u32 0) 1 4 Tryz.underlying30 hi0 hz0 hz1 hz2 rfl (by decide) _ ds.length (wcells ds) rfl HR5.out ⟨g5,0,none⟩ 1 1 [.int .u32 y] rfl rfl (news_block hE5) (by intro u hu;simp at hu;subst hu;rfl) (by unfold maxLen;omega) (by omega) (Nat.zero_le _) ?_
  intro v' w6 hown' hgr hfr
  have HO6:=Lib.hid (Only.of_grown hgr)
  have HOW6:=Lib.hid hown';have HFR:=Lib.hid hfr
  obtain ⟨a',cp',rfl,-,-⟩:=hown'.slice
  have HV6:=Lib.hid (HO6.out.at_ HV5.out (fun e => by obtain ⟨cs,hc⟩:=HR5.out.typed vb e.symm;have q:=HV5.out;rw [hc] at q;injection q with q3;injection q3 with q4 q5;exact absurd q5 (by decide)))
  have HY6:=Lib.hid ((HYc.out.of (HL5.out.block yb HYc.out.lt)).of (HO6.out.block yb (Nat.lt_of_lt_of_le HYc.out.lt HL5.out.size) (fun e => HBY.out e.symm)))
  have q8':w6.cell? ⟨vb,8,none⟩ = some (.slice A ds.length cap):=cell_blk HV6.out rfl
  have f8':=blk_frozen 8 HV6.out
  have q9':w6.cell? ⟨vb,9,none⟩ = some (.int .i64 a):=cell_blk HV6.out rfl
  have qy':w6.cell? ⟨yb,T,none⟩ = some (.int .u32 y):=yv_cell (HY6.out.cell hTl) HV.out
  clear hown' hgr hfr hE5 q8 q9 qy
  refine hK.out _ _ (by exact ⟨q8',q9',qy'⟩) (fun hHeld => ?_)
  clear hK K
  (try simp only [Act.put,List.setIfInBounds_toArray,List.set_cons_zero,List.set_cons_succ,List.getElem_toArray,List.getElem_cons_zero,List.getElem_cons_succ])
  refine till_take (i:=17) rfl (by kernel_rfl) (by kernel_rfl) (by kernel_rfl) (fun _ _ _ h => h) (by kernel_rfl) (Or.inl ⟨by rfl,by intro w _;(go_simp <;> with_reducible rfl)⟩) (by assumption) ?_
  (try simp only [Act.put,List.setIfInBounds_toArray,List.set_cons_zero,List.set_cons_succ,List.getElem_toArray,List.getElem_cons_zero,List.getElem_cons_succ])
  refine till_take (i:=18) rfl (by kernel_rfl) (by kernel_rfl) (by kernel_rfl) (fun _ _ _ h => h) (by kernel_rfl) (Or.inl ⟨by rfl,by intro w _;(go_simp <;> with_reducible rfl)⟩) (by assumption) ?_
  (try simp only [Act.put,List.setIfInBounds_toArray,List.set_cons_zero,List.set_cons_succ,List.getElem_toArray,List.getElem_cons_zero,List.getElem_cons_succ])
  clear hHeld
  refine till_last (by kernel_rfl) rfl (fun K hK => ?_)
  go_simp
  refine hK.out _ _ ?_
  clear hK K
  (try simp only [Act.put,List.setIfInBounds_toArray,List.set_cons_zero,List.set_cons_succ,List.getElem_toArray,List.getElem_cons_zero,List.getElem_cons_succ])
  refine till_done (by kernel_rfl) ?_ _
  obtain ⟨X1,HX1⟩:∃ u,Hid (u = w6.setCell ⟨vb,8,none⟩ (.slice a' (ds.length + 1) cp')):=⟨_,rfl⟩
  rw [← HX1.out]
  have hlo:∀ g,Value.ownBlock (.slice A ds.length cap) = some g → g < w.heap.size:=fun g hg => (HR0.out.lt g hg).2
  have hs5:=HL5.out.size
  have hs0:=HOc.out.size
  have HOX1:Hid (Only (New w.heap.size (fun j => j = vb ∨ Value.ownBlock (.slice A ds.length cap) = some j)) w X1):=Lib.hid (by
    rw [HX1.out]
    exact ((((HOc.out.mono (T:=New w.heap.size (fun j => j = vb ∨ Value.ownBlock (.slice A ds.length cap) = some j)) fun _ _ h => h.elim).trans (Only.of_below (S:=New w.heap.size (fun j => j = vb ∨ Value.ownBlock (.slice A ds.length cap) = some j)) HL5.out)).trans (HO6.out.mono fun k _ e => .inr (.inr e.symm))).set (p:=⟨vb,8,none⟩) (.inr (.inl rfl)) _))
  have HVX1:Hid (X1.heap[vb]? = some (.cells (vV c x k (false) ((.slice a' (ds.length + 1) cp')) (a) (p) (i) (len) (st) (mk)) 52 (0,0))):=Lib.hid (by rw [HX1.out];exact vset8 HV6.out _)
  have HYX1:=Lib.hid (show WordsAt X1 yb ws from by rw [HX1.out];exact HY6.out.of (Below.heap_setCell _ _ _ _ (by show yb ≠ vb;exact hny.symm)))
  have hwl:w.heap.size < wc.heap.size:=(Array.getElem?_eq_some_iff.1 HZc.out).1
  have HZX1:Hid (X1.heap[w.heap.size]? = some (.cells #[.bool false,.int .i64 0,.slice none 0 0,.bool false,.int .i64 0,.bool false,.bool false,.bool false,.int .i64 0] 56 (0,0))):=Lib.hid (by
    rw [HX1.out]
    refine (Below.heap_setCell _ _ _ _ (by show w.heap.size ≠ vb;exact hzv)).trans ?_
    refine HO6.out.at_ ((HL5.out.block w.heap.size hwl).trans HZc.out) (fun e => ?_)
    have:=hlo w.heap.size e.symm
    omega)
  have hwc:wcells (ds ++ [y]) = wcells ds ++ [.int .u32 y]:=by unfold wcells;simp
  have KN:Hid (∀ g,Value.ownBlock (.slice a' (ds.length + 1) cp') = some g → ¬ g = vb):=Lib.hid (fun g hg e => by
    subst e
    obtain ⟨cs,hc⟩:=HOW6.out.typed _ hg
    have q:=HV6.out
    rw [hc] at q;injection q with q3;injection q3 with q4 q5;exact absurd q5 (by decide))
  have KZ:Hid (∀ g,Value.ownBlock (.slice a' (ds.length + 1) cp') = some g → ¬ g = w.heap.size):=Lib.hid (fun g hg e => by
    rcases HFR.out g hg with h | h
    · have:=hlo g h;omega
    · omega)
  have KF:Hid (∀ g,Value.ownBlock (.slice a' (ds.length + 1) cp') = some g → Value.ownBlock (.slice A ds.length cap) = some g ∨ w.heap.size ≤ g):=Lib.hid (fun g hg => (HFR.out g hg).imp id (fun h => by omega))
  have HRX1:=Lib.hid (HOW6.out.kept (show Only (fun k => k = vb) w6 X1 from by rw [HX1.out];exact Only.setCell w6 ⟨vb,8,none⟩ _) KN.out)
  have u8:X1.cell? ⟨vb,8,none⟩ = some (.slice a' (ds.length + 1) cp'):=cell_blk HVX1.out rfl
  have u12:X1.cell? ⟨vb,12,none⟩ = some (.int .i64 len):=cell_blk HVX1.out rfl
  have hsd:(Tryz.prog.info? 56).map (·.size) = some (didV false 0 (.slice none 0 0) false (false) false (0):Array Value).size:=did_size
  skip
  clear q8' f8' q9' qy' hs5 hs0 hlo hwl x8 x9 yc
  go_wp2
  refine wp_region_held_drew (S:=(fun W' => W'.cell? ⟨vb,8,none⟩ = some (.slice a' (ds.length + 1) cp') ∧ W'.cell? ⟨vb,12,none⟩ = some (.int .i64 len))) (by kernel_rfl) (⟨u8,u12⟩) (fun hHeld => ?_)
  refine wpAnyH_take (i:=0) rfl (by kernel_rfl) (by kernel_rfl) (by kernel_rfl) (fun _ _ _ h => h) (Or.inl ⟨by rfl,by intro w hSw;(have z0:=hSw.1;have z1:=hSw.2;clear hSw);(go_simp <;> with_reducible rfl)⟩) (by assumption) ?_
  (try simp only [Act.put,List.setIfInBounds_toArray,List.set_cons_zero,List.set_cons_succ,List.getElem_toArray,List.getElem_cons_zero,List.getElem_cons_succ])
  refine wpAnyH_take (i:=1) rfl (by kernel_rfl) (by kernel_rfl) (by kernel_rfl) (fun _ _ _ h => h) (Or.inl ⟨by rfl,by intro w hSw;(have z0:=hSw.1;have z1:=hSw.2;clear hSw);(go_simp <;> with_reducible rfl)⟩) (by assumption) ?_
  (try simp only [Act.put,List.setIfInBounds_toArray,List.set_cons_zero,List.set_cons_succ,List.getElem_toArray,List.getElem_cons_zero,List.getElem_cons_succ])
  refine wpAnyH_take (i:=2) rfl (by kernel_rfl) (by kernel_rfl) (by kernel_rfl) (fun _ _ _ h => h) (Or.inl ⟨by rfl,by intro w hSw;(have z0:=hSw.1;have z1:=hSw.2;clear hSw);(go_simp <;> with_reducible rfl)⟩) (by assumption) ?_
  (try simp only [Act.put,List.setIfInBounds_toArray,List.set_cons_zero,List.set_cons_succ,List.getElem_toArray,List.getElem_cons_zero,List.getElem_cons_succ])
  refine wpAnyH_take (i:=3) rfl (by kernel_rfl) (by kernel_rfl) (by kernel_rfl) (fun _ _ _ h => h) (Or.inl ⟨by rfl,by intro w hSw;(have z0:=hSw.1;have z1:=hSw.2;clear hSw);(go_simp <;> with_reducible rfl)⟩) (by assumption) ?_
  (try simp only [Act.put,List.setIfInBounds_toArray,List.set_cons_zero,List.set_cons_succ,List.getElem_toArray,List.getElem_cons_zero,List.getElem_cons_succ])
  refine wpAnyH_take (i:=4) rfl (by kernel_rfl) (by kernel_rfl) (by kernel_rfl) (fun _ _ _ h => h) (Or.inl ⟨by rfl,by intro w hSw;(have z0:=hSw.1;have z1:=hSw.2;clear hSw);(go_simp <;> with_reducible rfl)⟩) (by assumption) ?_
  (try simp only [Act.put,List.setIfInBounds_toArray,List.set_cons_zero,List.set_cons_succ,List.getElem_toArray,List.getElem_cons_zero,List.getElem_cons_succ])
  refine wpAnyH_take (i:=5) rfl (by kernel_rfl) (by kernel_rfl) (by kernel_rfl) (fun _ _ _ h => h) (Or.inl ⟨by rfl,by intro w hSw;(have z0:=hSw.1;have z1:=hSw.2;clear hSw);(go_simp <;> with_reducible rfl)⟩) (by assumption) ?_
  (try simp only [Act.put,List.setIfInBounds_toArray,List.set_cons_zero,List.set_cons_succ,List.getElem_toArray,List.getElem_cons_zero,List.getElem_cons_succ])
  refine wpAnyH_take (i:=6) rfl (by kernel_rfl) (by kernel_rfl) (by kernel_rfl) (fun _ _ _ h => h) (Or.inl ⟨by rfl,by intro w hSw;(have z0:=hSw.1;have z1:=hSw.2;clear hSw);(go_simp <;> with_reducible rfl)⟩) (by assumption) ?_
  (try simp only [Act.put,List.setIfInBounds_toArray,List.set_cons_zero,List.set_cons_succ,List.getElem_toArray,List.getElem_cons_zero,List.getElem_cons_succ])
  refine wpAnyH_take (i:=7) rfl (by kernel_rfl) (by kernel_rfl) (by kernel_rfl) (fun _ _ _ h => h) (Or.inl ⟨by rfl,by intro w hSw;(have z0:=hSw.1;have z1:=hSw.2;clear hSw);(go_simp <;> with_reducible rfl)⟩) (by assumption) ?_
  (try simp only [Act.put,List.setIfInBounds_toArray,List.set_cons_zero,List.set_cons_succ,List.getElem_toArray,List.getElem_cons_zero,List.getElem_cons_succ])
  refine wpAnyH_take (i:=8) rfl (by kernel_rfl) (by kernel_rfl) (by kernel_rfl) (fun _ _ _ h => h) (Or.inl ⟨by rfl,by intro w hSw;(have z0:=hSw.1;have z1:=hSw.2;clear hSw);(go_simp <;> with_reducible rfl)⟩) (by assumption) ?_
  (try simp only [Act.put,List.setIfInBounds_toArray,List.set_cons_zero,List.set_cons_succ,List.getElem_toArray,List.getElem_cons_zero,List.getElem_cons_succ])
  refine wpAnyH_take (i:=9) rfl (by kernel_rfl) (by kernel_rfl) (by kernel_rfl) (fun _ _ _ h => h) (Or.inl ⟨by rfl,by intro w hSw;(have z0:=hSw.1;have z1:=hSw.2;clear hSw);(go_simp <;> with_reducible rfl)⟩) (by assumption) ?_
  (try simp only [Act.put,List.setIfInBounds_toArray,List.set_cons_zero,List.set_cons_succ,List.getElem_toArray,List.getElem_cons_zero,List.getElem_cons_succ])
  refine wpAnyH_done (by kernel_rfl) ?_ _
  obtain ⟨X,HX⟩:∃ u,Hid (u = X1.drew):=⟨_,rfl⟩
  have HOX:Hid (Only (New w.heap.size (fun j => j = vb ∨ Value.ownBlock (.slice A ds.length cap) = some j)) w X):=Lib.hid (by rw [HX.out];exact HOX1.out.drew)
  have HVX:Hid (X.heap[vb]? = some (.cells (vV c x k (false) ((.slice a' (ds.length + 1) cp')) (a) (p) (i) (len) (st) (mk)) 52 (0,0))):=Lib.hid (by rw [HX.out];exact HVX1.out)
  have HYX:=Lib.hid (show WordsAt X yb ws from by rw [HX.out];exact HYX1.out)
  have HZX:Hid (X.heap[w.heap.size]? = some (.cells #[.bool false,.int .i64 0,.slice none 0 0,.bool false,.int .i64 0,.bool false,.bool false,.bool false,.int .i64 0] 56 (0,0))):=Lib.hid (by rw [HX.out];exact HZX1.out)
  have HRX:=Lib.hid (HRX1.out.kept (show Only (fun k => k = vb) X1 X from by rw [HX.out];exact (Only.refl (fun k => k = vb) X1).drew) KN.out)
  clear u8 u12
  rw [← HX.out]
  have hth:=there_at (W:=X) HZX.out (n:=(didV false 0 (.slice none 0 0) false (false) false (0):Array Value).size) rfl
  go_wp2_with (first | (with_reducible refine wpList_store_mid (by kernel_rfl) _ _ _ rfl w.heap.size 0 (didV false 0 (.slice none 0 0) false (false) false (0)) (by kernel_rfl) (by kernel_rfl) hth hsd (by kernel_rfl) ?_))
  skip
  have hrg:=World.rangeAt_setCells_same (X) w.heap.size 0 [.bool false,.int .i64 0,.slice none 0 0,.bool false,.int .i64 0,.bool (false),.bool false,.bool false,.int .i64 (0)] (there_at (cs:=#[.bool false,.int .i64 0,.slice none 0 0,.bool false,.int .i64 0,.bool false,.bool false,.bool false,.int .i64 0]) (n:=9) (show (X).heap[w.heap.size]? = _ from HZX.out) rfl)
  (try simp only [Exit.inBlock,Exit.then])
  refine bodyPost_ret (results_cell_row rfl _ _ w.heap.size [.bool false,.int .i64 0,.slice none 0 0,.bool false,.int .i64 0,.bool (false),.bool false,.bool false,.int .i64 (0)] _ rfl hrg Tryz.underlying56 rfl did_size) rfl ?_
  obtain ⟨v1,v2⟩:=HH.out.fin2 (X:=X) (T:=(fun j => j = vb ∨ Value.ownBlock (.slice A ds.length cap) = some j)) HVX.out HYX.out HOX.out (fun k hk => by
    rcases hk with rfl | hk
    · exact HNE.out.2.1
    · exact HGB.out k hk) (fun hk => by
    rcases hk with hk | hk
    · exact hny hk.symm
    · exact HBY.out hk) [.bool false,.int .i64 0,.slice none 0 0,.bool false,.int .i64 0,.bool (false),.bool false,.bool false,.int .i64 (0)]
  refine ⟨_,rfl,v1,?_,KF.out,v2⟩
  (try rw [hwc])
  exact HRX.out.kept ((Only.refl (fun k => k = w.heap.size) X).trans (Only.sets (S:=fun j => j = w.heap.size) rfl [.bool false,.int .i64 0,.slice none 0 0,.bool false,.int .i64 0,.bool (false),.bool false,.bool false,.int .i64 (0)] 0 (Only.refl _ (X)))) KZ.out
theorem dread7_b (W w:World) (vb yb:Nat) (c:Cfg) (x:CfgAt) (k:Nat) (F:Fr) (ws:List Int) (A:Option Addr) (ds:List Int) (cap:Nat) (p i:Nat) (len st:Int) (mk:Bool) (now:Int) (h:VAt W w vb yb c x k F ws false (.slice A ds.length cap) (6 + (ds.length:Int)) p i len st mk) (hpi:p ≤ 1 ∧ i ≤ 1) (hnow:0 ≤ now ∧ now ≤ 1000000) (hst:0 ≤ st ∧ st ≤ 4294967295) (hdl:ds.length < F.n) (hr:(ds.length:Int) + 1 = len) (hrow:OwnsOff w 0 34 1 (.slice A ds.length cap) ds.length (wcells ds)) (hby:Value.ownBlock (.slice A ds.length cap) ≠ some yb) (hgb:∀ g,Value.ownBlock (.slice A ds.length cap) = some g → W.heap.size ≤ g):Calls Tryz.prog 39 #[.pointer (some ⟨vb,0,none⟩),.slice (some ⟨yb,0,none⟩) ws.length ws.length,.int .i64 now] w fun e w' => ∃ dv',e = .returned (.agg (didV true 0 dv' (decide (now - st ≤ F.per)) false false 0)) ∧ VAt W w' vb yb c x k F ws false dv' (-1) p i len st mk ∧ OwnsOff w' 0 34 1 dv' (ds.length + 1) (wcells (ds ++ [ws.getD (bufA F p i + 2 + ds.length) 0])) ∧ (∀ g,dv'.ownBlock = some g → Value.ownBlock (.slice A ds.length cap) = some g ∨ w.heap.size ≤ g) ∧ Only (fun j => j = vb ∨ Value.ownBlock (.slice A ds.length cap) = some j) w w':=by
  have hbin:=h.len.buf hpi.1 hpi.2
  have hmx:=h.len.max
  have hn2:=h.len.n2
  have hn1:=h.len.n1
  obtain ⟨T,hT⟩:∃ u,u = bufA F p i + 2 + ds.length:=⟨_,rfl⟩
  rw [← hT]
  obtain ⟨a,ha⟩:∃ u:Int,u = 6 + (ds.length:Int):=⟨_,rfl⟩
  rw [← ha] at h
  skip
  have eT:((bufA F p i:Nat):Int) + a - 4 = (T:Nat):=by omega
  have hTl:T < ws.length:=by omega
  have hab:6 ≤ a ∧ a ≤ 100000:=by omega
  have hTw:IntKind.i64.wrap (T:Int) = T:=IntWalk.i64_in _ (by omega)
  have hT1:IntKind.i64.wrap (((bufA F p i:Nat):Int) + a) = ((bufA F p i:Nat):Int) + a:=IntWalk.i64_in _ (by omega)
  have d1:(a == 1) = false:=beq_false_of_ne (by omega)
  have d2:(a == 2) = false:=beq_false_of_ne (by omega)
  have d3:(a == 3) = false:=beq_false_of_ne (by omega)
  have d4:(a == 4) = false:=beq_false_of_ne (by omega)
  have d5:(a == 5) = false:=beq_false_of_ne (by omega)
  have e1n:(((ds.length + 1:Nat):Int) == len) = true:=by rw [beq_iff_eq];push_cast;exact hr
  have e2n:((ds.length:Int) + 1 == len) = true:=by rw [beq_iff_eq];exact hr
  have hbm:ds.length ≤ 1000:=by omega
  clear hT ha hr
  obtain ⟨y,hv⟩:∃ u,ws.getD T 0 = u:=⟨_,rfl⟩
  rw [hv]
  have HV:=Lib.hid hv
  clear hv
  obtain ⟨i0,hi0,hz0,hz1,hz2⟩:=info_parts Tryz.infoW
  obtain ⟨b,o,y0,y1,y2,y3,y4,per,y6,e0,hlt,e1,hwf,hrw⟩:=h.cfg.rc.at7 h.wf.wc h.fr.lk
  have ew:=h.fr.per
  rw [row_at e1] at ew
  have ew:per = F.per:=ew
  have hlow:=h.fr.low
  rw [← ew] at hlow ⊢
  have hk1:(k:Int) < (c.chans.length:Int):=by have:=h.fr.lk;omega
  obtain ⟨z,hz⟩:∃ z,now - st = z:=⟨_,rfl⟩
  have hzw:IntKind.i64.wrap (now - st) = z:=by rw [hz];exact IntWalk.i64_in _ (by omega)
  obtain ⟨vb0,hvb⟩:∃ q:Bool,decide (z ≤ per) = q:=⟨_,rfl⟩
  rw [hz,hvb]
  have HROW:=Lib.hid (fun w' hb => (hrw w' hb).2.2.2.2.2.1)
  have HE0:=Lib.hid e0
  clear e1 hwf hrw ew hz e0 hlow
  have HBY:=Lib.hid hby;have HGB:=Lib.hid hgb;have HR0:=Lib.hid hrow;have HNE:=Lib.hid h.ne;have HB0:=Lib.hid h.below
  have hsd:(Tryz.prog.info? 56).map (·.size) = some (didV true 0 (.slice none 0 0) vb0 false false 0:Array Value).size:=did_size
  clear hsd
  have hzy:w.heap.size ≠ yb:=fun e => by have:=h.row.lt;omega
  have hzv:w.heap.size ≠ vb:=fun e => by have:=(Array.getElem?_eq_some_iff.1 h.blk).1;omega
  have hny:vb ≠ yb:=h.ne.1
  clear hrow hby hgb
  obtain ⟨W1,HW1,hsz,hO,hz⟩:=did_new w
  have hvl:vb < w.heap.size:=(Array.getElem?_eq_some_iff.1 h.blk).1
  have hyl:=h.row.lt
  have hV1:=hO.at_ h.blk (fun h => h)
  have hY1:=h.row.of (hO.block yb hyl (fun h => h))
  have hB1:Below W.heap.size W W1:=h.below.trans ⟨hO.os,hO.tape,hO.output,hO.size,fun j hj => hO.block j (by have:=h.below.size;omega) (fun h => h)⟩
  have hcW:CfgIn W1 W1.heap.size c x:=h.cfg.later hB1
  have HSRC:Hid (∀ d os,Calls Tryz.prog 55 #[.agg #[.slice x.pa c.parts.length x.pc,.slice x.ca c.chans.length x.cc,.int .i64 c.len0,.slice x.aa c.win0.length x.ac,.int .i64 c.len1,.slice x.ba c.win1.length x.bc],.int .i64 (k:Int)] (grow (redrawn W1 d) os) (fun e w'' => e = .returned (.agg #[.int .i64 (F.src:Int),.int .i64 (srcSpan c k).2]) ∧ ∃ p:Regrown,w'' = grow (redrawn W1 p.d) p.os)):=Lib.hid (fun d os => by
    have q:=rsource_b c x k (grow (redrawn W1 d) os) (hcW.later (below_regrown W1 d os)) h.wf h.few
    rw [h.fr.src] at q
    exact Calls.regrown_of q)
  have HBUF:Hid (∀ d os,Calls Tryz.prog 70 #[.agg #[.slice x.pa c.parts.length x.pc,.slice x.ca c.chans.length x.cc,.int .i64 c.len0,.slice x.aa c.win0.length x.ac,.int .i64 c.len1,.slice x.ba c.win1.length x.bc],.int .i64 (k:Int),.int .i64 (p:Int),.int .i64 (i:Int)] (grow (redrawn W1 d) os) (fun e w'' => e = .returned (.agg #[.int .i64 ((bufA F p i:Nat):Int),.int .i64 (bufSpan c k p i).2]) ∧ ∃ p:Regrown,w'' = grow (redrawn W1 p.d) p.os)):=Lib.hid (fun d os => by
    have q:=rbuffer_b c x k p i (grow (redrawn W1 d) os) (hcW.later (below_regrown W1 d os)) h.wf h.few
    rw [h.fr.buf p i hpi.1 hpi.2] at q
    exact Calls.regrown_of q)
  have hfs:=run_span0
  have q0:∀ rg:Regrown,(grow (redrawn W1 rg.d) rg.os).cell? ⟨vb,0,none⟩ = some (.slice x.pa c.parts.length x.pc):=fun rg => cell_regrown (cell_blk hV1 rfl) rg.d rg.os
  have q1:∀ rg:Regrown,(grow (redrawn W1 rg.d) rg.os).cell? ⟨vb,1,none⟩ = some (.slice x.ca c.chans.length x.cc):=fun rg => cell_regrown (cell_blk hV1 rfl) rg.d rg.os
  have q2:∀ rg:Regrown,(grow (redrawn W1 rg.d) rg.os).cell? ⟨vb,2,none⟩ = some (.int .i64 c.len0):=fun rg => cell_regrown (cell_blk hV1 rfl) rg.d rg.os
  have q3:∀ rg:Regrown,(grow (redrawn W1 rg.d) rg.os).cell? ⟨vb,3,none⟩ = some (.slice x.aa c.win0.length x.ac):=fun rg => cell_regrown (cell_blk hV1 rfl) rg.d rg.os
  have q4:∀ rg:Regrown,(grow (redrawn W1 rg.d) rg.os).cell? ⟨vb,4,none⟩ = some (.int .i64 c.len1):=fun rg => cell_regrown (cell_blk hV1 rfl) rg.d rg.os
  have q5:∀ rg:Regrown,(grow (redrawn W1 rg.d) rg.os).cell? ⟨vb,5,none⟩ = some (.slice x.ba c.win1.length x.bc):=fun rg => cell_regrown (cell_blk hV1 rfl) rg.d rg.os
  have q6:∀ rg:Regrown,(grow (redrawn W1 rg.d) rg.os).cell? ⟨vb,6,none⟩ = some (.int .i64 (k:Int)):=fun rg => cell_regrown (cell_blk hV1 rfl) rg.d rg.os
  have q8:∀ rg:Regrown,(grow (redrawn W1 rg.d) rg.os).cell? ⟨vb,8,none⟩ = some ((.slice A ds.length cap)):=fun rg => cell_regrown (cell_blk hV1 rfl) rg.d rg.os
  have q9:∀ rg:Regrown,(grow (redrawn W1 rg.d) rg.os).cell? ⟨vb,9,none⟩ = some (.int .i64 a):=fun rg => cell_regrown (cell_blk hV1 rfl) rg.d rg.os
  have q10:∀ rg:Regrown,(grow (redrawn W1 rg.d) rg.os).cell? ⟨vb,10,none⟩ = some (.int .i64 (p:Int)):=fun rg => cell_regrown (cell_blk hV1 rfl) rg.d rg.os
  have q11:∀ rg:Regrown,(grow (redrawn W1 rg.d) rg.os).cell? ⟨vb,11,none⟩ = some (.int .i64 (i:Int)):=fun rg => cell_regrown (cell_blk hV1 rfl) rg.d rg.os
  have q14:∀ rg:Regrown,(grow (redrawn W1 rg.d) rg.os).cell? ⟨vb,14,none⟩ = some (.bool mk):=fun rg => cell_regrown (cell_blk hV1 rfl) rg.d rg.os
  have hixl:T < ws.length:=by omega
  have hbc:=Below.refl W1.heap.size W1
  have hzl:w.heap.size < W1.heap.size:=(Array.getElem?_eq_some_iff.1 hz).1
  have HV1:=Lib.hid hV1;have HY1:=Lib.hid hY1;have HO:=Lib.hid hO;have HZ:=Lib.hid hz;have HH:=Lib.hid h;have HB1:=Lib.hid hB1
  clear hV1 hY1 hO hz hB1 hcW
  go_enter Tryz.func39,Tryz.ntmps39
  go_wp2_with (first | (rw [← HW1.out]) | (((first | with_reducible refine wpList_on hbc ?_ | with_reducible refine wp_on hbc (by kernel_rfl) (by kernel_rfl) ?_);(repeat (first | (go_big_quiet_want;(refine quiet_eqlT 117 _ _ _ rfl _ _ rfl rfl (eqS _ _ _ _ true (by simp)) (by kernel_rfl) ?_);go_big_quiet_on;(try simp only [Act.put,List.setIfInBounds_toArray,List.set_cons_zero,List.set_cons_succ])) | go_big_quiet_step (first | with_reducible exact HSRC.out _ _ | with_reducible exact HBUF.out _ _)));with_reducible refine wpQuiet_nil ?_;intro wc hbc;(try clear x8 x9 x12 g8 g9 g12 yc yf hVc hZc);have hVc:=(hbc.block vb (Array.getElem?_eq_some_iff.1 HV1.out).1).trans HV1.out;have x8:wc.cell? ⟨vb,8,none⟩ = some ((.slice A ds.length cap)):=cell_blk hVc rfl;have x9:wc.cell? ⟨vb,9,none⟩ = some (.int .i64 a):=cell_blk hVc rfl;have x12:wc.cell? ⟨vb,12,none⟩ = some (.int .i64 len):=cell_blk hVc rfl;have g8:wc.frozen? ⟨vb,8,none⟩ = false:=blk_frozen 8 hVc;have g9:wc.frozen? ⟨vb,9,none⟩ = false:=blk_frozen 9 hVc;have g12:wc.frozen? ⟨vb,12,none⟩ = false:=blk_frozen 12 hVc;have yc:wc.cell? ⟨yb,T,none⟩ = some (.int .u32 y):=yv_cell ((HY1.out.below hbc).cell hixl) HV.out;have yf:wc.frozen? ⟨yb,T,none⟩ = false:=(HY1.out.below hbc).frozen _;have hZc:=(hbc.block w.heap.size hzl).trans HZ.out)))
  have HVc:=Lib.hid hVc;have HYc:=Lib.hid (HY1.out.below hbc);have HZc:=Lib.hid hZc
  have HRc:=Lib.hid (HR0.out.kept (HO.out.trans (Only.of_below (S:=fun _ => False) hbc)) (fun _ _ h => h))
  have HOc:=Lib.hid (HO.out.trans (Only.of_below (S:=fun _ => False) hbc))
  clear hVc hZc g8 g9 g12 yf q0 q1 q2 q3 q4 q5 q6 q8 q9 q10 q11 q14 x12
  refine wp_region_till (fun W' => W'.cell? ⟨vb,8,none⟩ = some (.slice A ds.length cap) ∧ W'.cell? ⟨vb,9,none⟩ = some (.int .i64 a) ∧ W'.cell? ⟨yb,T,none⟩ = some (.int .u32 y)) 19 (by kernel_rfl) (by exact ⟨x8,x9,yc⟩) (fun hHeld => ?_)
  refine till_take (i:=0) rfl (by kernel_rfl) (by kernel_rfl) (by kernel_rfl) (fun _ _ _ h => h) (by kernel_rfl) (Or.inl ⟨by rfl,by intro w _;(go_simp <;> with_reducible rfl)⟩) (by assumption) ?_
  (try simp only [Act.put,List.setIfInBounds_toArray,List.set_cons_zero,List.set_cons_succ,List.getElem_toArray,List.getElem_cons_zero,List.getElem_cons_succ])
  refine till_take (i:=1) rfl (by kernel_rfl) (by kernel_rfl) (by kernel_rfl) (fun _ _ _ h => h) (by kernel_rfl) (Or.inl ⟨by rfl,by intro w _;(go_simp <;> with_reducible rfl)⟩) (by assumption) ?_
  (try simp only [Act.put,List.setIfInBounds_toArray,List.set_cons_zero,List.set_cons_succ,List.getElem_toArray,List.getElem_cons_zero,List.getElem_cons_succ])
  refine till_take (i:=2) rfl (by kernel_rfl) (by kernel_rfl) (by kernel_rfl) (fun _ _ _ h => h) (by kernel_rfl) (Or.inl ⟨by rfl,by intro w _;(go_simp <;> with_reducible rfl)⟩) (by assumption) ?_
  (try simp only [Act.put,List.setIfInBounds_toArray,List.set_cons_zero,List.set_cons_succ,List.getElem_toArray,List.getElem_cons_zero,List.getElem_cons_succ])
  refine till_take (i:=3) rfl (by kernel_rfl) (by kernel_rfl) (by kernel_rfl) (fun _ _ _ h => h) (by kernel_rfl) (Or.inl ⟨by rfl,by intro w _;(go_simp <;> with_reducible rfl)⟩) (by assumption) ?_
  (try simp only [Act.put,List.setIfInBounds_toArray,List.set_cons_zero,List.set_cons_succ,List.getElem_toArray,List.getElem_cons_zero,List.getElem_cons_succ])
  refine till_load (i:=4) rfl (by kernel_rfl) (by kernel_rfl) (by kernel_rfl) (fun _ _ _ h => h) (by kernel_rfl) (by kernel_rfl) (by kernel_rfl) (Or.inl ⟨by rfl,by intro w hSw;(have z0:=hSw.1;have z1:=hSw.2.1;have z2:=hSw.2.2);(go_simp <;> with_reducible rfl)⟩) (by assumption) ?_
  (try simp only [Act.put,List.setIfInBounds_toArray,List.set_cons_zero,List.set_cons_succ,List.getElem_toArray,List.getElem_cons_zero,List.getElem_cons_succ])
  refine till_take (i:=5) rfl (by kernel_rfl) (by kernel_rfl) (by kernel_rfl) (fun _ _ _ h => h) (by kernel_rfl) (Or.inl ⟨by rfl,by intro w _;(go_simp <;> with_reducible rfl)⟩) (by assumption) ?_
  (try simp only [Act.put,List.setIfInBounds_toArray,List.set_cons_zero,List.set_cons_succ,List.getElem_toArray,List.getElem_cons_zero,List.getElem_cons_succ])
  refine till_take (i:=6) rfl (by kernel_rfl) (by kernel_rfl) (by kernel_rfl) (fun _ _ _ h => h) (by kernel_rfl) (Or.inl ⟨by rfl,by intro w _;(go_simp <;> with_reducible rfl)⟩) (by assumption) ?_
  (try simp only [Act.put,List.setIfInBounds_toArray,List.set_cons_zero,List.set_cons_succ,List.getElem_toArray,List.getElem_cons_zero,List.getElem_cons_succ])
  refine till_take (i:=7) rfl (by kernel_rfl) (by kernel_rfl) (by kernel_rfl) (fun _ _ _ h => h) (by kernel_rfl) (Or.inl ⟨by rfl,by intro w _;(go_simp <;> with_reducible rfl)⟩) (by assumption) ?_
  (try simp only [Act.put,List.setIfInBounds_toArray,List.set_cons_zero,List.set_cons_succ,List.getElem_toArray,List.getElem_cons_zero,List.getElem_cons_succ])
  refine till_take (i:=8) rfl (by kernel_rfl) (by kernel_rfl) (by kernel_rfl) (fun _ _ _ h => h) (by kernel_rfl) (Or.inl ⟨by rfl,by intro w _;(go_simp <;> with_reducible rfl)⟩) (by assumption) ?_
  (try simp only [Act.put,List.setIfInBounds_toArray,List.set_cons_zero,List.set_cons_succ,List.getElem_toArray,List.getElem_cons_zero,List.getElem_cons_succ])
  refine till_take (i:=9) rfl (by kernel_rfl) (by kernel_rfl) (by kernel_rfl) (fun _ _ _ h => h) (by kernel_rfl) (Or.inl ⟨by rfl,by intro w _;(go_simp <;> with_reducible rfl)⟩) (by assumption) ?_
  (try simp only [Act.put,List.setIfInBounds_toArray,List.set_cons_zero,List.set_cons_succ,List.getElem_toArray,List.getElem_cons_zero,List.getElem_cons_succ])
  refine till_load (i:=10) rfl (by kernel_rfl) (by kernel_rfl) (by kernel_rfl) (fun _ _ _ h => h) (by kernel_rfl) (by kernel_rfl) (by kernel_rfl) (Or.inl ⟨by rfl,by intro w hSw;(have z0:=hSw.1;have z1:=hSw.2.1;have z2:=hSw.2.2);(go_simp <;> with_reducible rfl)⟩) (by assumption) ?_
  (try simp only [Act.put,List.setIfInBounds_toArray,List.set_cons_zero,List.set_cons_succ,List.getElem_toArray,List.getElem_cons_zero,List.getElem_cons_succ])
  refine till_take (i:=11) rfl (by kernel_rfl) (by kernel_rfl) (by kernel_rfl) (fun _ _ _ h => h) (by kernel_rfl) (Or.inl ⟨by rfl,by intro w _;(go_simp <;> with_reducible rfl)⟩) (by assumption) ?_
  (try simp only [Act.put,List.setIfInBounds_toArray,List.set_cons_zero,List.set_cons_succ,List.getElem_toArray,List.getElem_cons_zero,List.getElem_cons_succ])
  refine till_take (i:=12) rfl (by kernel_rfl) (by kernel_rfl) (by kernel_rfl) (fun _ _ _ h => h) (by kernel_rfl) (Or.inl ⟨by rfl,by intro w _;(go_simp <;> with_reducible rfl)⟩) (by assumption) ?_
  (try simp only [Act.put,List.setIfInBounds_toArray,List.set_cons_zero,List.set_cons_succ,List.getElem_toArray,List.getElem_cons_zero,List.getElem_cons_succ])
  refine till_take (i:=13) rfl (by kernel_rfl) (by kernel_rfl) (by kernel_rfl) (fun _ _ _ h => h) (by kernel_rfl) (Or.inl ⟨by rfl,by intro w _;(go_simp <;> with_reducible rfl)⟩) (by assumption) ?_
  (try simp only [Act.put,List.setIfInBounds_toArray,List.set_cons_zero,List.set_cons_succ,List.getElem_toArray,List.getElem_cons_zero,List.getElem_cons_succ])
  refine till_load (i:=14) rfl (by kernel_rfl) (by kernel_rfl) (by kernel_rfl) (fun _ _ _ h => h) (by kernel_rfl) (by kernel_rfl) (by kernel_rfl) (Or.inl ⟨by rfl,by intro w hSw;(have z0:=hSw.1;have z1:=hSw.2.1;have z2:=hSw.2.2);(go_simp <;> with_reducible rfl)⟩) (by assumption) ?_
  (try simp only [Act.put,List.setIfInBounds_toArray,List.set_cons_zero,List.set_cons_succ,List.getElem_toArray,List.getElem_cons_zero,List.getElem_cons_succ])
  refine till_one (i:=15) (by kernel_rfl) rfl (fun K hK => ?_)
  go_simp
  obtain ⟨w5,hw5⟩:∃ u,Hid (u = (wc.alloc (.cells #[.int .u32 y] 34)).drew):=⟨_,rfl⟩
  rw [← hw5.out]
  have hl5:Below wc.heap.size wc w5:=by rw [hw5.out];exact ((Below.refl wc.heap.size wc).alloc (Nat.le_refl _) _).drew
  have hE5:w5.heap[wc.heap.size]? = some (.cells #[.int .u32 y] 34 (0,0)):=by rw [hw5.out];exact heap_alloc_new wc _
  obtain ⟨g5,hg5⟩:∃ b,b = wc.heap.size:=⟨_,rfl⟩
  rw [← hg5] at hE5
  have HG5:=Lib.hid hg5
  (try simp only [← HG5.out])
  have HL5:=Lib.hid hl5
  have HR5:=Lib.hid (HRc.out.kept (Only.of_below (S:=fun _ => False) hl5) (fun _ _ h => h))
  have HV5:=Lib.hid ((hl5.block vb (Array.getElem?_eq_some_iff.1 HVc.out).1).trans HVc.out)
  have q8:w5.cell? ⟨vb,8,none⟩ = some (.slice A ds.length cap):=cell_blk HV5.out rfl
  have q9:w5.cell? ⟨vb,9,none⟩ = some (.int .i64 a):=cell_blk HV5.out rfl
  have qy:w5.cell? ⟨yb,T,none⟩ = some (.int .u32 y):=cell_of_blk yc (hl5.block yb (World.block_lt_of_cell? _ _ yc))
  clear hl5 hg5
  refine hK.out _ _ (by exact ⟨q8,q9,qy⟩) (fun hHeld => ?_)
  clear hK K
  (try simp only [Act.put,List.setIfInBounds_toArray,List.set_cons_zero,List.set_cons_succ,List.getElem_toArray,List.getElem_cons_zero,List.getElem_cons_succ])
  refine till_one (i:=16) (by kernel_rfl) rfl (fun K hK => ?_)
  refine step_append_off rfl _ _ 30 rfl 0 34 i0 (.int .u32 0) 1 4 Tryz.underlying30 hi0 hz0 hz1 hz2 rfl (by decide) _ ds.length (wcells ds) rfl HR5.out ⟨g5,0,none⟩ 1 1 [.int .u32 y] rfl rfl (news_block hE5) (by intro u hu;simp at hu;subst hu;rfl) (by unfold maxLen;omega) (by omega) (Nat.zero_le _) ?_
  intro v' w6 hown' hgr hfr
  have HO6:=Lib.hid (Only.of_grown hgr)
  have HOW6:=Lib.hid hown';have HFR:=Lib.hid hfr
  obtain ⟨a',cp',rfl,-,-⟩:=hown'.slice
  have HV6:=Lib.hid (HO6.out.at_ HV5.out (fun e => by obtain ⟨cs,hc⟩:=HR5.out.typed vb e.symm;have q:=HV5.out;rw [hc] at q;injection q with q3;injection q3 with q4 q5;exact absurd q5 (by decide)))
  have HY6:=Lib.hid ((HYc.out.of (HL5.out.block yb HYc.out.lt)).of (HO6.out.block yb (Nat.lt_of_lt_of_le HYc.out.lt HL5.out.size) (fun e => HBY.out e.symm)))
  have q8':w6.cell? ⟨vb,8,none⟩ = some (.slice A ds.length cap):=cell_blk HV6.out rfl
  have f8':=blk_frozen 8 HV6.out
  have q9':w6.cell? ⟨vb,9,none⟩ = some (.int .i64 a):=cell_blk HV6.out rfl
  have qy':w6.cell? ⟨yb,T,none⟩ = some (.int .u32 y):=yv_cell (HY6.out.cell hTl) HV.out
  clear hown' hgr hfr hE5 q8 q9 qy
  refine hK.out _ _ (by exact ⟨q8',q9',qy'⟩) (fun hHeld => ?_)
  clear hK K
  (try simp only [Act.put,List.setIfInBounds_toArray,List.set_cons_zero,List.set_cons_succ,List.getElem_toArray,List.getElem_cons_zero,List.getElem_cons_succ])
  refine till_take (i:=17) rfl (by kernel_rfl) (by kernel_rfl) (by kernel_rfl) (fun _ _ _ h => h) (by kernel_rfl) (Or.inl ⟨by rfl,by intro w _;(go_simp <;> with_reducible rfl)⟩) (by assumption) ?_
  (try simp only [Act.put,List.setIfInBounds_toArray,List.set_cons_zero,List.set_cons_succ,List.getElem_toArray,List.getElem_cons_zero,List.getElem_cons_succ])
  refine till_take (i:=18) rfl (by kernel_rfl) (by kernel_rfl) (by kernel_rfl) (fun _ _ _ h => h) (by kernel_rfl) (Or.inl ⟨by rfl,by intro w _;(go_simp <;> with_reducible rfl)⟩) (by assumption) ?_
  (try simp only [Act.put,List.setIfInBounds_toArray,List.set_cons_zero,List.set_cons_succ,List.getElem_toArray,List.getElem_cons_zero,List.getElem_cons_succ])
  clear hHeld
  refine till_last (by kernel_rfl) rfl (fun K hK => ?_)
  go_simp
  refine hK.out _ _ ?_
  clear hK K
  (try simp only [Act.put,List.setIfInBounds_toArray,List.set_cons_zero,List.set_cons_succ,List.getElem_toArray,List.getElem_cons_zero,List.getElem_cons_succ])
  refine till_done (by kernel_rfl) ?_ _
  obtain ⟨X1,HX1⟩:∃ u,Hid (u = w6.setCell ⟨vb,8,none⟩ (.slice a' (ds.length + 1) cp')):=⟨_,rfl⟩
  rw [← HX1.out]
  have hlo:∀ g,Value.ownBlock (.slice A ds.length cap) = some g → g < w.heap.size:=fun g hg => (HR0.out.lt g hg).2
  have hs5:=HL5.out.size
  have hs0:=HOc.out.size
  have HOX1:Hid (Only (New w.heap.size (fun j => j = vb ∨ Value.ownBlock (.slice A ds.length cap) = some j)) w X1):=Lib.hid (by
    rw [HX1.out]
    exact ((((HOc.out.mono (T:=New w.heap.size (fun j => j = vb ∨ Value.ownBlock (.slice A ds.length cap) = some j)) fun _ _ h => h.elim).trans (Only.of_below (S:=New w.heap.size (fun j => j = vb ∨ Value.ownBlock (.slice A ds.length cap) = some j)) HL5.out)).trans (HO6.out.mono fun k _ e => .inr (.inr e.symm))).set (p:=⟨vb,8,none⟩) (.inr (.inl rfl)) _))
  have HVX1:Hid (X1.heap[vb]? = some (.cells (vV c x k (false) ((.slice a' (ds.length + 1) cp')) (a) (p) (i) (len) (st) (mk)) 52 (0,0))):=Lib.hid (by rw [HX1.out];exact vset8 HV6.out _)
  have HYX1:=Lib.hid (show WordsAt X1 yb ws from by rw [HX1.out];exact HY6.out.of (Below.heap_setCell _ _ _ _ (by show yb ≠ vb;exact hny.symm)))
  have hwl:w.heap.size < wc.heap.size:=(Array.getElem?_eq_some_iff.1 HZc.out).1
  have HZX1:Hid (X1.heap[w.heap.size]? = some (.cells #[.bool false,.int .i64 0,.slice none 0 0,.bool false,.int .i64 0,.bool false,.bool false,.bool false,.int .i64 0] 56 (0,0))):=Lib.hid (by
    rw [HX1.out]
    refine (Below.heap_setCell _ _ _ _ (by show w.heap.size ≠ vb;exact hzv)).trans ?_
    refine HO6.out.at_ ((HL5.out.block w.heap.size hwl).trans HZc.out) (fun e => ?_)
    have:=hlo w.heap.size e.symm
    omega)
  have hwc:wcells (ds ++ [y]) = wcells ds ++ [.int .u32 y]:=by unfold wcells;simp
  have KN:Hid (∀ g,Value.ownBlock (.slice a' (ds.length + 1) cp') = some g → ¬ g = vb):=Lib.hid (fun g hg e => by
    subst e
    obtain ⟨cs,hc⟩:=HOW6.out.typed _ hg
    have q:=HV6.out
    rw [hc] at q;injection q with q3;injection q3 with q4 q5;exact absurd q5 (by decide))
  have KZ:Hid (∀ g,Value.ownBlock (.slice a' (ds.length + 1) cp') = some g → ¬ g = w.heap.size):=Lib.hid (fun g hg e => by
    rcases HFR.out g hg with h | h
    · have:=hlo g h;omega
    · omega)
  have KF:Hid (∀ g,Value.ownBlock (.slice a' (ds.length + 1) cp') = some g → Value.ownBlock (.slice A ds.length cap) = some g ∨ w.heap.size ≤ g):=Lib.hid (fun g hg => (HFR.out g hg).imp id (fun h => by omega))
  have HRX1:=Lib.hid (HOW6.out.kept (show Only (fun k => k = vb) w6 X1 from by rw [HX1.out];exact Only.setCell w6 ⟨vb,8,none⟩ _) KN.out)
  have u8:X1.cell? ⟨vb,8,none⟩ = some (.slice a' (ds.length + 1) cp'):=cell_blk HVX1.out rfl
  have u12:X1.cell? ⟨vb,12,none⟩ = some (.int .i64 len):=cell_blk HVX1.out rfl
  have hsd:(Tryz.prog.info? 56).map (·.size) = some (didV true 0 (.slice a' (ds.length + 1) cp') vb0 false false 0:Array Value).size:=did_size
  have hzvX:w.heap.size ≠ vb:=hzv
  have hzbX:w.heap.size ≠ b:=by have:=HB0.out.size;omega
  clear q8' f8' q9' qy' hs5 hs0 hlo hwl x8 x9 yc
  go_wp2
  refine wp_region_held_drew (S:=(fun W' => W'.cell? ⟨vb,8,none⟩ = some (.slice a' (ds.length + 1) cp') ∧ W'.cell? ⟨vb,12,none⟩ = some (.int .i64 len))) (by kernel_rfl) (⟨u8,u12⟩) (fun hHeld => ?_)
  refine wpAnyH_take (i:=0) rfl (by kernel_rfl) (by kernel_rfl) (by kernel_rfl) (fun _ _ _ h => h) (Or.inl ⟨by rfl,by intro w hSw;(have z0:=hSw.1;have z1:=hSw.2;clear hSw);(go_simp <;> with_reducible rfl)⟩) (by assumption) ?_
  (try simp only [Act.put,List.setIfInBounds_toArray,List.set_cons_zero,List.set_cons_succ,List.getElem_toArray,List.getElem_cons_zero,List.getElem_cons_succ])
  refine wpAnyH_take (i:=1) rfl (by kernel_rfl) (by kernel_rfl) (by kernel_rfl) (fun _ _ _ h => h) (Or.inl ⟨by rfl,by intro w hSw;(have z0:=hSw.1;have z1:=hSw.2;clear hSw);(go_simp <;> with_reducible rfl)⟩) (by assumption) ?_
  (try simp only [Act.put,List.setIfInBounds_toArray,List.set_cons_zero,List.set_cons_succ,List.getElem_toArray,List.getElem_cons_zero,List.getElem_cons_succ])
  refine wpAnyH_take (i:=2) rfl (by kernel_rfl) (by kernel_rfl) (by kernel_rfl) (fun _ _ _ h => h) (Or.inl ⟨by rfl,by intro w hSw;(have z0:=hSw.1;have z1:=hSw.2;clear hSw);(go_simp <;> with_reducible rfl)⟩) (by assumption) ?_
  (try simp only [Act.put,List.setIfInBounds_toArray,List.set_cons_zero,List.set_cons_succ,List.getElem_toArray,List.getElem_cons_zero,List.getElem_cons_succ])
  refine wpAnyH_take (i:=3) rfl (by kernel_rfl) (by kernel_rfl) (by kernel_rfl) (fun _ _ _ h => h) (Or.inl ⟨by rfl,by intro w hSw;(have z0:=hSw.1;have z1:=hSw.2;clear hSw);(go_simp <;> with_reducible rfl)⟩) (by assumption) ?_
  (try simp only [Act.put,List.setIfInBounds_toArray,List.set_cons_zero,List.set_cons_succ,List.getElem_toArray,List.getElem_cons_zero,List.getElem_cons_succ])
  refine wpAnyH_take (i:=4) rfl (by kernel_rfl) (by kernel_rfl) (by kernel_rfl) (fun _ _ _ h => h) (Or.inl ⟨by rfl,by intro w hSw;(have z0:=hSw.1;have z1:=hSw.2;clear hSw);(go_simp <;> with_reducible rfl)⟩) (by assumption) ?_
  (try simp only [Act.put,List.setIfInBounds_toArray,List.set_cons_zero,List.set_cons_succ,List.getElem_toArray,List.getElem_cons_zero,List.getElem_cons_succ])
  refine wpAnyH_take (i:=5) rfl (by kernel_rfl) (by kernel_rfl) (by kernel_rfl) (fun _ _ _ h => h) (Or.inl ⟨by rfl,by intro w hSw;(have z0:=hSw.1;have z1:=hSw.2;clear hSw);(go_simp <;> with_reducible rfl)⟩) (by assumption) ?_
  (try simp only [Act.put,List.setIfInBounds_toArray,List.set_cons_zero,List.set_cons_succ,List.getElem_toArray,List.getElem_cons_zero,List.getElem_cons_succ])
  refine wpAnyH_take (i:=6) rfl (by kernel_rfl) (by kernel_rfl) (by kernel_rfl) (fun _ _ _ h => h) (Or.inl ⟨by rfl,by intro w hSw;(have z0:=hSw.1;have z1:=hSw.2;clear hSw);(go_simp <;> with_reducible rfl)⟩) (by assumption) ?_
  (try simp only [Act.put,List.setIfInBounds_toArray,List.set_cons_zero,List.set_cons_succ,List.getElem_toArray,List.getElem_cons_zero,List.getElem_cons_succ])
  refine wpAnyH_take (i:=7) rfl (by kernel_rfl) (by kernel_rfl) (by kernel_rfl) (fun _ _ _ h => h) (Or.inl ⟨by rfl,by intro w hSw;(have z0:=hSw.1;have z1:=hSw.2;clear hSw);(go_simp <;> with_reducible rfl)⟩) (by assumption) ?_
  (try simp only [Act.put,List.setIfInBounds_toArray,List.set_cons_zero,List.set_cons_succ,List.getElem_toArray,List.getElem_cons_zero,List.getElem_cons_succ])
  refine wpAnyH_take (i:=8) rfl (by kernel_rfl) (by kernel_rfl) (by kernel_rfl) (fun _ _ _ h => h) (Or.inl ⟨by rfl,by intro w hSw;(have z0:=hSw.1;have z1:=hSw.2;clear hSw);(go_simp <;> with_reducible rfl)⟩) (by assumption) ?_
  (try simp only [Act.put,List.setIfInBounds_toArray,List.set_cons_zero,List.set_cons_succ,List.getElem_toArray,List.getElem_cons_zero,List.getElem_cons_succ])
  refine wpAnyH_take (i:=9) rfl (by kernel_rfl) (by kernel_rfl) (by kernel_rfl) (fun _ _ _ h => h) (Or.inl ⟨by rfl,by intro w hSw;(have z0:=hSw.1;have z1:=hSw.2;clear hSw);(go_simp <;> with_reducible rfl)⟩) (by assumption) ?_
  (try simp only [Act.put,List.setIfInBounds_toArray,List.set_cons_zero,List.set_cons_succ,List.getElem_toArray,List.getElem_cons_zero,List.getElem_cons_succ])
  refine wpAnyH_done (by kernel_rfl) ?_ _
  have u9:X1.drew.cell? ⟨vb,9,none⟩ = some (.int .i64 a):=cell_blk (W:=X1.drew) HVX1.out rfl
  have h9:=blk_frozen (W:=X1.drew) 9 HVX1.out
  obtain ⟨X,HX⟩:∃ u,Hid (u = X1.setCell ⟨vb,9,none⟩ (.int .i64 (-1))):=⟨_,rfl⟩
  have HOX:Hid (Only (New w.heap.size (fun j => j = vb ∨ Value.ownBlock (.slice A ds.length cap) = some j)) w X):=Lib.hid (by rw [HX.out];exact HOX1.out.set (p:=⟨vb,9,none⟩) (.inr (.inl rfl)) _)
  have HVX:Hid (X.heap[vb]? = some (.cells (vV c x k (false) ((.slice a' (ds.length + 1) cp')) ((-1)) (p) (i) (len) (st) (mk)) 52 (0,0))):=Lib.hid (by rw [HX.out];exact vset9 HVX1.out (-1))
  have HYX:=Lib.hid (show WordsAt X yb ws from by rw [HX.out];exact HYX1.out.of (Below.heap_setCell _ _ _ _ (by show yb ≠ vb;exact hny.symm)))
  have HZX:Hid (X.heap[w.heap.size]? = some (.cells #[.bool false,.int .i64 0,.slice none 0 0,.bool false,.int .i64 0,.bool false,.bool false,.bool false,.int .i64 0] 56 (0,0))):=Lib.hid (by rw [HX.out];exact (Below.heap_setCell _ _ _ _ (by show w.heap.size ≠ vb;exact hzv)).trans HZX1.out)
  have HRX:=Lib.hid (HRX1.out.kept (show Only (fun k => k = vb) X1 X from by rw [HX.out];exact (Only.refl (fun k => k = vb) X1).set (p:=⟨vb,9,none⟩) rfl _) KN.out)
  clear u8 u12
  go_wp2_with (rw [← HX.out])
  clear u9 h9
  have s8:X.cell? ⟨vb,8,none⟩ = some (.slice a' (ds.length + 1) cp'):=cell_blk HVX.out rfl
  have s13:X.cell? ⟨vb,13,none⟩ = some (.int .i64 st):=cell_blk HVX.out rfl
  have s1:X.cell? ⟨vb,1,none⟩ = some (.slice (some ⟨b,o,none⟩) c.chans.length x.cc):=by rw [← HE0.out];exact cell_blk HVX.out rfl
  have s6:X.cell? ⟨vb,6,none⟩ = some (.int .i64 (k:Int)):=cell_blk HVX.out rfl
  have sb:X.cell? ⟨b,o + k * 7 + 5,none⟩ = some (.int .i64 per):=HROW.out X (HB0.out.trans ⟨HOX.out.os,HOX.out.tape,HOX.out.output,HOX.out.size,fun j hj => HOX.out.block j (Nat.lt_of_lt_of_le hj HB0.out.size) (fun e => by
    have hne:=HNE.out;have hgb:=HGB.out
    rcases e with e | e | e
    · have:=HB0.out.size;omega
    · omega
    · have:=hgb j e;omega)⟩)
  have hth:=there_at (W:=X) HZX.out (n:=(didV true 0 (.slice a' (ds.length + 1) cp') vb0 false false 0:Array Value).size) rfl
  refine wp_region_held_drew (S:=(fun W' => W'.cell? ⟨vb,8,none⟩ = some (.slice a' (ds.length + 1) cp') ∧ W'.cell? ⟨vb,13,none⟩ = some (.int .i64 st) ∧ W'.cell? ⟨vb,1,none⟩ = some (.slice (some ⟨b,o,none⟩) c.chans.length x.cc) ∧ W'.cell? ⟨vb,6,none⟩ = some (.int .i64 (k:Int)) ∧ W'.cell? ⟨b,o + k * 7 + 5,none⟩ = some (.int .i64 per))) (by kernel_rfl) (⟨s8,s13,s1,s6,sb⟩) (fun hHeld => ?_)
  refine wpAnyH_take (i:=0) rfl (by kernel_rfl) (by kernel_rfl) (by kernel_rfl) (fun _ _ _ h => h) (Or.inl ⟨by rfl,by intro w hSw;(have z0:=hSw.1;have z1:=hSw.2.1;have z2:=hSw.2.2.1;have z3:=hSw.2.2.2.1;have z4:=hSw.2.2.2.2;clear hSw);(go_simp <;> with_reducible rfl)⟩) (by assumption) ?_
  (try simp only [Act.put,List.setIfInBounds_toArray,List.set_cons_zero,List.set_cons_succ,List.getElem_toArray,List.getElem_cons_zero,List.getElem_cons_succ])
  refine wpAnyH_take (i:=1) rfl (by kernel_rfl) (by kernel_rfl) (by kernel_rfl) (fun _ _ _ h => h) (Or.inl ⟨by rfl,by intro w hSw;(have z0:=hSw.1;have z1:=hSw.2.1;have z2:=hSw.2.2.1;have z3:=hSw.2.2.2.1;have z4:=hSw.2.2.2.2;clear hSw);(go_simp <;> with_reducible rfl)⟩) (by assumption) ?_
  (try simp only [Act.put,List.setIfInBounds_toArray,List.set_cons_zero,List.set_cons_succ,List.getElem_toArray,List.getElem_cons_zero,List.getElem_cons_succ])
  refine wpAnyH_take (i:=2) rfl (by kernel_rfl) (by kernel_rfl) (by kernel_rfl) (fun _ _ _ h => h) (Or.inl ⟨by rfl,by intro w hSw;(have z0:=hSw.1;have z1:=hSw.2.1;have z2:=hSw.2.2.1;have z3:=hSw.2.2.2.1;have z4:=hSw.2.2.2.2;clear hSw);(go_simp <;> with_reducible rfl)⟩) (by assumption) ?_
  (try simp only [Act.put,List.setIfInBounds_toArray,List.set_cons_zero,List.set_cons_succ,List.getElem_toArray,List.getElem_cons_zero,List.getElem_cons_succ])
  refine wpAnyH_take (i:=3) rfl (by kernel_rfl) (by kernel_rfl) (by kernel_rfl) (fun _ _ _ h => h) (Or.inl ⟨by rfl,by intro w hSw;(have z0:=hSw.1;have z1:=hSw.2.1;have z2:=hSw.2.2.1;have z3:=hSw.2.2.2.1;have z4:=hSw.2.2.2.2;clear hSw);(go_simp <;> with_reducible rfl)⟩) (by assumption) ?_
  (try simp only [Act.put,List.setIfInBounds_toArray,List.set_cons_zero,List.set_cons_succ,List.getElem_toArray,List.getElem_cons_zero,List.getElem_cons_succ])
  refine wpAnyH_take (i:=4) rfl (by kernel_rfl) (by kernel_rfl) (by kernel_rfl) (fun _ _ _ h => h) (Or.inl ⟨by rfl,by intro w hSw;(have z0:=hSw.1;have z1:=hSw.2.1;have z2:=hSw.2.2.1;have z3:=hSw.2.2.2.1;have z4:=hSw.2.2.2.2;clear hSw);(go_simp <;> with_reducible rfl)⟩) (by assumption) ?_
  (try simp only [Act.put,List.setIfInBounds_toArray,List.set_cons_zero,List.set_cons_succ,List.getElem_toArray,List.getElem_cons_zero,List.getElem_cons_succ])
  refine wpAnyH_take (i:=5) rfl (by kernel_rfl) (by kernel_rfl) (by kernel_rfl) (fun _ _ _ h => h) (Or.inl ⟨by rfl,by intro w hSw;(have z0:=hSw.1;have z1:=hSw.2.1;have z2:=hSw.2.2.1;have z3:=hSw.2.2.2.1;have z4:=hSw.2.2.2.2;clear hSw);(go_simp <;> with_reducible rfl)⟩) (by assumption) ?_
  (try simp only [Act.put,List.setIfInBounds_toArray,List.set_cons_zero,List.set_cons_succ,List.getElem_toArray,List.getElem_cons_zero,List.getElem_cons_succ])
  refine wpAnyH_take (i:=6) rfl (by kernel_rfl) (by kernel_rfl) (by kernel_rfl) (fun _ _ _ h => h) (Or.inl ⟨by rfl,by intro w hSw;(have z0:=hSw.1;have z1:=hSw.2.1;have z2:=hSw.2.2.1;have z3:=hSw.2.2.2.1;have z4:=hSw.2.2.2.2;clear hSw);(go_simp <;> with_reducible rfl)⟩) (by assumption) ?_
  (try simp only [Act.put,List.setIfInBounds_toArray,List.set_cons_zero,List.set_cons_succ,List.getElem_toArray,List.getElem_cons_zero,List.getElem_cons_succ])
  refine wpAnyH_take (i:=7) rfl (by kernel_rfl) (by kernel_rfl) (by kernel_rfl) (fun _ _ _ h => h) (Or.inl ⟨by rfl,by intro w hSw;(have z0:=hSw.1;have z1:=hSw.2.1;have z2:=hSw.2.2.1;have z3:=hSw.2.2.2.1;have z4:=hSw.2.2.2.2;clear hSw);(go_simp <;> with_reducible rfl)⟩) (by assumption) ?_
  (try simp only [Act.put,List.setIfInBounds_toArray,List.set_cons_zero,List.set_cons_succ,List.getElem_toArray,List.getElem_cons_zero,List.getElem_cons_succ])
  refine wpAnyH_take (i:=8) rfl (by kernel_rfl) (by kernel_rfl) (by kernel_rfl) (fun _ _ _ h => h) (Or.inl ⟨by rfl,by intro w hSw;(have z0:=hSw.1;have z1:=hSw.2.1;have z2:=hSw.2.2.1;have z3:=hSw.2.2.2.1;have z4:=hSw.2.2.2.2;clear hSw);(go_simp <;> with_reducible rfl)⟩) (by assumption) ?_
  (try simp only [Act.put,List.setIfInBounds_toArray,List.set_cons_zero,List.set_cons_succ,List.getElem_toArray,List.getElem_cons_zero,List.getElem_cons_succ])
  refine wpAnyH_take (i:=9) rfl (by kernel_rfl) (by kernel_rfl) (by kernel_rfl) (fun _ _ _ h => h) (Or.inl ⟨by rfl,by intro w hSw;(have z0:=hSw.1;have z1:=hSw.2.1;have z2:=hSw.2.2.1;have z3:=hSw.2.2.2.1;have z4:=hSw.2.2.2.2;clear hSw);(go_simp <;> with_reducible rfl)⟩) (by assumption) ?_
  (try simp only [Act.put,List.setIfInBounds_toArray,List.set_cons_zero,List.set_cons_succ,List.getElem_toArray,List.getElem_cons_zero,List.getElem_cons_succ])
  refine wpAnyH_take (i:=10) rfl (by kernel_rfl) (by kernel_rfl) (by kernel_rfl) (fun _ _ _ h => h) (Or.inl ⟨by rfl,by intro w hSw;(have z0:=hSw.1;have z1:=hSw.2.1;have z2:=hSw.2.2.1;have z3:=hSw.2.2.2.1;have z4:=hSw.2.2.2.2;clear hSw);(go_simp <;> with_reducible rfl)⟩) (by assumption) ?_
  (try simp only [Act.put,List.setIfInBounds_toArray,List.set_cons_zero,List.set_cons_succ,List.getElem_toArray,List.getElem_cons_zero,List.getElem_cons_succ])
  refine wpAnyH_take (i:=11) rfl (by kernel_rfl) (by kernel_rfl) (by kernel_rfl) (fun _ _ _ h => h) (Or.inl ⟨by rfl,by intro w hSw;(have z0:=hSw.1;have z1:=hSw.2.1;have z2:=hSw.2.2.1;have z3:=hSw.2.2.2.1;have z4:=hSw.2.2.2.2;clear hSw);(go_simp <;> with_reducible rfl)⟩) (by assumption) ?_
  (try simp only [Act.put,List.setIfInBounds_toArray,List.set_cons_zero,List.set_cons_succ,List.getElem_toArray,List.getElem_cons_zero,List.getElem_cons_succ])
  refine wpAnyH_take (i:=12) rfl (by kernel_rfl) (by kernel_rfl) (by kernel_rfl) (fun _ _ _ h => h) (Or.inl ⟨by rfl,by intro w hSw;(have z0:=hSw.1;have z1:=hSw.2.1;have z2:=hSw.2.2.1;have z3:=hSw.2.2.2.1;have z4:=hSw.2.2.2.2;clear hSw);(go_simp <;> with_reducible rfl)⟩) (by assumption) ?_
  (try simp only [Act.put,List.setIfInBounds_toArray,List.set_cons_zero,List.set_cons_succ,List.getElem_toArray,List.getElem_cons_zero,List.getElem_cons_succ])
  refine wpAnyH_take (i:=13) rfl (by kernel_rfl) (by kernel_rfl) (by kernel_rfl) (fun _ _ _ h => h) (Or.inl ⟨by rfl,by intro w hSw;(have z0:=hSw.1;have z1:=hSw.2.1;have z2:=hSw.2.2.1;have z3:=hSw.2.2.2.1;have z4:=hSw.2.2.2.2;clear hSw);(go_simp <;> with_reducible rfl)⟩) (by assumption) ?_
  (try simp only [Act.put,List.setIfInBounds_toArray,List.set_cons_zero,List.set_cons_succ,List.getElem_toArray,List.getElem_cons_zero,List.getElem_cons_succ])
  refine wpAnyH_take (i:=14) rfl (by kernel_rfl) (by kernel_rfl) (by kernel_rfl) (fun _ _ _ h => h) (Or.inl ⟨by rfl,by intro w hSw;(have z0:=hSw.1;have z1:=hSw.2.1;have z2:=hSw.2.2.1;have z3:=hSw.2.2.2.1;have z4:=hSw.2.2.2.2;clear hSw);(go_simp <;> with_reducible rfl)⟩) (by assumption) ?_
  (try simp only [Act.put,List.setIfInBounds_toArray,List.set_cons_zero,List.set_cons_succ,List.getElem_toArray,List.getElem_cons_zero,List.getElem_cons_succ])
  refine wpAnyH_take (i:=15) rfl (by kernel_rfl) (by kernel_rfl) (by kernel_rfl) (fun _ _ _ h => h) (Or.inl ⟨by rfl,by intro w hSw;(have z0:=hSw.1;have z1:=hSw.2.1;have z2:=hSw.2.2.1;have z3:=hSw.2.2.2.1;have z4:=hSw.2.2.2.2;clear hSw);(go_simp <;> with_reducible rfl)⟩) (by assumption) ?_
  (try simp only [Act.put,List.setIfInBounds_toArray,List.set_cons_zero,List.set_cons_succ,List.getElem_toArray,List.getElem_cons_zero,List.getElem_cons_succ])
  refine wpAnyH_take (i:=16) rfl (by kernel_rfl) (by kernel_rfl) (by kernel_rfl) (fun _ _ _ h => h) (Or.inl ⟨by rfl,by intro w hSw;(have z0:=hSw.1;have z1:=hSw.2.1;have z2:=hSw.2.2.1;have z3:=hSw.2.2.2.1;have z4:=hSw.2.2.2.2;clear hSw);(go_simp <;> with_reducible rfl)⟩) (by assumption) ?_
  (try simp only [Act.put,List.setIfInBounds_toArray,List.set_cons_zero,List.set_cons_succ,List.getElem_toArray,List.getElem_cons_zero,List.getElem_cons_succ])
  refine wpAnyH_take (i:=17) rfl (by kernel_rfl) (by kernel_rfl) (by kernel_rfl) (fun _ _ _ h => h) (Or.inl ⟨by rfl,by intro w hSw;(have z0:=hSw.1;have z1:=hSw.2.1;have z2:=hSw.2.2.1;have z3:=hSw.2.2.2.1;have z4:=hSw.2.2.2.2;clear hSw);(go_simp <;> with_reducible rfl)⟩) (by assumption) ?_
  (try simp only [Act.put,List.setIfInBounds_toArray,List.set_cons_zero,List.set_cons_succ,List.getElem_toArray,List.getElem_cons_zero,List.getElem_cons_succ])
  refine wpAnyH_take (i:=18) rfl (by kernel_rfl) (by kernel_rfl) (by kernel_rfl) (fun _ _ _ h => h) (Or.inl ⟨by rfl,by intro w hSw;(have z0:=hSw.1;have z1:=hSw.2.1;have z2:=hSw.2.2.1;have z3:=hSw.2.2.2.1;have z4:=hSw.2.2.2.2;clear hSw);(go_simp <;> with_reducible rfl)⟩) (by assumption) ?_
  (try simp only [Act.put,List.setIfInBounds_toArray,List.set_cons_zero,List.set_cons_succ,List.getElem_toArray,List.getElem_cons_zero,List.getElem_cons_succ])
  refine wpAnyH_take (i:=19) rfl (by kernel_rfl) (by kernel_rfl) (by kernel_rfl) (fun _ _ _ h => h) (Or.inl ⟨by rfl,by intro w hSw;(have z0:=hSw.1;have z1:=hSw.2.1;have z2:=hSw.2.2.1;have z3:=hSw.2.2.2.1;have z4:=hSw.2.2.2.2;clear hSw);(go_simp <;> with_reducible rfl)⟩) (by assumption) ?_
  (try simp only [Act.put,List.setIfInBounds_toArray,List.set_cons_zero,List.set_cons_succ,List.getElem_toArray,List.getElem_cons_zero,List.getElem_cons_succ])
  refine wpAnyH_take (i:=20) rfl (by kernel_rfl) (by kernel_rfl) (by kernel_rfl) (fun _ _ _ h => h) (Or.inl ⟨by rfl,by intro w hSw;(have z0:=hSw.1;have z1:=hSw.2.1;have z2:=hSw.2.2.1;have z3:=hSw.2.2.2.1;have z4:=hSw.2.2.2.2;clear hSw);(go_simp <;> with_reducible rfl)⟩) (by assumption) ?_
  (try simp only [Act.put,List.setIfInBounds_toArray,List.set_cons_zero,List.set_cons_succ,List.getElem_toArray,List.getElem_cons_zero,List.getElem_cons_succ])
  refine wpAnyH_take (i:=21) rfl (by kernel_rfl) (by kernel_rfl) (by kernel_rfl) (fun _ _ _ h => h) (Or.inl ⟨by rfl,by intro w hSw;(have z0:=hSw.1;have z1:=hSw.2.1;have z2:=hSw.2.2.1;have z3:=hSw.2.2.2.1;have z4:=hSw.2.2.2.2;clear hSw);(go_simp <;> with_reducible rfl)⟩) (by assumption) ?_
  (try simp only [Act.put,List.setIfInBounds_toArray,List.set_cons_zero,List.set_cons_succ,List.getElem_toArray,List.getElem_cons_zero,List.getElem_cons_succ])
  refine wpAnyH_take (i:=22) rfl (by kernel_rfl) (by kernel_rfl) (by kernel_rfl) (fun _ _ _ h => h) (Or.inl ⟨by rfl,by intro w hSw;(have z0:=hSw.1;have z1:=hSw.2.1;have z2:=hSw.2.2.1;have z3:=hSw.2.2.2.1;have z4:=hSw.2.2.2.2;clear hSw);(go_simp <;> with_reducible rfl)⟩) (by assumption) ?_
  (try simp only [Act.put,List.setIfInBounds_toArray,List.set_cons_zero,List.set_cons_succ,List.getElem_toArray,List.getElem_cons_zero,List.getElem_cons_succ])
  refine wpAnyH_take (i:=23) rfl (by kernel_rfl) (by kernel_rfl) (by kernel_rfl) (fun _ _ _ h => h) (Or.inl ⟨by rfl,by intro w hSw;(have z0:=hSw.1;have z1:=hSw.2.1;have z2:=hSw.2.2.1;have z3:=hSw.2.2.2.1;have z4:=hSw.2.2.2.2;clear hSw);(go_simp <;> with_reducible rfl)⟩) (by assumption) ?_
  (try simp only [Act.put,List.setIfInBounds_toArray,List.set_cons_zero,List.set_cons_succ,List.getElem_toArray,List.getElem_cons_zero,List.getElem_cons_succ])
  refine wpAnyH_take (i:=24) rfl (by kernel_rfl) (by kernel_rfl) (by kernel_rfl) (fun _ _ _ h => h) (Or.inl ⟨by rfl,by intro w hSw;(have z0:=hSw.1;have z1:=hSw.2.1;have z2:=hSw.2.2.1;have z3:=hSw.2.2.2.1;have z4:=hSw.2.2.2.2;clear hSw);(go_simp <;> with_reducible rfl)⟩) (by assumption) ?_
  (try simp only [Act.put,List.setIfInBounds_toArray,List.set_cons_zero,List.set_cons_succ,List.getElem_toArray,List.getElem_cons_zero,List.getElem_cons_succ])
  refine wpAnyH_ready (rs:=[25]) (by kernel_rfl) (by simp) (AllReadyH.cons rfl (fun K hK => ?_) AllReadyH.nil)
  rw [if_pos (by rfl)]
  refine wp_store_mid _ _ _ rfl w.heap.size 0 (didV true 0 (.slice a' (ds.length + 1) cp') vb0 false false 0) rfl rfl hth hsd (by kernel_rfl) ?_
  refine hK.out _ _ (keep5 hHeld hzvX hzbX) (fun hHeld => ?_)
  clear hK K
  (try simp only [Act.put,List.setIfInBounds_toArray,List.set_cons_zero,List.set_cons_succ,List.getElem_toArray,List.getElem_cons_zero,List.getElem_cons_succ])
  refine wpAnyH_done (by kernel_rfl) ?_ _
  go_wp2
  have hrg:=World.rangeAt_setCells_same (X.drew.drew) w.heap.size 0 [.bool true,.int .i64 0,.slice a' (ds.length + 1) cp',.bool vb0,.int .i64 0,.bool false,.bool false,.bool false,.int .i64 0] (there_at (cs:=#[.bool false,.int .i64 0,.slice none 0 0,.bool false,.int .i64 0,.bool false,.bool false,.bool false,.int .i64 0]) (n:=9) (show (X.drew.drew).heap[w.heap.size]? = _ from HZX.out) rfl)
  (try simp only [Exit.inBlock,Exit.then])
  refine bodyPost_ret (results_cell_row rfl _ _ w.heap.size [.bool true,.int .i64 0,.slice a' (ds.length + 1) cp',.bool vb0,.int .i64 0,.bool false,.bool false,.bool false,.int .i64 0] _ rfl hrg Tryz.underlying56 rfl did_size) rfl ?_
  obtain ⟨v1,v2⟩:=HH.out.fin2 (X:=X.drew.drew) (T:=(fun j => j = vb ∨ Value.ownBlock (.slice A ds.length cap) = some j)) HVX.out HYX.out HOX.out.drew.drew (fun k hk => by
    rcases hk with rfl | hk
    · exact HNE.out.2.1
    · exact HGB.out k hk) (fun hk => by
    rcases hk with hk | hk
    · exact hny hk.symm
    · exact HBY.out hk) [.bool true,.int .i64 0,.slice a' (ds.length + 1) cp',.bool vb0,.int .i64 0,.bool false,.bool false,.bool false,.int .i64 0]
  refine ⟨_,rfl,v1,?_,KF.out,v2⟩
  (try rw [hwc])
  exact HRX.out.kept ((Only.refl (fun k => k = w.heap.size) X).drew.drew.trans (Only.sets (S:=fun j => j = w.heap.size) rfl [.bool true,.int .i64 0,.slice a' (ds.length + 1) cp',.bool vb0,.int .i64 0,.bool false,.bool false,.bool false,.int .i64 0] 0 (Only.refl _ (X.drew.drew)))) KZ.out
end Go.Proofs.YtmhpcgcloojfbaaGreat
