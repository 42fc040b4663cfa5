/- Texts of the ring, joined, what is used of them. No condition but those in the statements. -/
import Derived.BigQuiet
import Derived.BigRegion
import Derived.Deep.MidRow
import Derived.Deep.RegionHeld3
import Derived.Deep.Upon
import Derived.IntWalk
import Derived.Test.YtjfolhkblbakiaaGreatDoorQTPu
import Derived.Test.YtjfolhkblbakiaaGreatDoorQgD
namespace Go.Proofs.YtjfolhkblbakiaaGreatDoor
open Go.RowKit Go.Sort
set_option linter.unusedVariables false
set_option linter.unusedSimpArgs false
set_option linter.unusedVariables false
set_option linter.unusedSimpArgs false
set_option maxRecDepth 100000
set_option maxHeartbeats 1600000
theorem tonceR_b (c:Cfg) (x:CfgAt) (sp:Int) (sn:Bool) (made valid:List Int) (ma va:Option Addr) (mc vc:Nat) (op port ad:Int) (da:Option Addr) (dn dc:Nat) (w:World) (hx:CfgIn w w.heap.size c x) (wx:CfgWf c) (lx:CfgFew c) (hs:SIn w made ma) (hv:SIn w valid va) (hp:(Lit.int .i64 port).wf = true) (had:(Lit.int .u64 ad).wf = true) (hdn:dn ≤ 1000000) (hT:TabsAt w) (z:Int) (hz:refusedN c sp sn made op port ad dn = z) (h0:z ≠ 0) :
    Calls Tryz.prog 43 #[.agg (cfgCells c x),.agg #[.int .i64 sp,.bool sn,.slice ma made.length mc,.slice va valid.length vc],.agg #[.int .i64 op,.int .i64 port,.int .u64 ad,.slice da dn dc]] w fun e w' => e = .returned (.tuple #[.agg #[.int .i64 z,.slice none 0 0,.bool false,.int .i64 0],.bool true]) ∧ Below w.heap.size w w':=by
  obtain ⟨Wc,HWc,hBc,hWs,bx⟩:=one_cbox w c x 29
  obtain ⟨pa,pc,ca,cc,aa,ac,ba,bc⟩:=x
  obtain ⟨Ws,HWs,hBs,hWss,sx⟩:=box_new Wc #[.int .i64 sp,.bool sn,.slice ma made.length mc,.slice va valid.length vc] 32
  obtain ⟨Wq,HWq,hBq,hWq,qx⟩:=box_new Ws #[.int .i64 op,.int .i64 port,.int .u64 ad,.slice da dn dc] 36
  obtain ⟨W,HW,hBa,hWa,ax⟩:=box_new Wq #[.int .i64 0,.slice none 0 0,.bool false,.int .i64 0] 42
  have hQ:=hBq.trans (hBa.mono hBq.size)
  have hSQ:=hBs.trans (hQ.mono hBs.size)
  have hB:=hBc.trans (hSQ.mono hBc.size)
  have BX:Hid (∀ w',Below W.heap.size W w' → Below Wc.heap.size Wc w'):=Lib.hid (fun w' h => hSQ.trans (h.mono hSQ.size))
  have SX:Hid (∀ w',Below W.heap.size W w' → w'.heap[Wc.heap.size]? = some (.cells #[.int .i64 sp,.bool sn,.slice ma made.length mc,.slice va valid.length vc] 32 (0,0))):=Lib.hid (fun w' h => sx _ (hQ.trans (h.mono hQ.size)))
  have QX:Hid (∀ w',Below W.heap.size W w' → w'.heap[Ws.heap.size]? = some (.cells #[.int .i64 op,.int .i64 port,.int .u64 ad,.slice da dn dc] 36 (0,0))):=Lib.hid (fun w' h => qx _ (hBa.trans (h.mono hBa.size)))
  have AX:Hid (∀ w',Below W.heap.size W w' → w'.heap[Wq.heap.size]? = some (.cells #[.int .i64 0,.slice none 0 0,.bool false,.int .i64 0] 42 (0,0))):=Lib.hid (fun w' h => ax _ h)
  have hAL:w.heap.size ≤ Wq.heap.size:=(hBc.trans ((hBs.trans (hBq.mono hBs.size)).mono hBc.size)).size
  have hAS:=hWa
  obtain ⟨sb,hsb⟩:∃ n,n = Wc.heap.size:=⟨_,rfl⟩
  obtain ⟨qb,hqb⟩:∃ n,n = Ws.heap.size:=⟨_,rfl⟩
  obtain ⟨ab,hab⟩:∃ n,n = Wq.heap.size:=⟨_,rfl⟩
  rw [← hsb] at SX
  rw [← hqb] at QX
  rw [← hab] at AX hAL hAS
  have HAL:=Lib.hid hAL;have HAS:=Lib.hid hAS
  have HSB:=Lib.hid hsb;have HQB:=Lib.hid hqb;have HAB:=Lib.hid hab;have HB:=Lib.hid hB;have CX:=Lib.hid bx
  have HXW:=Lib.hid (hx.later hB);have HSW:=Lib.hid (hs.later hB);have HVW:=Lib.hid (hv.later hB);have HTW:=Lib.hid (hT.later hB)
  simp only [cfgCells] at HWc ⊢
  clear hBc hWs bx hBs hWss sx hBq hWq qx hBa hWa ax hQ hSQ hB hAL hAS hsb hqb hab hx hs hv hT
  have HREF:=Lib.hid (prefused_is c ⟨pa,pc,ca,cc,aa,ac,ba,bc⟩ sp sn made ma mc va valid.length vc (op) port ad da dn dc z W HXW.out wx lx HSW.out hp had hdn HTW.out hz)
  simp only [cfgCells] at HREF
  obtain ⟨c0,c1,c2,c3,c4,c5⟩:=CX.out _ (BX.out _ (Below.refl _ _))
  have s0:W.cell? ⟨sb,0,none⟩ = some (.int .i64 sp):=cell_blk (SX.out _ (Below.refl _ _)) rfl
  have s1:W.cell? ⟨sb,1,none⟩ = some (.bool sn):=cell_blk (SX.out _ (Below.refl _ _)) rfl
  have s2:W.cell? ⟨sb,2,none⟩ = some (.slice ma made.length mc):=cell_blk (SX.out _ (Below.refl _ _)) rfl
  have s3:W.cell? ⟨sb,3,none⟩ = some (.slice va valid.length vc):=cell_blk (SX.out _ (Below.refl _ _)) rfl
  have q0:W.cell? ⟨qb,0,none⟩ = some (.int .i64 op):=cell_blk (QX.out _ (Below.refl _ _)) rfl
  have q1:W.cell? ⟨qb,1,none⟩ = some (.int .i64 port):=cell_blk (QX.out _ (Below.refl _ _)) rfl
  have q2:W.cell? ⟨qb,2,none⟩ = some (.int .u64 ad):=cell_blk (QX.out _ (Below.refl _ _)) rfl
  have q3:W.cell? ⟨qb,3,none⟩ = some (.slice da dn dc):=cell_blk (QX.out _ (Below.refl _ _)) rfl
  go_enter Tryz.func43,Tryz.ntmps43
  go_wp2_with (first | (rw [← HWc.out]) | (simp only [← HSB.out];rw [← HWs.out]) | (simp only [← HQB.out];rw [← HWq.out]) | (simp only [← HAB.out];rw [← HW.out]))
  refine HREF.out.mono ?_
  rintro e w5 ⟨rfl,hb5⟩
  clear c0 c1 c2 c3 c4 c5 s0 s1 s2 s3 q0 q1 q2 q3
  have HB5:=Lib.hid hb5
  obtain ⟨c0,c1,c2,c3,c4,c5⟩:=CX.out _ (BX.out _ hb5)
  have s0:w5.cell? ⟨sb,0,none⟩ = some (.int .i64 sp):=cell_blk (SX.out _ hb5) rfl
  have s1:w5.cell? ⟨sb,1,none⟩ = some (.bool sn):=cell_blk (SX.out _ hb5) rfl
  have s2:w5.cell? ⟨sb,2,none⟩ = some (.slice ma made.length mc):=cell_blk (SX.out _ hb5) rfl
  have s3:w5.cell? ⟨sb,3,none⟩ = some (.slice va valid.length vc):=cell_blk (SX.out _ hb5) rfl
  have q0:w5.cell? ⟨qb,0,none⟩ = some (.int .i64 op):=cell_blk (QX.out _ hb5) rfl
  have q1:w5.cell? ⟨qb,1,none⟩ = some (.int .i64 port):=cell_blk (QX.out _ hb5) rfl
  have q2:w5.cell? ⟨qb,2,none⟩ = some (.int .u64 ad):=cell_blk (QX.out _ hb5) rfl
  have q3:w5.cell? ⟨qb,3,none⟩ = some (.slice da dn dc):=cell_blk (QX.out _ hb5) rfl
  clear hb5
  have z1:(z != 0) = true:=by simpa using h0
  have z2:decide (z = 0) = false:=decide_eq_false h0
  clear h0 hz
  have hth:=there_blk (W:=w5) (AX.out _ HB5.out) (n:=(#[.int .i64 z,.slice none 0 0,.bool false,.int .i64 0]:Array Value).size) rfl
  have hsz:(Tryz.prog.info? 42).map (·.size) = some (#[.int .i64 z,.slice none 0 0,.bool false,.int .i64 0]:Array Value).size:=ans_size
  go_wp2_with (with_reducible refine wpList_store_mid (by kernel_rfl) _ _ _ rfl ab 0 #[.int .i64 z,.slice none 0 0,.bool false,.int .i64 0] (by kernel_rfl) (by kernel_rfl) hth hsz (by kernel_rfl) ?_)
  have hrg:=World.rangeAt_setCells_same w5 ab 0 (#[.int .i64 z,.slice none 0 0,.bool false,.int .i64 0]:Array Value).toList (by simpa using hth)
  (try simp only [Exit.inBlock,Exit.then])
  refine bodyPost_ret (results_mid_tmp rfl _ _ ab (#[.int .i64 z,.slice none 0 0,.bool false,.int .i64 0]:Array Value).toList _ rfl hrg Tryz.underlying42 rfl ans_size rfl) rfl ?_
  exact ⟨rfl,below_setCells _ _ _ (HB.out.trans ((HB5.out).mono HB.out.size)) HAL.out⟩
theorem tonce1_b (c:Cfg) (x:CfgAt) (sp:Int) (sn:Bool) (made valid:List Int) (ma va:Option Addr) (mc vc:Nat) (port ad:Int) (da:Option Addr) (dn dc:Nat) (w:World) (hx:CfgIn w w.heap.size c x) (wx:CfgWf c) (lx:CfgFew c) (hs:SIn w made ma) (hv:SIn w valid va) (hp:(Lit.int .i64 port).wf = true) (had:(Lit.int .u64 ad).wf = true) (hdn:dn ≤ 1000000) (hT:TabsAt w) (hz:refusedN c sp sn made 1 port ad dn = 0) :
    Calls Tryz.prog 43 #[.agg (cfgCells c x),.agg #[.int .i64 sp,.bool sn,.slice ma made.length mc,.slice va valid.length vc],.agg #[.int .i64 1,.int .i64 port,.int .u64 ad,.slice da dn dc]] w fun e w' => e = .returned (.tuple #[.agg #[.int .i64 0,.slice none 0 0,.bool false,.int .i64 0],.bool true]) ∧ Below w.heap.size w w':=by
  obtain ⟨Wc,HWc,hBc,hWs,bx⟩:=one_cbox w c x 29
  obtain ⟨pa,pc,ca,cc,aa,ac,ba,bc⟩:=x
  obtain ⟨Ws,HWs,hBs,hWss,sx⟩:=box_new Wc #[.int .i64 sp,.bool sn,.slice ma made.length mc,.slice va valid.length vc] 32
  obtain ⟨Wq,HWq,hBq,hWq,qx⟩:=box_new Ws #[.int .i64 1,.int .i64 port,.int .u64 ad,.slice da dn dc] 36
  obtain ⟨W,HW,hBa,hWa,ax⟩:=box_new Wq #[.int .i64 0,.slice none 0 0,.bool false,.int .i64 0] 42
  have hQ:=hBq.trans (hBa.mono hBq.size)
  have hSQ:=hBs.trans (hQ.mono hBs.size)
  have hB:=hBc.trans (hSQ.mono hBc.size)
  have BX:Hid (∀ w',Below W.heap.size W w' → Below Wc.heap.size Wc w'):=Lib.hid (fun w' h => hSQ.trans (h.mono hSQ.size))
  have SX:Hid (∀ w',Below W.heap.size W w' → w'.heap[Wc.heap.size]? = some (.cells #[.int .i64 sp,.bool sn,.slice ma made.length mc,.slice va valid.length vc] 32 (0,0))):=Lib.hid (fun w' h => sx _ (hQ.trans (h.mono hQ.size)))
  have QX:Hid (∀ w',Below W.heap.size W w' → w'.heap[Ws.heap.size]? = some (.cells #[.int .i64 1,.int .i64 port,.int .u64 ad,.slice da dn dc] 36 (0,0))):=Lib.hid (fun w' h => qx _ (hBa.trans (h.mono hBa.size)))
  have AX:Hid (∀ w',Below W.heap.size W w' → w'.heap[Wq.heap.size]? = some (.cells #[.int .i64 0,.slice none 0 0,.bool false,.int .i64 0] 42 (0,0))):=Lib.hid (fun w' h => ax _ h)
  have hAL:w.heap.size ≤ Wq.heap.size:=(hBc.trans ((hBs.trans (hBq.mono hBs.size)).mono hBc.size)).size
  have hAS:=hWa
  obtain ⟨sb,hsb⟩:∃ n,n = Wc.heap.size:=⟨_,rfl⟩
  obtain ⟨qb,hqb⟩:∃ n,n = Ws.heap.size:=⟨_,rfl⟩
  obtain ⟨ab,hab⟩:∃ n,n = Wq.heap.size:=⟨_,rfl⟩
  rw [← hsb] at SX
  rw [← hqb] at QX
  rw [← hab] at AX hAL hAS
  have HAL:=Lib.hid hAL;have HAS:=Lib.hid hAS
  have HSB:=Lib.hid hsb;have HQB:=Lib.hid hqb;have HAB:=Lib.hid hab;have HB:=Lib.hid hB;have CX:=Lib.hid bx
  have HXW:=Lib.hid (hx.later hB);have HSW:=Lib.hid (hs.later hB);have HVW:=Lib.hid (hv.later hB);have HTW:=Lib.hid (hT.later hB)
  simp only [cfgCells] at HWc ⊢
  clear hBc hWs bx hBs hWss sx hBq hWq qx hBa hWa ax hQ hSQ hB hAL hAS hsb hqb hab hx hs hv hT
  have HREF:=Lib.hid (prefused_is c ⟨pa,pc,ca,cc,aa,ac,ba,bc⟩ sp sn made ma mc va valid.length vc (1) port ad da dn dc 0 W HXW.out wx lx HSW.out hp had hdn HTW.out hz)
  simp only [cfgCells] at HREF
  obtain ⟨c0,c1,c2,c3,c4,c5⟩:=CX.out _ (BX.out _ (Below.refl _ _))
  have s0:W.cell? ⟨sb,0,none⟩ = some (.int .i64 sp):=cell_blk (SX.out _ (Below.refl _ _)) rfl
  have s1:W.cell? ⟨sb,1,none⟩ = some (.bool sn):=cell_blk (SX.out _ (Below.refl _ _)) rfl
  have s2:W.cell? ⟨sb,2,none⟩ = some (.slice ma made.length mc):=cell_blk (SX.out _ (Below.refl _ _)) rfl
  have s3:W.cell? ⟨sb,3,none⟩ = some (.slice va valid.length vc):=cell_blk (SX.out _ (Below.refl _ _)) rfl
  have q0:W.cell? ⟨qb,0,none⟩ = some (.int .i64 1):=cell_blk (QX.out _ (Below.refl _ _)) rfl
  have q1:W.cell? ⟨qb,1,none⟩ = some (.int .i64 port):=cell_blk (QX.out _ (Below.refl _ _)) rfl
  have q2:W.cell? ⟨qb,2,none⟩ = some (.int .u64 ad):=cell_blk (QX.out _ (Below.refl _ _)) rfl
  have q3:W.cell? ⟨qb,3,none⟩ = some (.slice da dn dc):=cell_blk (QX.out _ (Below.refl _ _)) rfl
  go_enter Tryz.func43,Tryz.ntmps43
  go_wp2_with (first | (rw [← HWc.out]) | (simp only [← HSB.out];rw [← HWs.out]) | (simp only [← HQB.out];rw [← HWq.out]) | (simp only [← HAB.out];rw [← HW.out]))
  refine HREF.out.mono ?_
  rintro e w5 ⟨rfl,hb5⟩
  clear c0 c1 c2 c3 c4 c5 s0 s1 s2 s3 q0 q1 q2 q3
  have HB5:=Lib.hid hb5
  obtain ⟨c0,c1,c2,c3,c4,c5⟩:=CX.out _ (BX.out _ hb5)
  have s0:w5.cell? ⟨sb,0,none⟩ = some (.int .i64 sp):=cell_blk (SX.out _ hb5) rfl
  have s1:w5.cell? ⟨sb,1,none⟩ = some (.bool sn):=cell_blk (SX.out _ hb5) rfl
  have s2:w5.cell? ⟨sb,2,none⟩ = some (.slice ma made.length mc):=cell_blk (SX.out _ hb5) rfl
  have s3:w5.cell? ⟨sb,3,none⟩ = some (.slice va valid.length vc):=cell_blk (SX.out _ hb5) rfl
  have q0:w5.cell? ⟨qb,0,none⟩ = some (.int .i64 1):=cell_blk (QX.out _ hb5) rfl
  have q1:w5.cell? ⟨qb,1,none⟩ = some (.int .i64 port):=cell_blk (QX.out _ hb5) rfl
  have q2:w5.cell? ⟨qb,2,none⟩ = some (.int .u64 ad):=cell_blk (QX.out _ hb5) rfl
  have q3:w5.cell? ⟨qb,3,none⟩ = some (.slice da dn dc):=cell_blk (QX.out _ hb5) rfl
  clear hb5
  clear hz
  have hth:=there_blk (W:=w5) (AX.out _ HB5.out) (n:=(#[.int .i64 0,.slice none 0 0,.bool false,.int .i64 0]:Array Value).size) rfl
  have hsz:(Tryz.prog.info? 42).map (·.size) = some (#[.int .i64 0,.slice none 0 0,.bool false,.int .i64 0]:Array Value).size:=ans_size
  go_wp2_with (with_reducible refine wpList_store_mid (by kernel_rfl) _ _ _ rfl ab 0 #[.int .i64 0,.slice none 0 0,.bool false,.int .i64 0] (by kernel_rfl) (by kernel_rfl) hth hsz (by kernel_rfl) ?_)
  have hrg:=World.rangeAt_setCells_same w5 ab 0 (#[.int .i64 0,.slice none 0 0,.bool false,.int .i64 0]:Array Value).toList (by simpa using hth)
  (try simp only [Exit.inBlock,Exit.then])
  refine bodyPost_ret (results_mid_tmp rfl _ _ ab (#[.int .i64 0,.slice none 0 0,.bool false,.int .i64 0]:Array Value).toList _ rfl hrg Tryz.underlying42 rfl ans_size rfl) rfl ?_
  exact ⟨rfl,below_setCells _ _ _ (HB.out.trans ((HB5.out).mono HB.out.size)) HAL.out⟩
theorem tonce2_b (c:Cfg) (x:CfgAt) (sp:Int) (sn:Bool) (made valid:List Int) (ma va:Option Addr) (mc vc:Nat) (port ad:Int) (da:Option Addr) (dn dc:Nat) (w:World) (hx:CfgIn w w.heap.size c x) (wx:CfgWf c) (lx:CfgFew c) (hs:SIn w made ma) (hv:SIn w valid va) (hp:(Lit.int .i64 port).wf = true) (had:(Lit.int .u64 ad).wf = true) (hdn:dn ≤ 1000000) (hT:TabsAt w) (hz:refusedN c sp sn made 2 port ad dn = 0) :
    Calls Tryz.prog 43 #[.agg (cfgCells c x),.agg #[.int .i64 sp,.bool sn,.slice ma made.length mc,.slice va valid.length vc],.agg #[.int .i64 2,.int .i64 port,.int .u64 ad,.slice da dn dc]] w fun e w' => e = .returned (.tuple #[.agg #[.int .i64 0,.slice none 0 0,.bool false,.int .i64 0],.bool true]) ∧ Below w.heap.size w w':=by
  obtain ⟨Wc,HWc,hBc,hWs,bx⟩:=one_cbox w c x 29
  obtain ⟨pa,pc,ca,cc,aa,ac,ba,bc⟩:=x
  obtain ⟨Ws,HWs,hBs,hWss,sx⟩:=box_new Wc #[.int .i64 sp,.bool sn,.slice ma made.length mc,.slice va valid.length vc] 32
  obtain ⟨Wq,HWq,hBq,hWq,qx⟩:=box_new Ws #[.int .i64 2,.int .i64 port,.int .u64 ad,.slice da dn dc] 36
  obtain ⟨W,HW,hBa,hWa,ax⟩:=box_new Wq #[.int .i64 0,.slice none 0 0,.bool false,.int .i64 0] 42
  have hQ:=hBq.trans (hBa.mono hBq.size)
  have hSQ:=hBs.trans (hQ.mono hBs.size)
  have hB:=hBc.trans (hSQ.mono hBc.size)
  have BX:Hid (∀ w',Below W.heap.size W w' → Below Wc.heap.size Wc w'):=Lib.hid (fun w' h => hSQ.trans (h.mono hSQ.size))
  have SX:Hid (∀ w',Below W.heap.size W w' → w'.heap[Wc.heap.size]? = some (.cells #[.int .i64 sp,.bool sn,.slice ma made.length mc,.slice va valid.length vc] 32 (0,0))):=Lib.hid (fun w' h => sx _ (hQ.trans (h.mono hQ.size)))
  have QX:Hid (∀ w',Below W.heap.size W w' → w'.heap[Ws.heap.size]? = some (.cells #[.int .i64 2,.int .i64 port,.int .u64 ad,.slice da dn dc] 36 (0,0))):=Lib.hid (fun w' h => qx _ (hBa.trans (h.mono hBa.size)))
  have AX:Hid (∀ w',Below W.heap.size W w' → w'.heap[Wq.heap.size]? = some (.cells #[.int .i64 0,.slice none 0 0,.bool false,.int .i64 0] 42 (0,0))):=Lib.hid (fun w' h => ax _ h)
  have hAL:w.heap.size ≤ Wq.heap.size:=(hBc.trans ((hBs.trans (hBq.mono hBs.size)).mono hBc.size)).size
  have hAS:=hWa
  obtain ⟨sb,hsb⟩:∃ n,n = Wc.heap.size:=⟨_,rfl⟩
  obtain ⟨qb,hqb⟩:∃ n,n = Ws.heap.size:=⟨_,rfl⟩
  obtain ⟨ab,hab⟩:∃ n,n = Wq.heap.size:=⟨_,rfl⟩
  rw [← hsb] at SX
  rw [← hqb] at QX
  rw [← hab] at AX hAL hAS
  have HAL:=Lib.hid hAL;have HAS:=Lib.hid hAS
  have HSB:=Lib.hid hsb;have HQB:=Lib.hid hqb;have HAB:=Lib.hid hab;have HB:=Lib.hid hB;have CX:=Lib.hid bx
  have HXW:=Lib.hid (hx.later hB);have HSW:=Lib.hid (hs.later hB);have HVW:=Lib.hid (hv.later hB);have HTW:=Lib.hid (hT.later hB)
  simp only [cfgCells] at HWc ⊢
  clear hBc hWs bx hBs hWss sx hBq hWq qx hBa hWa ax hQ hSQ hB hAL hAS hsb hqb hab hx hs hv hT
  have HREF:=Lib.hid (prefused_is c ⟨pa,pc,ca,cc,aa,ac,ba,bc⟩ sp sn made ma mc va valid.length vc (2) port ad da dn dc 0 W HXW.out wx lx HSW.out hp had hdn HTW.out hz)
  simp only [cfgCells] at HREF
  obtain ⟨c0,c1,c2,c3,c4,c5⟩:=CX.out _ (BX.out _ (Below.refl _ _))
  have s0:W.cell? ⟨sb,0,none⟩ = some (.int .i64 sp):=cell_blk (SX.out _ (Below.refl _ _)) rfl
  have s1:W.cell? ⟨sb,1,none⟩ = some (.bool sn):=cell_blk (SX.out _ (Below.refl _ _)) rfl
  have s2:W.cell? ⟨sb,2,none⟩ = some (.slice ma made.length mc):=cell_blk (SX.out _ (Below.refl _ _)) rfl
  have s3:W.cell? ⟨sb,3,none⟩ = some (.slice va valid.length vc):=cell_blk (SX.out _ (Below.refl _ _)) rfl
  have q0:W.cell? ⟨qb,0,none⟩ = some (.int .i64 2):=cell_blk (QX.out _ (Below.refl _ _)) rfl
  have q1:W.cell? ⟨qb,1,none⟩ = some (.int .i64 port):=cell_blk (QX.out _ (Below.refl _ _)) rfl
  have q2:W.cell? ⟨qb,2,none⟩ = some (.int .u64 ad):=cell_blk (QX.out _ (Below.refl _ _)) rfl
  have q3:W.cell? ⟨qb,3,none⟩ = some (.slice da dn dc):=cell_blk (QX.out _ (Below.refl _ _)) rfl
  go_enter Tryz.func43,Tryz.ntmps43
  go_wp2_with (first | (rw [← HWc.out]) | (simp only [← HSB.out];rw [← HWs.out]) | (simp only [← HQB.out];rw [← HWq.out]) | (simp only [← HAB.out];rw [← HW.out]))
  refine HREF.out.mono ?_
  rintro e w5 ⟨rfl,hb5⟩
  clear c0 c1 c2 c3 c4 c5 s0 s1 s2 s3 q0 q1 q2 q3
  have HB5:=Lib.hid hb5
  obtain ⟨c0,c1,c2,c3,c4,c5⟩:=CX.out _ (BX.out _ hb5)
  have s0:w5.cell? ⟨sb,0,none⟩ = some (.int .i64 sp):=cell_blk (SX.out _ hb5) rfl
  have s1:w5.cell? ⟨sb,1,none⟩ = some (.bool sn):=cell_blk (SX.out _ hb5) rfl
  have s2:w5.cell? ⟨sb,2,none⟩ = some (.slice ma made.length mc):=cell_blk (SX.out _ hb5) rfl
  have s3:w5.cell? ⟨sb,3,none⟩ = some (.slice va valid.length vc):=cell_blk (SX.out _ hb5) rfl
  have q0:w5.cell? ⟨qb,0,none⟩ = some (.int .i64 2):=cell_blk (QX.out _ hb5) rfl
  have q1:w5.cell? ⟨qb,1,none⟩ = some (.int .i64 port):=cell_blk (QX.out _ hb5) rfl
  have q2:w5.cell? ⟨qb,2,none⟩ = some (.int .u64 ad):=cell_blk (QX.out _ hb5) rfl
  have q3:w5.cell? ⟨qb,3,none⟩ = some (.slice da dn dc):=cell_blk (QX.out _ hb5) rfl
  clear hb5
  clear hz
  have hth:=there_blk (W:=w5) (AX.out _ HB5.out) (n:=(#[.int .i64 0,.slice none 0 0,.bool false,.int .i64 0]:Array Value).size) rfl
  have hsz:(Tryz.prog.info? 42).map (·.size) = some (#[.int .i64 0,.slice none 0 0,.bool false,.int .i64 0]:Array Value).size:=ans_size
  go_wp2_with (with_reducible refine wpList_store_mid (by kernel_rfl) _ _ _ rfl ab 0 #[.int .i64 0,.slice none 0 0,.bool false,.int .i64 0] (by kernel_rfl) (by kernel_rfl) hth hsz (by kernel_rfl) ?_)
  have hrg:=World.rangeAt_setCells_same w5 ab 0 (#[.int .i64 0,.slice none 0 0,.bool false,.int .i64 0]:Array Value).toList (by simpa using hth)
  (try simp only [Exit.inBlock,Exit.then])
  refine bodyPost_ret (results_mid_tmp rfl _ _ ab (#[.int .i64 0,.slice none 0 0,.bool false,.int .i64 0]:Array Value).toList _ rfl hrg Tryz.underlying42 rfl ans_size rfl) rfl ?_
  exact ⟨rfl,below_setCells _ _ _ (HB.out.trans ((HB5.out).mono HB.out.size)) HAL.out⟩
theorem tonce3_b (c:Cfg) (x:CfgAt) (sp:Int) (sn:Bool) (made valid:List Int) (ma va:Option Addr) (mc vc:Nat) (port ad:Int) (da:Option Addr) (dn dc:Nat) (w:World) (hx:CfgIn w w.heap.size c x) (wx:CfgWf c) (lx:CfgFew c) (hs:SIn w made ma) (hv:SIn w valid va) (hp:(Lit.int .i64 port).wf = true) (had:(Lit.int .u64 ad).wf = true) (hdn:dn ≤ 1000000) (hT:TabsAt w) (hz:refusedN c sp sn made 3 port ad dn = 0) :
    Calls Tryz.prog 43 #[.agg (cfgCells c x),.agg #[.int .i64 sp,.bool sn,.slice ma made.length mc,.slice va valid.length vc],.agg #[.int .i64 3,.int .i64 port,.int .u64 ad,.slice da dn dc]] w fun e w' => e = .returned (.tuple #[.agg #[.int .i64 0,.slice none 0 0,.bool false,.int .i64 0],.bool false]) ∧ Below w.heap.size w w':=by
  obtain ⟨Wc,HWc,hBc,hWs,bx⟩:=one_cbox w c x 29
  obtain ⟨pa,pc,ca,cc,aa,ac,ba,bc⟩:=x
  obtain ⟨Ws,HWs,hBs,hWss,sx⟩:=box_new Wc #[.int .i64 sp,.bool sn,.slice ma made.length mc,.slice va valid.length vc] 32
  obtain ⟨Wq,HWq,hBq,hWq,qx⟩:=box_new Ws #[.int .i64 3,.int .i64 port,.int .u64 ad,.slice da dn dc] 36
  obtain ⟨W,HW,hBa,hWa,ax⟩:=box_new Wq #[.int .i64 0,.slice none 0 0,.bool false,.int .i64 0] 42
  have hQ:=hBq.trans (hBa.mono hBq.size)
  have hSQ:=hBs.trans (hQ.mono hBs.size)
  have hB:=hBc.trans (hSQ.mono hBc.size)
  have BX:Hid (∀ w',Below W.heap.size W w' → Below Wc.heap.size Wc w'):=Lib.hid (fun w' h => hSQ.trans (h.mono hSQ.size))
  have SX:Hid (∀ w',Below W.heap.size W w' → w'.heap[Wc.heap.size]? = some (.cells #[.int .i64 sp,.bool sn,.slice ma made.length mc,.slice va valid.length vc] 32 (0,0))):=Lib.hid (fun w' h => sx _ (hQ.trans (h.mono hQ.size)))
  have QX:Hid (∀ w',Below W.heap.size W w' → w'.heap[Ws.heap.size]? = some (.cells #[.int .i64 3,.int .i64 port,.int .u64 ad,.slice da dn dc] 36 (0,0))):=Lib.hid (fun w' h => qx _ (hBa.trans (h.mono hBa.size)))
  have AX:Hid (∀ w',Below W.heap.size W w' → w'.heap[Wq.heap.size]? = some (.cells #[.int .i64 0,.slice none 0 0,.bool false,.int .i64 0] 42 (0,0))):=Lib.hid (fun w' h => ax _ h)
  have hAL:w.heap.size ≤ Wq.heap.size:=(hBc.trans ((hBs.trans (hBq.mono hBs.size)).mono hBc.size)).size
  have hAS:=hWa
  obtain ⟨sb,hsb⟩:∃ n,n = Wc.heap.size:=⟨_,rfl⟩
  obtain ⟨qb,hqb⟩:∃ n,n = Ws.heap.size:=⟨_,rfl⟩
  obtain ⟨ab,hab⟩:∃ n,n = Wq.heap.size:=⟨_,rfl⟩
  rw [← hsb] at SX
  rw [← hqb] at QX
  rw [← hab] at AX hAL hAS
  have HAL:=Lib.hid hAL;have HAS:=Lib.hid hAS
  have HSB:=Lib.hid hsb;have HQB:=Lib.hid hqb;have HAB:=Lib.hid hab;have HB:=Lib.hid hB;have CX:=Lib.hid bx
  have HXW:=Lib.hid (hx.later hB);have HSW:=Lib.hid (hs.later hB);have HVW:=Lib.hid (hv.later hB);have HTW:=Lib.hid (hT.later hB)
  simp only [cfgCells] at HWc ⊢
  clear hBc hWs bx hBs hWss sx hBq hWq qx hBa hWa ax hQ hSQ hB hAL hAS hsb hqb hab hx hs hv hT
  have HREF:=Lib.hid (prefused_is c ⟨pa,pc,ca,cc,aa,ac,ba,bc⟩ sp sn made ma mc va valid.length vc (3) port ad da dn dc 0 W HXW.out wx lx HSW.out hp had hdn HTW.out hz)
  simp only [cfgCells] at HREF
  obtain ⟨c0,c1,c2,c3,c4,c5⟩:=CX.out _ (BX.out _ (Below.refl _ _))
  have s0:W.cell? ⟨sb,0,none⟩ = some (.int .i64 sp):=cell_blk (SX.out _ (Below.refl _ _)) rfl
  have s1:W.cell? ⟨sb,1,none⟩ = some (.bool sn):=cell_blk (SX.out _ (Below.refl _ _)) rfl
  have s2:W.cell? ⟨sb,2,none⟩ = some (.slice ma made.length mc):=cell_blk (SX.out _ (Below.refl _ _)) rfl
  have s3:W.cell? ⟨sb,3,none⟩ = some (.slice va valid.length vc):=cell_blk (SX.out _ (Below.refl _ _)) rfl
  have q0:W.cell? ⟨qb,0,none⟩ = some (.int .i64 3):=cell_blk (QX.out _ (Below.refl _ _)) rfl
  have q1:W.cell? ⟨qb,1,none⟩ = some (.int .i64 port):=cell_blk (QX.out _ (Below.refl _ _)) rfl
  have q2:W.cell? ⟨qb,2,none⟩ = some (.int .u64 ad):=cell_blk (QX.out _ (Below.refl _ _)) rfl
  have q3:W.cell? ⟨qb,3,none⟩ = some (.slice da dn dc):=cell_blk (QX.out _ (Below.refl _ _)) rfl
  go_enter Tryz.func43,Tryz.ntmps43
  go_wp2_with (first | (rw [← HWc.out]) | (simp only [← HSB.out];rw [← HWs.out]) | (simp only [← HQB.out];rw [← HWq.out]) | (simp only [← HAB.out];rw [← HW.out]))
  refine HREF.out.mono ?_
  rintro e w5 ⟨rfl,hb5⟩
  clear c0 c1 c2 c3 c4 c5 s0 s1 s2 s3 q0 q1 q2 q3
  have HB5:=Lib.hid hb5
  obtain ⟨c0,c1,c2,c3,c4,c5⟩:=CX.out _ (BX.out _ hb5)
  have s0:w5.cell? ⟨sb,0,none⟩ = some (.int .i64 sp):=cell_blk (SX.out _ hb5) rfl
  have s1:w5.cell? ⟨sb,1,none⟩ = some (.bool sn):=cell_blk (SX.out _ hb5) rfl
  have s2:w5.cell? ⟨sb,2,none⟩ = some (.slice ma made.length mc):=cell_blk (SX.out _ hb5) rfl
  have s3:w5.cell? ⟨sb,3,none⟩ = some (.slice va valid.length vc):=cell_blk (SX.out _ hb5) rfl
  have q0:w5.cell? ⟨qb,0,none⟩ = some (.int .i64 3):=cell_blk (QX.out _ hb5) rfl
  have q1:w5.cell? ⟨qb,1,none⟩ = some (.int .i64 port):=cell_blk (QX.out _ hb5) rfl
  have q2:w5.cell? ⟨qb,2,none⟩ = some (.int .u64 ad):=cell_blk (QX.out _ hb5) rfl
  have q3:w5.cell? ⟨qb,3,none⟩ = some (.slice da dn dc):=cell_blk (QX.out _ hb5) rfl
  clear hb5
  clear hz
  have hth:=there_blk (W:=w5) (AX.out _ HB5.out) (n:=(#[.int .i64 0,.slice none 0 0,.bool false,.int .i64 0]:Array Value).size) rfl
  have hsz:(Tryz.prog.info? 42).map (·.size) = some (#[.int .i64 0,.slice none 0 0,.bool false,.int .i64 0]:Array Value).size:=ans_size
  go_wp2_with (with_reducible refine wpList_store_mid (by kernel_rfl) _ _ _ rfl ab 0 #[.int .i64 0,.slice none 0 0,.bool false,.int .i64 0] (by kernel_rfl) (by kernel_rfl) hth hsz (by kernel_rfl) ?_)
  have hrg:=World.rangeAt_setCells_same w5 ab 0 (#[.int .i64 0,.slice none 0 0,.bool false,.int .i64 0]:Array Value).toList (by simpa using hth)
  (try simp only [Exit.inBlock,Exit.then])
  refine bodyPost_ret (results_mid_tmp rfl _ _ ab (#[.int .i64 0,.slice none 0 0,.bool false,.int .i64 0]:Array Value).toList _ rfl hrg Tryz.underlying42 rfl ans_size rfl) rfl ?_
  exact ⟨rfl,below_setCells _ _ _ (HB.out.trans ((HB5.out).mono HB.out.size)) HAL.out⟩
theorem tonce4_b (c:Cfg) (x:CfgAt) (sp:Int) (sn:Bool) (made valid:List Int) (ma va:Option Addr) (mc vc:Nat) (port ad:Int) (da:Option Addr) (dn dc:Nat) (w:World) (hx:CfgIn w w.heap.size c x) (wx:CfgWf c) (lx:CfgFew c) (hs:SIn w made ma) (hv:SIn w valid va) (hp:(Lit.int .i64 port).wf = true) (had:(Lit.int .u64 ad).wf = true) (hdn:dn ≤ 1000000) (hT:TabsAt w) (hz:refusedN c sp sn made 4 port ad dn = 0) :
    Calls Tryz.prog 43 #[.agg (cfgCells c x),.agg #[.int .i64 sp,.bool sn,.slice ma made.length mc,.slice va valid.length vc],.agg #[.int .i64 4,.int .i64 port,.int .u64 ad,.slice da dn dc]] w fun e w' => e = .returned (.tuple #[.agg #[.int .i64 0,.slice none 0 0,.bool false,.int .i64 0],.bool false]) ∧ Below w.heap.size w w':=by
  obtain ⟨Wc,HWc,hBc,hWs,bx⟩:=one_cbox w c x 29
  obtain ⟨pa,pc,ca,cc,aa,ac,ba,bc⟩:=x
  obtain ⟨Ws,HWs,hBs,hWss,sx⟩:=box_new Wc #[.int .i64 sp,.bool sn,.slice ma made.length mc,.slice va valid.length vc] 32
  obtain ⟨Wq,HWq,hBq,hWq,qx⟩:=box_new Ws #[.int .i64 4,.int .i64 port,.int .u64 ad,.slice da dn dc] 36
  obtain ⟨W,HW,hBa,hWa,ax⟩:=box_new Wq #[.int .i64 0,.slice none 0 0,.bool false,.int .i64 0] 42
  have hQ:=hBq.trans (hBa.mono hBq.size)
  have hSQ:=hBs.trans (hQ.mono hBs.size)
  have hB:=hBc.trans (hSQ.mono hBc.size)
  have BX:Hid (∀ w',Below W.heap.size W w' → Below Wc.heap.size Wc w'):=Lib.hid (fun w' h => hSQ.trans (h.mono hSQ.size))
  have SX:Hid (∀ w',Below W.heap.size W w' → w'.heap[Wc.heap.size]? = some (.cells #[.int .i64 sp,.bool sn,.slice ma made.length mc,.slice va valid.length vc] 32 (0,0))):=Lib.hid (fun w' h => sx _ (hQ.trans (h.mono hQ.size)))
  have QX:Hid (∀ w',Below W.heap.size W w' → w'.heap[Ws.heap.size]? = some (.cells #[.int .i64 4,.int .i64 port,.int .u64 ad,.slice da dn dc] 36 (0,0))):=Lib.hid (fun w' h => qx _ (hBa.trans (h.mono hBa.size)))
  have AX:Hid (∀ w',Below W.heap.size W w' → w'.heap[Wq.heap.size]? = some (.cells #[.int .i64 0,.slice none 0 0,.bool false,.int .i64 0] 42 (0,0))):=Lib.hid (fun w' h => ax _ h)
  have hAL:w.heap.size ≤ Wq.heap.size:=(hBc.trans ((hBs.trans (hBq.mono hBs.size)).mono hBc.size)).size
  have hAS:=hWa
  obtain ⟨sb,hsb⟩:∃ n,n = Wc.heap.size:=⟨_,rfl⟩
  obtain ⟨qb,hqb⟩:∃ n,n = Ws.heap.size:=⟨_,rfl⟩
  obtain ⟨ab,hab⟩:∃ n,n = Wq.heap.size:=⟨_,rfl⟩
  rw [← hsb] at SX
  rw [← hqb] at QX
  rw [← hab] at AX hAL hAS
  have HAL:=Lib.hid hAL;have HAS:=Lib.hid hAS
  have HSB:=Lib.hid hsb;have HQB:=Lib.hid hqb;have HAB:=Lib.hid hab;have HB:=Lib.hid hB;have CX:=Lib.hid bx
  have HXW:=Lib.hid (hx.later hB);have HSW:=Lib.hid (hs.later hB);have HVW:=Lib.hid (hv.later hB);have HTW:=Lib.hid (hT.later hB)
  simp only [cfgCells] at HWc ⊢
  clear hBc hWs bx hBs hWss sx hBq hWq qx hBa hWa ax hQ hSQ hB hAL hAS hsb hqb hab hx hs hv hT
  have HREF:=Lib.hid (prefused_is c ⟨pa,pc,ca,cc,aa,ac,ba,bc⟩ sp sn made ma mc va valid.length vc (4) port ad da dn dc 0 W HXW.out wx lx HSW.out hp had hdn HTW.out hz)
  simp only [cfgCells] at HREF
  obtain ⟨c0,c1,c2,c3,c4,c5⟩:=CX.out _ (BX.out _ (Below.refl _ _))
  have s0:W.cell? ⟨sb,0,none⟩ = some (.int .i64 sp):=cell_blk (SX.out _ (Below.refl _ _)) rfl
  have s1:W.cell? ⟨sb,1,none⟩ = some (.bool sn):=cell_blk (SX.out _ (Below.refl _ _)) rfl
  have s2:W.cell? ⟨sb,2,none⟩ = some (.slice ma made.length mc):=cell_blk (SX.out _ (Below.refl _ _)) rfl
  have s3:W.cell? ⟨sb,3,none⟩ = some (.slice va valid.length vc):=cell_blk (SX.out _ (Below.refl _ _)) rfl
  have q0:W.cell? ⟨qb,0,none⟩ = some (.int .i64 4):=cell_blk (QX.out _ (Below.refl _ _)) rfl
  have q1:W.cell? ⟨qb,1,none⟩ = some (.int .i64 port):=cell_blk (QX.out _ (Below.refl _ _)) rfl
  have q2:W.cell? ⟨qb,2,none⟩ = some (.int .u64 ad):=cell_blk (QX.out _ (Below.refl _ _)) rfl
  have q3:W.cell? ⟨qb,3,none⟩ = some (.slice da dn dc):=cell_blk (QX.out _ (Below.refl _ _)) rfl
  go_enter Tryz.func43,Tryz.ntmps43
  go_wp2_with (first | (rw [← HWc.out]) | (simp only [← HSB.out];rw [← HWs.out]) | (simp only [← HQB.out];rw [← HWq.out]) | (simp only [← HAB.out];rw [← HW.out]))
  refine HREF.out.mono ?_
  rintro e w5 ⟨rfl,hb5⟩
  clear c0 c1 c2 c3 c4 c5 s0 s1 s2 s3 q0 q1 q2 q3
  have HB5:=Lib.hid hb5
  obtain ⟨c0,c1,c2,c3,c4,c5⟩:=CX.out _ (BX.out _ hb5)
  have s0:w5.cell? ⟨sb,0,none⟩ = some (.int .i64 sp):=cell_blk (SX.out _ hb5) rfl
  have s1:w5.cell? ⟨sb,1,none⟩ = some (.bool sn):=cell_blk (SX.out _ hb5) rfl
  have s2:w5.cell? ⟨sb,2,none⟩ = some (.slice ma made.length mc):=cell_blk (SX.out _ hb5) rfl
  have s3:w5.cell? ⟨sb,3,none⟩ = some (.slice va valid.length vc):=cell_blk (SX.out _ hb5) rfl
  have q0:w5.cell? ⟨qb,0,none⟩ = some (.int .i64 4):=cell_blk (QX.out _ hb5) rfl
  have q1:w5.cell? ⟨qb,1,none⟩ = some (.int .i64 port):=cell_blk (QX.out _ hb5) rfl
  have q2:w5.cell? ⟨qb,2,none⟩ = some (.int .u64 ad):=cell_blk (QX.out _ hb5) rfl
  have q3:w5.cell? ⟨qb,3,none⟩ = some (.slice da dn dc):=cell_blk (QX.out _ hb5) rfl
  clear hb5
  clear hz
  have hth:=there_blk (W:=w5) (AX.out _ HB5.out) (n:=(#[.int .i64 0,.slice none 0 0,.bool false,.int .i64 0]:Array Value).size) rfl
  have hsz:(Tryz.prog.info? 42).map (·.size) = some (#[.int .i64 0,.slice none 0 0,.bool false,.int .i64 0]:Array Value).size:=ans_size
  go_wp2_with (with_reducible refine wpList_store_mid (by kernel_rfl) _ _ _ rfl ab 0 #[.int .i64 0,.slice none 0 0,.bool false,.int .i64 0] (by kernel_rfl) (by kernel_rfl) hth hsz (by kernel_rfl) ?_)
  have hrg:=World.rangeAt_setCells_same w5 ab 0 (#[.int .i64 0,.slice none 0 0,.bool false,.int .i64 0]:Array Value).toList (by simpa using hth)
  (try simp only [Exit.inBlock,Exit.then])
  refine bodyPost_ret (results_mid_tmp rfl _ _ ab (#[.int .i64 0,.slice none 0 0,.bool false,.int .i64 0]:Array Value).toList _ rfl hrg Tryz.underlying42 rfl ans_size rfl) rfl ?_
  exact ⟨rfl,below_setCells _ _ _ (HB.out.trans ((HB5.out).mono HB.out.size)) HAL.out⟩
theorem tonce5_b (c:Cfg) (x:CfgAt) (sp:Int) (sn:Bool) (made valid:List Int) (ma va:Option Addr) (mc vc:Nat) (port ad:Int) (da:Option Addr) (dn dc:Nat) (w:World) (hx:CfgIn w w.heap.size c x) (wx:CfgWf c) (lx:CfgFew c) (hs:SIn w made ma) (hv:SIn w valid va) (hp:(Lit.int .i64 port).wf = true) (had:(Lit.int .u64 ad).wf = true) (hdn:dn ≤ 1000000) (hT:TabsAt w) (hz:refusedN c sp sn made 5 port ad dn = 0) :
    Calls Tryz.prog 43 #[.agg (cfgCells c x),.agg #[.int .i64 sp,.bool sn,.slice ma made.length mc,.slice va valid.length vc],.agg #[.int .i64 5,.int .i64 port,.int .u64 ad,.slice da dn dc]] w fun e w' => e = .returned (.tuple #[.agg #[.int .i64 0,.slice none 0 0,.bool false,.int .i64 0],.bool false]) ∧ Below w.heap.size w w':=by
  obtain ⟨Wc,HWc,hBc,hWs,bx⟩:=one_cbox w c x 29
  obtain ⟨pa,pc,ca,cc,aa,ac,ba,bc⟩:=x
  obtain ⟨Ws,HWs,hBs,hWss,sx⟩:=box_new Wc #[.int .i64 sp,.bool sn,.slice ma made.length mc,.slice va valid.length vc] 32
  obtain ⟨Wq,HWq,hBq,hWq,qx⟩:=box_new Ws #[.int .i64 5,.int .i64 port,.int .u64 ad,.slice da dn dc] 36
  obtain ⟨W,HW,hBa,hWa,ax⟩:=box_new Wq #[.int .i64 0,.slice none 0 0,.bool false,.int .i64 0] 42
  have hQ:=hBq.trans (hBa.mono hBq.size)
  have hSQ:=hBs.trans (hQ.mono hBs.size)
  have hB:=hBc.trans (hSQ.mono hBc.size)
  have BX:Hid (∀ w',Below W.heap.size W w' → Below Wc.heap.size Wc w'):=Lib.hid (fun w' h => hSQ.trans (h.mono hSQ.size))
  have SX:Hid (∀ w',Below W.heap.size W w' → w'.heap[Wc.heap.size]? = some (.cells #[.int .i64 sp,.bool sn,.slice ma made.length mc,.slice va valid.length vc] 32 (0,0))):=Lib.hid (fun w' h => sx _ (hQ.trans (h.mono hQ.size)))
  have QX:Hid (∀ w',Below W.heap.size W w' → w'.heap[Ws.heap.size]? = some (.cells #[.int .i64 5,.int .i64 port,.int .u64 ad,.slice da dn dc] 36 (0,0))):=Lib.hid (fun w' h => qx _ (hBa.trans (h.mono hBa.size)))
  have AX:Hid (∀ w',Below W.heap.size W w' → w'.heap[Wq.heap.size]? = some (.cells #[.int .i64 0,.slice none 0 0,.bool false,.int .i64 0] 42 (0,0))):=Lib.hid (fun w' h => ax _ h)
  have hAL:w.heap.size ≤ Wq.heap.size:=(hBc.trans ((hBs.trans (hBq.mono hBs.size)).mono hBc.size)).size
  have hAS:=hWa
  obtain ⟨sb,hsb⟩:∃ n,n = Wc.heap.size:=⟨_,rfl⟩
  obtain ⟨qb,hqb⟩:∃ n,n = Ws.heap.size:=⟨_,rfl⟩
  obtain ⟨ab,hab⟩:∃ n,n = Wq.heap.size:=⟨_,rfl⟩
  rw [← hsb] at SX
  rw [← hqb] at QX
  rw [← hab] at AX hAL hAS
  have HAL:=Lib.hid hAL;have HAS:=Lib.hid hAS
  have HSB:=Lib.hid hsb;have HQB:=Lib.hid hqb;have HAB:=Lib.hid hab;have HB:=Lib.hid hB;have CX:=Lib.hid bx
  have HXW:=Lib.hid (hx.later hB);have HSW:=Lib.hid (hs.later hB);have HVW:=Lib.hid (hv.later hB);have HTW:=Lib.hid (hT.later hB)
  simp only [cfgCells] at HWc ⊢
  clear hBc hWs bx hBs hWss sx hBq hWq qx hBa hWa ax hQ hSQ hB hAL hAS hsb hqb hab hx hs hv hT
  have HREF:=Lib.hid (prefused_is c ⟨pa,pc,ca,cc,aa,ac,ba,bc⟩ sp sn made ma mc va valid.length vc (5) port ad da dn dc 0 W HXW.out wx lx HSW.out hp had hdn HTW.out hz)
  simp only [cfgCells] at HREF
  obtain ⟨c0,c1,c2,c3,c4,c5⟩:=CX.out _ (BX.out _ (Below.refl _ _))
  have s0:W.cell? ⟨sb,0,none⟩ = some (.int .i64 sp):=cell_blk (SX.out _ (Below.refl _ _)) rfl
  have s1:W.cell? ⟨sb,1,none⟩ = some (.bool sn):=cell_blk (SX.out _ (Below.refl _ _)) rfl
  have s2:W.cell? ⟨sb,2,none⟩ = some (.slice ma made.length mc):=cell_blk (SX.out _ (Below.refl _ _)) rfl
  have s3:W.cell? ⟨sb,3,none⟩ = some (.slice va valid.length vc):=cell_blk (SX.out _ (Below.refl _ _)) rfl
  have q0:W.cell? ⟨qb,0,none⟩ = some (.int .i64 5):=cell_blk (QX.out _ (Below.refl _ _)) rfl
  have q1:W.cell? ⟨qb,1,none⟩ = some (.int .i64 port):=cell_blk (QX.out _ (Below.refl _ _)) rfl
  have q2:W.cell? ⟨qb,2,none⟩ = some (.int .u64 ad):=cell_blk (QX.out _ (Below.refl _ _)) rfl
  have q3:W.cell? ⟨qb,3,none⟩ = some (.slice da dn dc):=cell_blk (QX.out _ (Below.refl _ _)) rfl
  go_enter Tryz.func43,Tryz.ntmps43
  go_wp2_with (first | (rw [← HWc.out]) | (simp only [← HSB.out];rw [← HWs.out]) | (simp only [← HQB.out];rw [← HWq.out]) | (simp only [← HAB.out];rw [← HW.out]))
  refine HREF.out.mono ?_
  rintro e w5 ⟨rfl,hb5⟩
  clear c0 c1 c2 c3 c4 c5 s0 s1 s2 s3 q0 q1 q2 q3
  have HB5:=Lib.hid hb5
  obtain ⟨c0,c1,c2,c3,c4,c5⟩:=CX.out _ (BX.out _ hb5)
  have s0:w5.cell? ⟨sb,0,none⟩ = some (.int .i64 sp):=cell_blk (SX.out _ hb5) rfl
  have s1:w5.cell? ⟨sb,1,none⟩ = some (.bool sn):=cell_blk (SX.out _ hb5) rfl
  have s2:w5.cell? ⟨sb,2,none⟩ = some (.slice ma made.length mc):=cell_blk (SX.out _ hb5) rfl
  have s3:w5.cell? ⟨sb,3,none⟩ = some (.slice va valid.length vc):=cell_blk (SX.out _ hb5) rfl
  have q0:w5.cell? ⟨qb,0,none⟩ = some (.int .i64 5):=cell_blk (QX.out _ hb5) rfl
  have q1:w5.cell? ⟨qb,1,none⟩ = some (.int .i64 port):=cell_blk (QX.out _ hb5) rfl
  have q2:w5.cell? ⟨qb,2,none⟩ = some (.int .u64 ad):=cell_blk (QX.out _ hb5) rfl
  have q3:w5.cell? ⟨qb,3,none⟩ = some (.slice da dn dc):=cell_blk (QX.out _ hb5) rfl
  clear hb5
  clear hz
  have hth:=there_blk (W:=w5) (AX.out _ HB5.out) (n:=(#[.int .i64 0,.slice none 0 0,.bool false,.int .i64 0]:Array Value).size) rfl
  have hsz:(Tryz.prog.info? 42).map (·.size) = some (#[.int .i64 0,.slice none 0 0,.bool false,.int .i64 0]:Array Value).size:=ans_size
  go_wp2_with (with_reducible refine wpList_store_mid (by kernel_rfl) _ _ _ rfl ab 0 #[.int .i64 0,.slice none 0 0,.bool false,.int .i64 0] (by kernel_rfl) (by kernel_rfl) hth hsz (by kernel_rfl) ?_)
  have hrg:=World.rangeAt_setCells_same w5 ab 0 (#[.int .i64 0,.slice none 0 0,.bool false,.int .i64 0]:Array Value).toList (by simpa using hth)
  (try simp only [Exit.inBlock,Exit.then])
  refine bodyPost_ret (results_mid_tmp rfl _ _ ab (#[.int .i64 0,.slice none 0 0,.bool false,.int .i64 0]:Array Value).toList _ rfl hrg Tryz.underlying42 rfl ans_size rfl) rfl ?_
  exact ⟨rfl,below_setCells _ _ _ (HB.out.trans ((HB5.out).mono HB.out.size)) HAL.out⟩
theorem tonce6_b (c:Cfg) (x:CfgAt) (sp:Int) (sn:Bool) (made valid:List Int) (ma va:Option Addr) (mc vc:Nat) (port ad:Int) (da:Option Addr) (dn dc:Nat) (w:World) (hx:CfgIn w w.heap.size c x) (wx:CfgWf c) (lx:CfgFew c) (hs:SIn w made ma) (hv:SIn w valid va) (hp:(Lit.int .i64 port).wf = true) (had:(Lit.int .u64 ad).wf = true) (hdn:dn ≤ 1000000) (hT:TabsAt w) (hz:refusedN c sp sn made 6 port ad dn = 0) :
    Calls Tryz.prog 43 #[.agg (cfgCells c x),.agg #[.int .i64 sp,.bool sn,.slice ma made.length mc,.slice va valid.length vc],.agg #[.int .i64 6,.int .i64 port,.int .u64 ad,.slice da dn dc]] w fun e w' => e = .returned (.tuple #[.agg #[.int .i64 0,.slice none 0 0,.bool false,.int .i64 0],.bool false]) ∧ Below w.heap.size w w':=by
  obtain ⟨Wc,HWc,hBc,hWs,bx⟩:=one_cbox w c x 29
  obtain ⟨pa,pc,ca,cc,aa,ac,ba,bc⟩:=x
  obtain ⟨Ws,HWs,hBs,hWss,sx⟩:=box_new Wc #[.int .i64 sp,.bool sn,.slice ma made.length mc,.slice va valid.length vc] 32
  obtain ⟨Wq,HWq,hBq,hWq,qx⟩:=box_new Ws #[.int .i64 6,.int .i64 port,.int .u64 ad,.slice da dn dc] 36
  obtain ⟨W,HW,hBa,hWa,ax⟩:=box_new Wq #[.int .i64 0,.slice none 0 0,.bool false,.int .i64 0] 42
  have hQ:=hBq.trans (hBa.mono hBq.size)
  have hSQ:=hBs.trans (hQ.mono hBs.size)
  have hB:=hBc.trans (hSQ.mono hBc.size)
  have BX:Hid (∀ w',Below W.heap.size W w' → Below Wc.heap.size Wc w'):=Lib.hid (fun w' h => hSQ.trans (h.mono hSQ.size))
  have SX:Hid (∀ w',Below W.heap.size W w' → w'.heap[Wc.heap.size]? = some (.cells #[.int .i64 sp,.bool sn,.slice ma made.length mc,.slice va valid.length vc] 32 (0,0))):=Lib.hid (fun w' h => sx _ (hQ.trans (h.mono hQ.size)))
  have QX:Hid (∀ w',Below W.heap.size W w' → w'.heap[Ws.heap.size]? = some (.cells #[.int .i64 6,.int .i64 port,.int .u64 ad,.slice da dn dc] 36 (0,0))):=Lib.hid (fun w' h => qx _ (hBa.trans (h.mono hBa.size)))
  have AX:Hid (∀ w',Below W.heap.size W w' → w'.heap[Wq.heap.size]? = some (.cells #[.int .i64 0,.slice none 0 0,.bool false,.int .i64 0] 42 (0,0))):=Lib.hid (fun w' h => ax _ h)
  have hAL:w.heap.size ≤ Wq.heap.size:=(hBc.trans ((hBs.trans (hBq.mono hBs.size)).mono hBc.size)).size
  have hAS:=hWa
  obtain ⟨sb,hsb⟩:∃ n,n = Wc.heap.size:=⟨_,rfl⟩
  obtain ⟨qb,hqb⟩:∃ n,n = Ws.heap.size:=⟨_,rfl⟩
  obtain ⟨ab,hab⟩:∃ n,n = Wq.heap.size:=⟨_,rfl⟩
  rw [← hsb] at SX
  rw [← hqb] at QX
  rw [← hab] at AX hAL hAS
  have HAL:=Lib.hid hAL;have HAS:=Lib.hid hAS
  have HSB:=Lib.hid hsb;have HQB:=Lib.hid hqb;have HAB:=Lib.hid hab;have HB:=Lib.hid hB;have CX:=Lib.hid bx
  have HXW:=Lib.hid (hx.later hB);have HSW:=Lib.hid (hs.later hB);have HVW:=Lib.hid (hv.later hB);have HTW:=Lib.hid (hT.later hB)
  simp only [cfgCells] at HWc ⊢
  clear hBc hWs bx hBs hWss sx hBq hWq qx hBa hWa ax hQ hSQ hB hAL hAS hsb hqb hab hx hs hv hT
  have HREF:=Lib.hid (prefused_is c ⟨pa,pc,ca,cc,aa,ac,ba,bc⟩ sp sn made ma mc va valid.length vc (6) port ad da dn dc 0 W HXW.out wx lx HSW.out hp had hdn HTW.out hz)
  simp only [cfgCells] at HREF
  obtain ⟨c0,c1,c2,c3,c4,c5⟩:=CX.out _ (BX.out _ (Below.refl _ _))
  have s0:W.cell? ⟨sb,0,none⟩ = some (.int .i64 sp):=cell_blk (SX.out _ (Below.refl _ _)) rfl
  have s1:W.cell? ⟨sb,1,none⟩ = some (.bool sn):=cell_blk (SX.out _ (Below.refl _ _)) rfl
  have s2:W.cell? ⟨sb,2,none⟩ = some (.slice ma made.length mc):=cell_blk (SX.out _ (Below.refl _ _)) rfl
  have s3:W.cell? ⟨sb,3,none⟩ = some (.slice va valid.length vc):=cell_blk (SX.out _ (Below.refl _ _)) rfl
  have q0:W.cell? ⟨qb,0,none⟩ = some (.int .i64 6):=cell_blk (QX.out _ (Below.refl _ _)) rfl
  have q1:W.cell? ⟨qb,1,none⟩ = some (.int .i64 port):=cell_blk (QX.out _ (Below.refl _ _)) rfl
  have q2:W.cell? ⟨qb,2,none⟩ = some (.int .u64 ad):=cell_blk (QX.out _ (Below.refl _ _)) rfl
  have q3:W.cell? ⟨qb,3,none⟩ = some (.slice da dn dc):=cell_blk (QX.out _ (Below.refl _ _)) rfl
  go_enter Tryz.func43,Tryz.ntmps43
  go_wp2_with (first | (rw [← HWc.out]) | (simp only [← HSB.out];rw [← HWs.out]) | (simp only [← HQB.out];rw [← HWq.out]) | (simp only [← HAB.out];rw [← HW.out]))
  refine HREF.out.mono ?_
  rintro e w5 ⟨rfl,hb5⟩
  clear c0 c1 c2 c3 c4 c5 s0 s1 s2 s3 q0 q1 q2 q3
  have HB5:=Lib.hid hb5
  obtain ⟨c0,c1,c2,c3,c4,c5⟩:=CX.out _ (BX.out _ hb5)
  have s0:w5.cell? ⟨sb,0,none⟩ = some (.int .i64 sp):=cell_blk (SX.out _ hb5) rfl
  have s1:w5.cell? ⟨sb,1,none⟩ = some (.bool sn):=cell_blk (SX.out _ hb5) rfl
  have s2:w5.cell? ⟨sb,2,none⟩ = some (.slice ma made.length mc):=cell_blk (SX.out _ hb5) rfl
  have s3:w5.cell? ⟨sb,3,none⟩ = some (.slice va valid.length vc):=cell_blk (SX.out _ hb5) rfl
  have q0:w5.cell? ⟨qb,0,none⟩ = some (.int .i64 6):=cell_blk (QX.out _ hb5) rfl
  have q1:w5.cell? ⟨qb,1,none⟩ = some (.int .i64 port):=cell_blk (QX.out _ hb5) rfl
  have q2:w5.cell? ⟨qb,2,none⟩ = some (.int .u64 ad):=cell_blk (QX.out _ hb5) rfl
  have q3:w5.cell? ⟨qb,3,none⟩ = some (.slice da dn dc):=cell_blk (QX.out _ hb5) rfl
  clear hb5
  clear hz
  have hth:=there_blk (W:=w5) (AX.out _ HB5.out) (n:=(#[.int .i64 0,.slice none 0 0,.bool false,.int .i64 0]:Array Value).size) rfl
  have hsz:(Tryz.prog.info? 42).map (·.size) = some (#[.int .i64 0,.slice none 0 0,.bool false,.int .i64 0]:Array Value).size:=ans_size
  go_wp2_with (with_reducible refine wpList_store_mid (by kernel_rfl) _ _ _ rfl ab 0 #[.int .i64 0,.slice none 0 0,.bool false,.int .i64 0] (by kernel_rfl) (by kernel_rfl) hth hsz (by kernel_rfl) ?_)
  have hrg:=World.rangeAt_setCells_same w5 ab 0 (#[.int .i64 0,.slice none 0 0,.bool false,.int .i64 0]:Array Value).toList (by simpa using hth)
  (try simp only [Exit.inBlock,Exit.then])
  refine bodyPost_ret (results_mid_tmp rfl _ _ ab (#[.int .i64 0,.slice none 0 0,.bool false,.int .i64 0]:Array Value).toList _ rfl hrg Tryz.underlying42 rfl ans_size rfl) rfl ?_
  exact ⟨rfl,below_setCells _ _ _ (HB.out.trans ((HB5.out).mono HB.out.size)) HAL.out⟩
theorem tonce8_b (c:Cfg) (x:CfgAt) (sp:Int) (sn:Bool) (made valid:List Int) (ma va:Option Addr) (mc vc:Nat) (port ad:Int) (da:Option Addr) (dn dc:Nat) (w:World) (hx:CfgIn w w.heap.size c x) (wx:CfgWf c) (lx:CfgFew c) (hs:SIn w made ma) (hv:SIn w valid va) (hp:(Lit.int .i64 port).wf = true) (had:(Lit.int .u64 ad).wf = true) (hdn:dn ≤ 1000000) (hT:TabsAt w) (hz:refusedN c sp sn made 8 port ad dn = 0) :
    Calls Tryz.prog 43 #[.agg (cfgCells c x),.agg #[.int .i64 sp,.bool sn,.slice ma made.length mc,.slice va valid.length vc],.agg #[.int .i64 8,.int .i64 port,.int .u64 ad,.slice da dn dc]] w fun e w' => e = .returned (.tuple #[.agg #[.int .i64 0,.slice none 0 0,.bool false,.int .i64 0],.bool false]) ∧ Below w.heap.size w w':=by
  obtain ⟨Wc,HWc,hBc,hWs,bx⟩:=one_cbox w c x 29
  obtain ⟨pa,pc,ca,cc,aa,ac,ba,bc⟩:=x
  obtain ⟨Ws,HWs,hBs,hWss,sx⟩:=box_new Wc #[.int .i64 sp,.bool sn,.slice ma made.length mc,.slice va valid.length vc] 32
  obtain ⟨Wq,HWq,hBq,hWq,qx⟩:=box_new Ws #[.int .i64 8,.int .i64 port,.int .u64 ad,.slice da dn dc] 36
  obtain ⟨W,HW,hBa,hWa,ax⟩:=box_new Wq #[.int .i64 0,.slice none 0 0,.bool false,.int .i64 0] 42
  have hQ:=hBq.trans (hBa.mono hBq.size)
  have hSQ:=hBs.trans (hQ.mono hBs.size)
  have hB:=hBc.trans (hSQ.mono hBc.size)
  have BX:Hid (∀ w',Below W.heap.size W w' → Below Wc.heap.size Wc w'):=Lib.hid (fun w' h => hSQ.trans (h.mono hSQ.size))
  have SX:Hid (∀ w',Below W.heap.size W w' → w'.heap[Wc.heap.size]? = some (.cells #[.int .i64 sp,.bool sn,.slice ma made.length mc,.slice va valid.length vc] 32 (0,0))):=Lib.hid (fun w' h => sx _ (hQ.trans (h.mono hQ.size)))
  have QX:Hid (∀ w',Below W.heap.size W w' → w'.heap[Ws.heap.size]? = some (.cells #[.int .i64 8,.int .i64 port,.int .u64 ad,.slice da dn dc] 36 (0,0))):=Lib.hid (fun w' h => qx _ (hBa.trans (h.mono hBa.size)))
  have AX:Hid (∀ w',Below W.heap.size W w' → w'.heap[Wq.heap.size]? = some (.cells #[.int .i64 0,.slice none 0 0,.bool false,.int .i64 0] 42 (0,0))):=Lib.hid (fun w' h => ax _ h)
  have hAL:w.heap.size ≤ Wq.heap.size:=(hBc.trans ((hBs.trans (hBq.mono hBs.size)).mono hBc.size)).size
  have hAS:=hWa
  obtain ⟨sb,hsb⟩:∃ n,n = Wc.heap.size:=⟨_,rfl⟩
  obtain ⟨qb,hqb⟩:∃ n,n = Ws.heap.size:=⟨_,rfl⟩
  obtain ⟨ab,hab⟩:∃ n,n = Wq.heap.size:=⟨_,rfl⟩
  rw [← hsb] at SX
  rw [← hqb] at QX
  rw [← hab] at AX hAL hAS
  have HAL:=Lib.hid hAL;have HAS:=Lib.hid hAS
  have HSB:=Lib.hid hsb;have HQB:=Lib.hid hqb;have HAB:=Lib.hid hab;have HB:=Lib.hid hB;have CX:=Lib.hid bx
  have HXW:=Lib.hid (hx.later hB);have HSW:=Lib.hid (hs.later hB);have HVW:=Lib.hid (hv.later hB);have HTW:=Lib.hid (hT.later hB)
  simp only [cfgCells] at HWc ⊢
  clear hBc hWs bx hBs hWss sx hBq hWq qx hBa hWa ax hQ hSQ hB hAL hAS hsb hqb hab hx hs hv hT
  have HREF:=Lib.hid (prefused_is c ⟨pa,pc,ca,cc,aa,ac,ba,bc⟩ sp sn made ma mc va valid.length vc (8) port ad da dn dc 0 W HXW.out wx lx HSW.out hp had hdn HTW.out hz)
  simp only [cfgCells] at HREF
  obtain ⟨c0,c1,c2,c3,c4,c5⟩:=CX.out _ (BX.out _ (Below.refl _ _))
  have s0:W.cell? ⟨sb,0,none⟩ = some (.int .i64 sp):=cell_blk (SX.out _ (Below.refl _ _)) rfl
  have s1:W.cell? ⟨sb,1,none⟩ = some (.bool sn):=cell_blk (SX.out _ (Below.refl _ _)) rfl
  have s2:W.cell? ⟨sb,2,none⟩ = some (.slice ma made.length mc):=cell_blk (SX.out _ (Below.refl _ _)) rfl
  have s3:W.cell? ⟨sb,3,none⟩ = some (.slice va valid.length vc):=cell_blk (SX.out _ (Below.refl _ _)) rfl
  have q0:W.cell? ⟨qb,0,none⟩ = some (.int .i64 8):=cell_blk (QX.out _ (Below.refl _ _)) rfl
  have q1:W.cell? ⟨qb,1,none⟩ = some (.int .i64 port):=cell_blk (QX.out _ (Below.refl _ _)) rfl
  have q2:W.cell? ⟨qb,2,none⟩ = some (.int .u64 ad):=cell_blk (QX.out _ (Below.refl _ _)) rfl
  have q3:W.cell? ⟨qb,3,none⟩ = some (.slice da dn dc):=cell_blk (QX.out _ (Below.refl _ _)) rfl
  go_enter Tryz.func43,Tryz.ntmps43
  go_wp2_with (first | (rw [← HWc.out]) | (simp only [← HSB.out];rw [← HWs.out]) | (simp only [← HQB.out];rw [← HWq.out]) | (simp only [← HAB.out];rw [← HW.out]))
  refine HREF.out.mono ?_
  rintro e w5 ⟨rfl,hb5⟩
  clear c0 c1 c2 c3 c4 c5 s0 s1 s2 s3 q0 q1 q2 q3
  have HB5:=Lib.hid hb5
  obtain ⟨c0,c1,c2,c3,c4,c5⟩:=CX.out _ (BX.out _ hb5)
  have s0:w5.cell? ⟨sb,0,none⟩ = some (.int .i64 sp):=cell_blk (SX.out _ hb5) rfl
  have s1:w5.cell? ⟨sb,1,none⟩ = some (.bool sn):=cell_blk (SX.out _ hb5) rfl
  have s2:w5.cell? ⟨sb,2,none⟩ = some (.slice ma made.length mc):=cell_blk (SX.out _ hb5) rfl
  have s3:w5.cell? ⟨sb,3,none⟩ = some (.slice va valid.length vc):=cell_blk (SX.out _ hb5) rfl
  have q0:w5.cell? ⟨qb,0,none⟩ = some (.int .i64 8):=cell_blk (QX.out _ hb5) rfl
  have q1:w5.cell? ⟨qb,1,none⟩ = some (.int .i64 port):=cell_blk (QX.out _ hb5) rfl
  have q2:w5.cell? ⟨qb,2,none⟩ = some (.int .u64 ad):=cell_blk (QX.out _ hb5) rfl
  have q3:w5.cell? ⟨qb,3,none⟩ = some (.slice da dn dc):=cell_blk (QX.out _ hb5) rfl
  clear hb5
  clear hz
  have hth:=there_blk (W:=w5) (AX.out _ HB5.out) (n:=(#[.int .i64 0,.slice none 0 0,.bool false,.int .i64 0]:Array Value).size) rfl
  have hsz:(Tryz.prog.info? 42).map (·.size) = some (#[.int .i64 0,.slice none 0 0,.bool false,.int .i64 0]:Array Value).size:=ans_size
  go_wp2_with (with_reducible refine wpList_store_mid (by kernel_rfl) _ _ _ rfl ab 0 #[.int .i64 0,.slice none 0 0,.bool false,.int .i64 0] (by kernel_rfl) (by kernel_rfl) hth hsz (by kernel_rfl) ?_)
  have hrg:=World.rangeAt_setCells_same w5 ab 0 (#[.int .i64 0,.slice none 0 0,.bool false,.int .i64 0]:Array Value).toList (by simpa using hth)
  (try simp only [Exit.inBlock,Exit.then])
  refine bodyPost_ret (results_mid_tmp rfl _ _ ab (#[.int .i64 0,.slice none 0 0,.bool false,.int .i64 0]:Array Value).toList _ rfl hrg Tryz.underlying42 rfl ans_size rfl) rfl ?_
  exact ⟨rfl,below_setCells _ _ _ (HB.out.trans ((HB5.out).mono HB.out.size)) HAL.out⟩
theorem tonce9_b (c:Cfg) (x:CfgAt) (sp:Int) (sn:Bool) (made valid:List Int) (ma va:Option Addr) (mc vc:Nat) (port ad:Int) (da:Option Addr) (dn dc:Nat) (w:World) (hx:CfgIn w w.heap.size c x) (wx:CfgWf c) (lx:CfgFew c) (hs:SIn w made ma) (hv:SIn w valid va) (hp:(Lit.int .i64 port).wf = true) (had:(Lit.int .u64 ad).wf = true) (hdn:dn ≤ 1000000) (hT:TabsAt w) (hz:refusedN c sp sn made 9 port ad dn = 0) :
    Calls Tryz.prog 43 #[.agg (cfgCells c x),.agg #[.int .i64 sp,.bool sn,.slice ma made.length mc,.slice va valid.length vc],.agg #[.int .i64 9,.int .i64 port,.int .u64 ad,.slice da dn dc]] w fun e w' => e = .returned (.tuple #[.agg #[.int .i64 0,.slice none 0 0,.bool false,.int .i64 0],.bool false]) ∧ Below w.heap.size w w':=by
  obtain ⟨Wc,HWc,hBc,hWs,bx⟩:=one_cbox w c x 29
  obtain ⟨pa,pc,ca,cc,aa,ac,ba,bc⟩:=x
  obtain ⟨Ws,HWs,hBs,hWss,sx⟩:=box_new Wc #[.int .i64 sp,.bool sn,.slice ma made.length mc,.slice va valid.length vc] 32
  obtain ⟨Wq,HWq,hBq,hWq,qx⟩:=box_new Ws #[.int .i64 9,.int .i64 port,.int .u64 ad,.slice da dn dc] 36
  obtain ⟨W,HW,hBa,hWa,ax⟩:=box_new Wq #[.int .i64 0,.slice none 0 0,.bool false,.int .i64 0] 42
  have hQ:=hBq.trans (hBa.mono hBq.size)
  have hSQ:=hBs.trans (hQ.mono hBs.size)
  have hB:=hBc.trans (hSQ.mono hBc.size)
  have BX:Hid (∀ w',Below W.heap.size W w' → Below Wc.heap.size Wc w'):=Lib.hid (fun w' h => hSQ.trans (h.mono hSQ.size))
  have SX:Hid (∀ w',Below W.heap.size W w' → w'.heap[Wc.heap.size]? = some (.cells #[.int .i64 sp,.bool sn,.slice ma made.length mc,.slice va valid.length vc] 32 (0,0))):=Lib.hid (fun w' h => sx _ (hQ.trans (h.mono hQ.size)))
  have QX:Hid (∀ w',Below W.heap.size W w' → w'.heap[Ws.heap.size]? = some (.cells #[.int .i64 9,.int .i64 port,.int .u64 ad,.slice da dn dc] 36 (0,0))):=Lib.hid (fun w' h => qx _ (hBa.trans (h.mono hBa.size)))
  have AX:Hid (∀ w',Below W.heap.size W w' → w'.heap[Wq.heap.size]? = some (.cells #[.int .i64 0,.slice none 0 0,.bool false,.int .i64 0] 42 (0,0))):=Lib.hid (fun w' h => ax _ h)
  have hAL:w.heap.size ≤ Wq.heap.size:=(hBc.trans ((hBs.trans (hBq.mono hBs.size)).mono hBc.size)).size
  have hAS:=hWa
  obtain ⟨sb,hsb⟩:∃ n,n = Wc.heap.size:=⟨_,rfl⟩
  obtain ⟨qb,hqb⟩:∃ n,n = Ws.heap.size:=⟨_,rfl⟩
  obtain ⟨ab,hab⟩:∃ n,n = Wq.heap.size:=⟨_,rfl⟩
  rw [← hsb] at SX
  rw [← hqb] at QX
  rw [← hab] at AX hAL hAS
  have HAL:=Lib.hid hAL;have HAS:=Lib.hid hAS
  have HSB:=Lib.hid hsb;have HQB:=Lib.hid hqb;have HAB:=Lib.hid hab;have HB:=Lib.hid hB;have CX:=Lib.hid bx
  have HXW:=Lib.hid (hx.later hB);have HSW:=Lib.hid (hs.later hB);have HVW:=Lib.hid (hv.later hB);have HTW:=Lib.hid (hT.later hB)
  simp only [cfgCells] at HWc ⊢
  clear hBc hWs bx hBs hWss sx hBq hWq qx hBa hWa ax hQ hSQ hB hAL hAS hsb hqb hab hx hs hv hT
  have HREF:=Lib.hid (prefused_is c ⟨pa,pc,ca,cc,aa,ac,ba,bc⟩ sp sn made ma mc va valid.length vc (9) port ad da dn dc 0 W HXW.out wx lx HSW.out hp had hdn HTW.out hz)
  simp only [cfgCells] at HREF
  obtain ⟨c0,c1,c2,c3,c4,c5⟩:=CX.out _ (BX.out _ (Below.refl _ _))
  have s0:W.cell? ⟨sb,0,none⟩ = some (.int .i64 sp):=cell_blk (SX.out _ (Below.refl _ _)) rfl
  have s1:W.cell? ⟨sb,1,none⟩ = some (.bool sn):=cell_blk (SX.out _ (Below.refl _ _)) rfl
  have s2:W.cell? ⟨sb,2,none⟩ = some (.slice ma made.length mc):=cell_blk (SX.out _ (Below.refl _ _)) rfl
  have s3:W.cell? ⟨sb,3,none⟩ = some (.slice va valid.length vc):=cell_blk (SX.out _ (Below.refl _ _)) rfl
  have q0:W.cell? ⟨qb,0,none⟩ = some (.int .i64 9):=cell_blk (QX.out _ (Below.refl _ _)) rfl
  have q1:W.cell? ⟨qb,1,none⟩ = some (.int .i64 port):=cell_blk (QX.out _ (Below.refl _ _)) rfl
  have q2:W.cell? ⟨qb,2,none⟩ = some (.int .u64 ad):=cell_blk (QX.out _ (Below.refl _ _)) rfl
  have q3:W.cell? ⟨qb,3,none⟩ = some (.slice da dn dc):=cell_blk (QX.out _ (Below.refl _ _)) rfl
  go_enter Tryz.func43,Tryz.ntmps43
  go_wp2_with (first | (rw [← HWc.out]) | (simp only [← HSB.out];rw [← HWs.out]) | (simp only [← HQB.out];rw [← HWq.out]) | (simp only [← HAB.out];rw [← HW.out]))
  refine HREF.out.mono ?_
  rintro e w5 ⟨rfl,hb5⟩
  clear c0 c1 c2 c3 c4 c5 s0 s1 s2 s3 q0 q1 q2 q3
  have HB5:=Lib.hid hb5
  obtain ⟨c0,c1,c2,c3,c4,c5⟩:=CX.out _ (BX.out _ hb5)
  have s0:w5.cell? ⟨sb,0,none⟩ = some (.int .i64 sp):=cell_blk (SX.out _ hb5) rfl
  have s1:w5.cell? ⟨sb,1,none⟩ = some (.bool sn):=cell_blk (SX.out _ hb5) rfl
  have s2:w5.cell? ⟨sb,2,none⟩ = some (.slice ma made.length mc):=cell_blk (SX.out _ hb5) rfl
  have s3:w5.cell? ⟨sb,3,none⟩ = some (.slice va valid.length vc):=cell_blk (SX.out _ hb5) rfl
  have q0:w5.cell? ⟨qb,0,none⟩ = some (.int .i64 9):=cell_blk (QX.out _ hb5) rfl
  have q1:w5.cell? ⟨qb,1,none⟩ = some (.int .i64 port):=cell_blk (QX.out _ hb5) rfl
  have q2:w5.cell? ⟨qb,2,none⟩ = some (.int .u64 ad):=cell_blk (QX.out _ hb5) rfl
  have q3:w5.cell? ⟨qb,3,none⟩ = some (.slice da dn dc):=cell_blk (QX.out _ hb5) rfl
  clear hb5
  clear hz
  have hth:=there_blk (W:=w5) (AX.out _ HB5.out) (n:=(#[.int .i64 0,.slice none 0 0,.bool false,.int .i64 0]:Array Value).size) rfl
  have hsz:(Tryz.prog.info? 42).map (·.size) = some (#[.int .i64 0,.slice none 0 0,.bool false,.int .i64 0]:Array Value).size:=ans_size
  go_wp2_with (with_reducible refine wpList_store_mid (by kernel_rfl) _ _ _ rfl ab 0 #[.int .i64 0,.slice none 0 0,.bool false,.int .i64 0] (by kernel_rfl) (by kernel_rfl) hth hsz (by kernel_rfl) ?_)
  have hrg:=World.rangeAt_setCells_same w5 ab 0 (#[.int .i64 0,.slice none 0 0,.bool false,.int .i64 0]:Array Value).toList (by simpa using hth)
  (try simp only [Exit.inBlock,Exit.then])
  refine bodyPost_ret (results_mid_tmp rfl _ _ ab (#[.int .i64 0,.slice none 0 0,.bool false,.int .i64 0]:Array Value).toList _ rfl hrg Tryz.underlying42 rfl ans_size rfl) rfl ?_
  exact ⟨rfl,below_setCells _ _ _ (HB.out.trans ((HB5.out).mono HB.out.size)) HAL.out⟩
theorem tonce7s_b (c:Cfg) (x:CfgAt) (sp:Int) (sn:Bool) (made valid:List Int) (ma va:Option Addr) (mc vc:Nat) (port ad:Int) (da:Option Addr) (dn dc:Nat) (w:World) (hx:CfgIn w w.heap.size c x) (wx:CfgWf c) (lx:CfgFew c) (hs:SIn w made ma) (hv:SIn w valid va) (hp:(Lit.int .i64 port).wf = true) (had:(Lit.int .u64 ad).wf = true) (hdn:dn ≤ 1000000) (hT:TabsAt w) (mv:Bool) (hmv:madeB valid port = mv) (hz:refusedN c sp sn made 7 port ad dn = 0) (hk7:fld (row c.chans (portK c port).toNat) 0 = 1) :
    Calls Tryz.prog 43 #[.agg (cfgCells c x),.agg #[.int .i64 sp,.bool sn,.slice ma made.length mc,.slice va valid.length vc],.agg #[.int .i64 7,.int .i64 port,.int .u64 ad,.slice da dn dc]] w fun e w' => e = .returned (.tuple #[.agg #[.int .i64 0,.slice none 0 0,.bool mv,.int .i64 0],.bool true]) ∧ Below w.heap.size w w':=by
  obtain ⟨Wc,HWc,hBc,hWs,bx⟩:=one_cbox w c x 29
  obtain ⟨pa,pc,ca,cc,aa,ac,ba,bc⟩:=x
  obtain ⟨Ws,HWs,hBs,hWss,sx⟩:=box_new Wc #[.int .i64 sp,.bool sn,.slice ma made.length mc,.slice va valid.length vc] 32
  obtain ⟨Wq,HWq,hBq,hWq,qx⟩:=box_new Ws #[.int .i64 7,.int .i64 port,.int .u64 ad,.slice da dn dc] 36
  obtain ⟨W,HW,hBa,hWa,ax⟩:=box_new Wq #[.int .i64 0,.slice none 0 0,.bool false,.int .i64 0] 42
  have hQ:=hBq.trans (hBa.mono hBq.size)
  have hSQ:=hBs.trans (hQ.mono hBs.size)
  have hB:=hBc.trans (hSQ.mono hBc.size)
  have BX:Hid (∀ w',Below W.heap.size W w' → Below Wc.heap.size Wc w'):=Lib.hid (fun w' h => hSQ.trans (h.mono hSQ.size))
  have SX:Hid (∀ w',Below W.heap.size W w' → w'.heap[Wc.heap.size]? = some (.cells #[.int .i64 sp,.bool sn,.slice ma made.length mc,.slice va valid.length vc] 32 (0,0))):=Lib.hid (fun w' h => sx _ (hQ.trans (h.mono hQ.size)))
  have QX:Hid (∀ w',Below W.heap.size W w' → w'.heap[Ws.heap.size]? = some (.cells #[.int .i64 7,.int .i64 port,.int .u64 ad,.slice da dn dc] 36 (0,0))):=Lib.hid (fun w' h => qx _ (hBa.trans (h.mono hBa.size)))
  have AX:Hid (∀ w',Below W.heap.size W w' → w'.heap[Wq.heap.size]? = some (.cells #[.int .i64 0,.slice none 0 0,.bool false,.int .i64 0] 42 (0,0))):=Lib.hid (fun w' h => ax _ h)
  have hAL:w.heap.size ≤ Wq.heap.size:=(hBc.trans ((hBs.trans (hBq.mono hBs.size)).mono hBc.size)).size
  have hAS:=hWa
  obtain ⟨sb,hsb⟩:∃ n,n = Wc.heap.size:=⟨_,rfl⟩
  obtain ⟨qb,hqb⟩:∃ n,n = Ws.heap.size:=⟨_,rfl⟩
  obtain ⟨ab,hab⟩:∃ n,n = Wq.heap.size:=⟨_,rfl⟩
  rw [← hsb] at SX
  rw [← hqb] at QX
  rw [← hab] at AX hAL hAS
  have HAL:=Lib.hid hAL;have HAS:=Lib.hid hAS
  have HSB:=Lib.hid hsb;have HQB:=Lib.hid hqb;have HAB:=Lib.hid hab;have HB:=Lib.hid hB;have CX:=Lib.hid bx
  have HXW:=Lib.hid (hx.later hB);have HSW:=Lib.hid (hs.later hB);have HVW:=Lib.hid (hv.later hB);have HTW:=Lib.hid (hT.later hB)
  simp only [cfgCells] at HWc ⊢
  clear hBc hWs bx hBs hWss sx hBq hWq qx hBa hWa ax hQ hSQ hB hAL hAS hsb hqb hab hx hs hv hT
  have HREF:=Lib.hid (prefused_is c ⟨pa,pc,ca,cc,aa,ac,ba,bc⟩ sp sn made ma mc va valid.length vc (7) port ad da dn dc 0 W HXW.out wx lx HSW.out hp had hdn HTW.out hz)
  simp only [cfgCells] at HREF
  obtain ⟨c0,c1,c2,c3,c4,c5⟩:=CX.out _ (BX.out _ (Below.refl _ _))
  have s0:W.cell? ⟨sb,0,none⟩ = some (.int .i64 sp):=cell_blk (SX.out _ (Below.refl _ _)) rfl
  have s1:W.cell? ⟨sb,1,none⟩ = some (.bool sn):=cell_blk (SX.out _ (Below.refl _ _)) rfl
  have s2:W.cell? ⟨sb,2,none⟩ = some (.slice ma made.length mc):=cell_blk (SX.out _ (Below.refl _ _)) rfl
  have s3:W.cell? ⟨sb,3,none⟩ = some (.slice va valid.length vc):=cell_blk (SX.out _ (Below.refl _ _)) rfl
  have q0:W.cell? ⟨qb,0,none⟩ = some (.int .i64 7):=cell_blk (QX.out _ (Below.refl _ _)) rfl
  have q1:W.cell? ⟨qb,1,none⟩ = some (.int .i64 port):=cell_blk (QX.out _ (Below.refl _ _)) rfl
  have q2:W.cell? ⟨qb,2,none⟩ = some (.int .u64 ad):=cell_blk (QX.out _ (Below.refl _ _)) rfl
  have q3:W.cell? ⟨qb,3,none⟩ = some (.slice da dn dc):=cell_blk (QX.out _ (Below.refl _ _)) rfl
  go_enter Tryz.func43,Tryz.ntmps43
  go_wp2_with (first | (rw [← HWc.out]) | (simp only [← HSB.out];rw [← HWs.out]) | (simp only [← HQB.out];rw [← HWq.out]) | (simp only [← HAB.out];rw [← HW.out]))
  refine HREF.out.mono ?_
  rintro e w5 ⟨rfl,hb5⟩
  clear c0 c1 c2 c3 c4 c5 s0 s1 s2 s3 q0 q1 q2 q3
  have HB5:=Lib.hid hb5
  obtain ⟨c0,c1,c2,c3,c4,c5⟩:=CX.out _ (BX.out _ hb5)
  have s0:w5.cell? ⟨sb,0,none⟩ = some (.int .i64 sp):=cell_blk (SX.out _ hb5) rfl
  have s1:w5.cell? ⟨sb,1,none⟩ = some (.bool sn):=cell_blk (SX.out _ hb5) rfl
  have s2:w5.cell? ⟨sb,2,none⟩ = some (.slice ma made.length mc):=cell_blk (SX.out _ hb5) rfl
  have s3:w5.cell? ⟨sb,3,none⟩ = some (.slice va valid.length vc):=cell_blk (SX.out _ hb5) rfl
  have q0:w5.cell? ⟨qb,0,none⟩ = some (.int .i64 7):=cell_blk (QX.out _ hb5) rfl
  have q1:w5.cell? ⟨qb,1,none⟩ = some (.int .i64 port):=cell_blk (QX.out _ hb5) rfl
  have q2:w5.cell? ⟨qb,2,none⟩ = some (.int .u64 ad):=cell_blk (QX.out _ hb5) rfl
  have q3:w5.cell? ⟨qb,3,none⟩ = some (.slice da dn dc):=cell_blk (QX.out _ hb5) rfl
  clear hb5
  obtain ⟨hac,hbd,htk⟩:=req_talk hz (by omega) (by omega)
  obtain ⟨k,hk,hkK⟩:=portK_of hbd
  have hx6:=HXW.out.later HB5.out
  obtain ⟨b,o,x0,x1,x2,x3,x4,x5,x6,e0,hbl,e1,-,hrw⟩:=hx6.rc.at7 wx.wc hk
  rw [hkK,Int.toNat_natCast,row_at e1] at hk7
  obtain rfl:x0 = 1:=hk7
  have HP:=Lib.hid (pport_is c ⟨pa,pc,ca,cc,aa,ac,ba,bc⟩ port (k:Int) (portP c port) (portS c port) (portB c port) w5 hx6 wx lx hp ⟨hkK,rfl,rfl,rfl⟩)
  have HCA:Hid (ca = some ⟨b,o,none⟩):=Lib.hid e0
  have i0:(0:Int) ≤ (k:Int):=by omega
  have i1:(k:Int) < (c.chans.length:Int):=by omega
  simp only [cfgCells] at HP
  have HRW:=Lib.hid hrw
  clear hz hac htk hbd e1 hrw hx6 hbl e0 hkK
  go_wp2_with fail
  refine HP.out.mono ?_
  rintro e w6 ⟨rfl,hb6'⟩
  have hb6:=HB5.out.trans (hb6'.mono HB5.out.size)
  have HB6:=Lib.hid hb6
  have y0:=(HRW.out w6 hb6').1
  clear c0 c1 c2 c3 c4 c5 s0 s1 s2 s3 q0 q1 q2 q3 hb6'
  obtain ⟨c0,c1,c2,c3,c4,c5⟩:=CX.out _ (BX.out _ hb6)
  have s0:w6.cell? ⟨sb,0,none⟩ = some (.int .i64 sp):=cell_blk (SX.out _ hb6) rfl
  have s1:w6.cell? ⟨sb,1,none⟩ = some (.bool sn):=cell_blk (SX.out _ hb6) rfl
  have s2:w6.cell? ⟨sb,2,none⟩ = some (.slice ma made.length mc):=cell_blk (SX.out _ hb6) rfl
  have s3:w6.cell? ⟨sb,3,none⟩ = some (.slice va valid.length vc):=cell_blk (SX.out _ hb6) rfl
  have q0:w6.cell? ⟨qb,0,none⟩ = some (.int .i64 7):=cell_blk (QX.out _ hb6) rfl
  have q1:w6.cell? ⟨qb,1,none⟩ = some (.int .i64 port):=cell_blk (QX.out _ hb6) rfl
  have q2:w6.cell? ⟨qb,2,none⟩ = some (.int .u64 ad):=cell_blk (QX.out _ hb6) rfl
  have q3:w6.cell? ⟨qb,3,none⟩ = some (.slice da dn dc):=cell_blk (QX.out _ hb6) rfl
  rw [HCA.out] at c1
  clear hb6
  have HCON:=Lib.hid (scon_is valid va valid.length vc port mv w6 rfl (HVW.out.later HB6.out).1 HVW.out.2 hmv)
  clear hmv
  go_wp2_with fail
  refine HCON.out.mono ?_
  rintro e w7 ⟨rfl,rfl⟩
  have hth:=there_blk (W:=w6) (AX.out _ HB6.out) (n:=(#[.int .i64 0,.slice none 0 0,.bool mv,.int .i64 0]:Array Value).size) rfl
  have hsz:(Tryz.prog.info? 42).map (·.size) = some (#[.int .i64 0,.slice none 0 0,.bool mv,.int .i64 0]:Array Value).size:=ans_size
  go_wp2_with (with_reducible refine wpList_store_mid (by kernel_rfl) _ _ _ rfl ab 0 #[.int .i64 0,.slice none 0 0,.bool mv,.int .i64 0] (by kernel_rfl) (by kernel_rfl) hth hsz (by kernel_rfl) ?_)
  have hrg:=World.rangeAt_setCells_same w6 ab 0 (#[.int .i64 0,.slice none 0 0,.bool mv,.int .i64 0]:Array Value).toList (by simpa using hth)
  (try simp only [Exit.inBlock,Exit.then])
  refine bodyPost_ret (results_mid_tmp rfl _ _ ab (#[.int .i64 0,.slice none 0 0,.bool mv,.int .i64 0]:Array Value).toList _ rfl hrg Tryz.underlying42 rfl ans_size rfl) rfl ?_
  exact ⟨rfl,below_setCells _ _ _ (HB.out.trans ((HB6.out).mono HB.out.size)) HAL.out⟩
theorem tonce7q_b (c:Cfg) (x:CfgAt) (sp:Int) (sn:Bool) (made valid:List Int) (ma va:Option Addr) (mc vc:Nat) (port ad:Int) (da:Option Addr) (dn dc:Nat) (w:World) (hx:CfgIn w w.heap.size c x) (wx:CfgWf c) (lx:CfgFew c) (hs:SIn w made ma) (hv:SIn w valid va) (hp:(Lit.int .i64 port).wf = true) (had:(Lit.int .u64 ad).wf = true) (hdn:dn ≤ 1000000) (hT:TabsAt w) (hz:refusedN c sp sn made 7 port ad dn = 0) (hk7:fld (row c.chans (portK c port).toNat) 0 = 2) :
    Calls Tryz.prog 43 #[.agg (cfgCells c x),.agg #[.int .i64 sp,.bool sn,.slice ma made.length mc,.slice va valid.length vc],.agg #[.int .i64 7,.int .i64 port,.int .u64 ad,.slice da dn dc]] w fun e w' => e = .returned (.tuple #[.agg #[.int .i64 0,.slice none 0 0,.bool false,.int .i64 0],.bool false]) ∧ Below w.heap.size w w':=by
  obtain ⟨Wc,HWc,hBc,hWs,bx⟩:=one_cbox w c x 29
  obtain ⟨pa,pc,ca,cc,aa,ac,ba,bc⟩:=x
  obtain ⟨Ws,HWs,hBs,hWss,sx⟩:=box_new Wc #[.int .i64 sp,.bool sn,.slice ma made.length mc,.slice va valid.length vc] 32
  obtain ⟨Wq,HWq,hBq,hWq,qx⟩:=box_new Ws #[.int .i64 7,.int .i64 port,.int .u64 ad,.slice da dn dc] 36
  obtain ⟨W,HW,hBa,hWa,ax⟩:=box_new Wq #[.int .i64 0,.slice none 0 0,.bool false,.int .i64 0] 42
  have hQ:=hBq.trans (hBa.mono hBq.size)
  have hSQ:=hBs.trans (hQ.mono hBs.size)
  have hB:=hBc.trans (hSQ.mono hBc.size)
  have BX:Hid (∀ w',Below W.heap.size W w' → Below Wc.heap.size Wc w'):=Lib.hid (fun w' h => hSQ.trans (h.mono hSQ.size))
  have SX:Hid (∀ w',Below W.heap.size W w' → w'.heap[Wc.heap.size]? = some (.cells #[.int .i64 sp,.bool sn,.slice ma made.length mc,.slice va valid.length vc] 32 (0,0))):=Lib.hid (fun w' h => sx _ (hQ.trans (h.mono hQ.size)))
  have QX:Hid (∀ w',Below W.heap.size W w' → w'.heap[Ws.heap.size]? = some (.cells #[.int .i64 7,.int .i64 port,.int .u64 ad,.slice da dn dc] 36 (0,0))):=Lib.hid (fun w' h => qx _ (hBa.trans (h.mono hBa.size)))
  have AX:Hid (∀ w',Below W.heap.size W w' → w'.heap[Wq.heap.size]? = some (.cells #[.int .i64 0,.slice none 0 0,.bool false,.int .i64 0] 42 (0,0))):=Lib.hid (fun w' h => ax _ h)
  have hAL:w.heap.size ≤ Wq.heap.size:=(hBc.trans ((hBs.trans (hBq.mono hBs.size)).mono hBc.size)).size
  have hAS:=hWa
  obtain ⟨sb,hsb⟩:∃ n,n = Wc.heap.size:=⟨_,rfl⟩
  obtain ⟨qb,hqb⟩:∃ n,n = Ws.heap.size:=⟨_,rfl⟩
  obtain ⟨ab,hab⟩:∃ n,n = Wq.heap.size:=⟨_,rfl⟩
  rw [← hsb] at SX
  rw [← hqb] at QX
  rw [← hab] at AX hAL hAS
  have HAL:=Lib.hid hAL;have HAS:=Lib.hid hAS
  have HSB:=Lib.hid hsb;have HQB:=Lib.hid hqb;have HAB:=Lib.hid hab;have HB:=Lib.hid hB;have CX:=Lib.hid bx
  have HXW:=Lib.hid (hx.later hB);have HSW:=Lib.hid (hs.later hB);have HVW:=Lib.hid (hv.later hB);have HTW:=Lib.hid (hT.later hB)
  simp only [cfgCells] at HWc ⊢
  clear hBc hWs bx hBs hWss sx hBq hWq qx hBa hWa ax hQ hSQ hB hAL hAS hsb hqb hab hx hs hv hT
  have HREF:=Lib.hid (prefused_is c ⟨pa,pc,ca,cc,aa,ac,ba,bc⟩ sp sn made ma mc va valid.length vc (7) port ad da dn dc 0 W HXW.out wx lx HSW.out hp had hdn HTW.out hz)
  simp only [cfgCells] at HREF
  obtain ⟨c0,c1,c2,c3,c4,c5⟩:=CX.out _ (BX.out _ (Below.refl _ _))
  have s0:W.cell? ⟨sb,0,none⟩ = some (.int .i64 sp):=cell_blk (SX.out _ (Below.refl _ _)) rfl
  have s1:W.cell? ⟨sb,1,none⟩ = some (.bool sn):=cell_blk (SX.out _ (Below.refl _ _)) rfl
  have s2:W.cell? ⟨sb,2,none⟩ = some (.slice ma made.length mc):=cell_blk (SX.out _ (Below.refl _ _)) rfl
  have s3:W.cell? ⟨sb,3,none⟩ = some (.slice va valid.length vc):=cell_blk (SX.out _ (Below.refl _ _)) rfl
  have q0:W.cell? ⟨qb,0,none⟩ = some (.int .i64 7):=cell_blk (QX.out _ (Below.refl _ _)) rfl
  have q1:W.cell? ⟨qb,1,none⟩ = some (.int .i64 port):=cell_blk (QX.out _ (Below.refl _ _)) rfl
  have q2:W.cell? ⟨qb,2,none⟩ = some (.int .u64 ad):=cell_blk (QX.out _ (Below.refl _ _)) rfl
  have q3:W.cell? ⟨qb,3,none⟩ = some (.slice da dn dc):=cell_blk (QX.out _ (Below.refl _ _)) rfl
  go_enter Tryz.func43,Tryz.ntmps43
  go_wp2_with (first | (rw [← HWc.out]) | (simp only [← HSB.out];rw [← HWs.out]) | (simp only [← HQB.out];rw [← HWq.out]) | (simp only [← HAB.out];rw [← HW.out]))
  refine HREF.out.mono ?_
  rintro e w5 ⟨rfl,hb5⟩
  clear c0 c1 c2 c3 c4 c5 s0 s1 s2 s3 q0 q1 q2 q3
  have HB5:=Lib.hid hb5
  obtain ⟨c0,c1,c2,c3,c4,c5⟩:=CX.out _ (BX.out _ hb5)
  have s0:w5.cell? ⟨sb,0,none⟩ = some (.int .i64 sp):=cell_blk (SX.out _ hb5) rfl
  have s1:w5.cell? ⟨sb,1,none⟩ = some (.bool sn):=cell_blk (SX.out _ hb5) rfl
  have s2:w5.cell? ⟨sb,2,none⟩ = some (.slice ma made.length mc):=cell_blk (SX.out _ hb5) rfl
  have s3:w5.cell? ⟨sb,3,none⟩ = some (.slice va valid.length vc):=cell_blk (SX.out _ hb5) rfl
  have q0:w5.cell? ⟨qb,0,none⟩ = some (.int .i64 7):=cell_blk (QX.out _ hb5) rfl
  have q1:w5.cell? ⟨qb,1,none⟩ = some (.int .i64 port):=cell_blk (QX.out _ hb5) rfl
  have q2:w5.cell? ⟨qb,2,none⟩ = some (.int .u64 ad):=cell_blk (QX.out _ hb5) rfl
  have q3:w5.cell? ⟨qb,3,none⟩ = some (.slice da dn dc):=cell_blk (QX.out _ hb5) rfl
  clear hb5
  obtain ⟨hac,hbd,htk⟩:=req_talk hz (by omega) (by omega)
  obtain ⟨k,hk,hkK⟩:=portK_of hbd
  have hx6:=HXW.out.later HB5.out
  obtain ⟨b,o,x0,x1,x2,x3,x4,x5,x6,e0,hbl,e1,-,hrw⟩:=hx6.rc.at7 wx.wc hk
  rw [hkK,Int.toNat_natCast,row_at e1] at hk7
  obtain rfl:x0 = 2:=hk7
  have HP:=Lib.hid (pport_is c ⟨pa,pc,ca,cc,aa,ac,ba,bc⟩ port (k:Int) (portP c port) (portS c port) (portB c port) w5 hx6 wx lx hp ⟨hkK,rfl,rfl,rfl⟩)
  have HCA:Hid (ca = some ⟨b,o,none⟩):=Lib.hid e0
  have i0:(0:Int) ≤ (k:Int):=by omega
  have i1:(k:Int) < (c.chans.length:Int):=by omega
  simp only [cfgCells] at HP
  have HRW:=Lib.hid hrw
  clear hz hac htk hbd e1 hrw hx6 hbl e0 hkK
  go_wp2_with fail
  refine HP.out.mono ?_
  rintro e w6 ⟨rfl,hb6'⟩
  have hb6:=HB5.out.trans (hb6'.mono HB5.out.size)
  have HB6:=Lib.hid hb6
  have y0:=(HRW.out w6 hb6').1
  clear c0 c1 c2 c3 c4 c5 s0 s1 s2 s3 q0 q1 q2 q3 hb6'
  obtain ⟨c0,c1,c2,c3,c4,c5⟩:=CX.out _ (BX.out _ hb6)
  have s0:w6.cell? ⟨sb,0,none⟩ = some (.int .i64 sp):=cell_blk (SX.out _ hb6) rfl
  have s1:w6.cell? ⟨sb,1,none⟩ = some (.bool sn):=cell_blk (SX.out _ hb6) rfl
  have s2:w6.cell? ⟨sb,2,none⟩ = some (.slice ma made.length mc):=cell_blk (SX.out _ hb6) rfl
  have s3:w6.cell? ⟨sb,3,none⟩ = some (.slice va valid.length vc):=cell_blk (SX.out _ hb6) rfl
  have q0:w6.cell? ⟨qb,0,none⟩ = some (.int .i64 7):=cell_blk (QX.out _ hb6) rfl
  have q1:w6.cell? ⟨qb,1,none⟩ = some (.int .i64 port):=cell_blk (QX.out _ hb6) rfl
  have q2:w6.cell? ⟨qb,2,none⟩ = some (.int .u64 ad):=cell_blk (QX.out _ hb6) rfl
  have q3:w6.cell? ⟨qb,3,none⟩ = some (.slice da dn dc):=cell_blk (QX.out _ hb6) rfl
  rw [HCA.out] at c1
  clear hb6
  have hth:=there_blk (W:=w6) (AX.out _ HB6.out) (n:=(#[.int .i64 0,.slice none 0 0,.bool false,.int .i64 0]:Array Value).size) rfl
  have hsz:(Tryz.prog.info? 42).map (·.size) = some (#[.int .i64 0,.slice none 0 0,.bool false,.int .i64 0]:Array Value).size:=ans_size
  go_wp2_with (with_reducible refine wpList_store_mid (by kernel_rfl) _ _ _ rfl ab 0 #[.int .i64 0,.slice none 0 0,.bool false,.int .i64 0] (by kernel_rfl) (by kernel_rfl) hth hsz (by kernel_rfl) ?_)
  have hrg:=World.rangeAt_setCells_same w6 ab 0 (#[.int .i64 0,.slice none 0 0,.bool false,.int .i64 0]:Array Value).toList (by simpa using hth)
  (try simp only [Exit.inBlock,Exit.then])
  refine bodyPost_ret (results_mid_tmp rfl _ _ ab (#[.int .i64 0,.slice none 0 0,.bool false,.int .i64 0]:Array Value).toList _ rfl hrg Tryz.underlying42 rfl ans_size rfl) rfl ?_
  exact ⟨rfl,below_setCells _ _ _ (HB.out.trans ((HB6.out).mono HB.out.size)) HAL.out⟩
end Go.Proofs.YtjfolhkblbakiaaGreatDoor
namespace Go.Proofs.YtjfolhkblbakiaaGreatDoor
open Go.RowKit Go.Sort
set_option linter.unusedVariables false
set_option linter.unusedSimpArgs false
set_option linter.unusedVariables false
set_option linter.unusedSimpArgs false
set_option maxRecDepth 100000
set_option maxHeartbeats 1600000
theorem furth8_b (c:Cfg) (x:CfgAt) (own:Int) (port ad:Int) (da:Option Addr) (dn dc:Nat) (w:World) (hx:CfgIn w w.heap.size c x) (wx:CfgWf c) (lx:CfgFew c) (hp:(Lit.int .i64 port).wf = true)  :
    Calls Tryz.prog 45 #[.agg (cfgCells c x),.int .u32 own,.agg #[.int .i64 8,.int .i64 port,.int .u64 ad,.slice da dn dc]] w fun e w' => e = .returned (.iface 166 (.agg #[.int .u32 own,.int .u64 ad])) ∧ Below w.heap.size w w':=by
  obtain ⟨Wc,HWc,hBc,hWs,bx⟩:=one_cbox w c x 29
  obtain ⟨pa,pc,ca,cc,aa,ac,ba,bc⟩:=x
  obtain ⟨W,HW,hBq,hWq,qx⟩:=box_new Wc #[.int .i64 8,.int .i64 port,.int .u64 ad,.slice da dn dc] 36
  have hB:=hBc.trans (hBq.mono hBc.size)
  have BX:Hid (∀ w',Below W.heap.size W w' → Below Wc.heap.size Wc w'):=Lib.hid (fun w' h => hBq.trans (h.mono hBq.size))
  have QX:Hid (∀ w',Below W.heap.size W w' → w'.heap[Wc.heap.size]? = some (.cells #[.int .i64 8,.int .i64 port,.int .u64 ad,.slice da dn dc] 36 (0,0))):=Lib.hid (fun w' h => qx _ h)
  obtain ⟨qb,hqb⟩:∃ n,n = Wc.heap.size:=⟨_,rfl⟩
  rw [← hqb] at QX
  have HQB:=Lib.hid hqb;have HB:=Lib.hid hB;have CX:=Lib.hid bx
  have HXW:=Lib.hid (hx.later hB)
  simp only [cfgCells] at HWc ⊢
  clear hBc hWs bx hBq hWq qx hB hqb hx
  obtain ⟨K,hK⟩:∃ K,portK c port = K:=⟨_,rfl⟩
  obtain ⟨P,hP⟩:∃ P,portP c port = P:=⟨_,rfl⟩
  obtain ⟨SS,hSS⟩:∃ S,portS c port = S:=⟨_,rfl⟩
  obtain ⟨OO,hOO⟩:∃ S,portB c port = S:=⟨_,rfl⟩
  have HP:=Lib.hid (pport_is c ⟨pa,pc,ca,cc,aa,ac,ba,bc⟩ port K P SS OO W HXW.out wx lx hp ⟨hK,hP,hSS,hOO⟩)
  simp only [cfgCells] at HP

  clear hK hP hSS hOO
  obtain ⟨c0,c1,c2,c3,c4,c5⟩:=CX.out _ (BX.out _ (Below.refl _ _))
  have q0:W.cell? ⟨qb,0,none⟩ = some (.int .i64 8):=cell_blk (QX.out _ (Below.refl _ _)) rfl
  have q1:W.cell? ⟨qb,1,none⟩ = some (.int .i64 port):=cell_blk (QX.out _ (Below.refl _ _)) rfl
  have q2:W.cell? ⟨qb,2,none⟩ = some (.int .u64 ad):=cell_blk (QX.out _ (Below.refl _ _)) rfl
  have q3:W.cell? ⟨qb,3,none⟩ = some (.slice da dn dc):=cell_blk (QX.out _ (Below.refl _ _)) rfl
  go_enter Tryz.func45,Tryz.ntmps45
  go_wp2_with (first | (rw [← HWc.out]) | (simp only [← HQB.out];rw [← HW.out]))
  refine HP.out.mono ?_
  rintro e w5 ⟨rfl,hb5⟩
  clear c0 c1 c2 c3 c4 c5 q0 q1 q2 q3
  have HB5:=Lib.hid hb5
  have q0:w5.cell? ⟨qb,0,none⟩ = some (.int .i64 8):=cell_blk (QX.out _ hb5) rfl
  have q1:w5.cell? ⟨qb,1,none⟩ = some (.int .i64 port):=cell_blk (QX.out _ hb5) rfl
  have q2:w5.cell? ⟨qb,2,none⟩ = some (.int .u64 ad):=cell_blk (QX.out _ hb5) rfl
  have q3:w5.cell? ⟨qb,3,none⟩ = some (.slice da dn dc):=cell_blk (QX.out _ hb5) rfl
  clear hb5
  go_wp2
  go_ret
  exact ⟨rfl,HB.out.trans (HB5.out.mono HB.out.size)⟩
theorem furth9_b (c:Cfg) (x:CfgAt) (own:Int) (port ad:Int) (da:Option Addr) (dn dc:Nat) (w:World) (hx:CfgIn w w.heap.size c x) (wx:CfgWf c) (lx:CfgFew c) (hp:(Lit.int .i64 port).wf = true) (g off:Nat) (v:Int) (hda:da = some ⟨g,off,none⟩) (hdn:dn = 1) (hgv:w.cell? ⟨g,off,none⟩ = some (.int .u32 v)) :
    Calls Tryz.prog 45 #[.agg (cfgCells c x),.int .u32 own,.agg #[.int .i64 9,.int .i64 port,.int .u64 ad,.slice da dn dc]] w fun e w' => e = .returned (.iface 168 (.agg #[.int .u32 own,.int .u64 ad,.int .u32 v])) ∧ Below w.heap.size w w':=by
  subst hda
  subst hdn
  obtain ⟨Wc,HWc,hBc,hWs,bx⟩:=one_cbox w c x 29
  obtain ⟨pa,pc,ca,cc,aa,ac,ba,bc⟩:=x
  obtain ⟨W,HW,hBq,hWq,qx⟩:=box_new Wc #[.int .i64 9,.int .i64 port,.int .u64 ad,.slice (some ⟨g,off,none⟩) 1 dc] 36
  have hB:=hBc.trans (hBq.mono hBc.size)
  have BX:Hid (∀ w',Below W.heap.size W w' → Below Wc.heap.size Wc w'):=Lib.hid (fun w' h => hBq.trans (h.mono hBq.size))
  have QX:Hid (∀ w',Below W.heap.size W w' → w'.heap[Wc.heap.size]? = some (.cells #[.int .i64 9,.int .i64 port,.int .u64 ad,.slice (some ⟨g,off,none⟩) 1 dc] 36 (0,0))):=Lib.hid (fun w' h => qx _ h)
  obtain ⟨qb,hqb⟩:∃ n,n = Wc.heap.size:=⟨_,rfl⟩
  rw [← hqb] at QX
  have HQB:=Lib.hid hqb;have HB:=Lib.hid hB;have CX:=Lib.hid bx
  have HXW:=Lib.hid (hx.later hB)
  simp only [cfgCells] at HWc ⊢
  clear hBc hWs bx hBq hWq qx hB hqb hx
  obtain ⟨K,hK⟩:∃ K,portK c port = K:=⟨_,rfl⟩
  obtain ⟨P,hP⟩:∃ P,portP c port = P:=⟨_,rfl⟩
  obtain ⟨SS,hSS⟩:∃ S,portS c port = S:=⟨_,rfl⟩
  obtain ⟨OO,hOO⟩:∃ S,portB c port = S:=⟨_,rfl⟩
  have HP:=Lib.hid (pport_is c ⟨pa,pc,ca,cc,aa,ac,ba,bc⟩ port K P SS OO W HXW.out wx lx hp ⟨hK,hP,hSS,hOO⟩)
  simp only [cfgCells] at HP
  have HG:=Lib.hid (fun (w':World) (h:Below W.heap.size W w') => ((HB.out.trans (h.mono HB.out.size)).cell (p:=⟨g,off,none⟩) (World.block_lt_of_cell? w ⟨g,off,none⟩ hgv)).trans hgv)
  clear hgv
  clear hK hP hSS hOO
  obtain ⟨c0,c1,c2,c3,c4,c5⟩:=CX.out _ (BX.out _ (Below.refl _ _))
  have q0:W.cell? ⟨qb,0,none⟩ = some (.int .i64 9):=cell_blk (QX.out _ (Below.refl _ _)) rfl
  have q1:W.cell? ⟨qb,1,none⟩ = some (.int .i64 port):=cell_blk (QX.out _ (Below.refl _ _)) rfl
  have q2:W.cell? ⟨qb,2,none⟩ = some (.int .u64 ad):=cell_blk (QX.out _ (Below.refl _ _)) rfl
  have q3:W.cell? ⟨qb,3,none⟩ = some (.slice (some ⟨g,off,none⟩) 1 dc):=cell_blk (QX.out _ (Below.refl _ _)) rfl
  go_enter Tryz.func45,Tryz.ntmps45
  go_wp2_with (first | (rw [← HWc.out]) | (simp only [← HQB.out];rw [← HW.out]))
  refine HP.out.mono ?_
  rintro e w5 ⟨rfl,hb5⟩
  clear c0 c1 c2 c3 c4 c5 q0 q1 q2 q3
  have HB5:=Lib.hid hb5
  have q0:w5.cell? ⟨qb,0,none⟩ = some (.int .i64 9):=cell_blk (QX.out _ hb5) rfl
  have q1:w5.cell? ⟨qb,1,none⟩ = some (.int .i64 port):=cell_blk (QX.out _ hb5) rfl
  have q2:w5.cell? ⟨qb,2,none⟩ = some (.int .u64 ad):=cell_blk (QX.out _ hb5) rfl
  have q3:w5.cell? ⟨qb,3,none⟩ = some (.slice (some ⟨g,off,none⟩) 1 dc):=cell_blk (QX.out _ hb5) rfl
  have g0:=HG.out _ hb5
  clear hb5
  go_wp2
  go_region
  go_wp2
  go_ret
  exact ⟨rfl,HB.out.trans ((HB5.out.drew).mono HB.out.size)⟩
end Go.Proofs.YtjfolhkblbakiaaGreatDoor
namespace Go.Proofs.YtjfolhkblbakiaaGreatDoor
open Go.RowKit Go.Sort
set_option linter.unusedVariables false
set_option linter.unusedSimpArgs false
set_option linter.unusedVariables false
set_option linter.unusedSimpArgs false
set_option maxRecDepth 100000
set_option maxHeartbeats 1600000
theorem results_pmt {fn:Func} {q p u:Tmp} {ty:TypeId} (h:fn.results = #[.tmp q,.cell p ty,.tmp u]) (tmps:Array Value) (w:World) (b:Nat) (cs:List Value) (d:TypeDesc)
    (hp:tmps.getD p undef = .pointer (some ⟨b,0,none⟩)) (hc:w.rangeAt b 0 cs) (hu:Tryz.prog.underlying ty = some d) (hd:d.isRow = true) (hi:(Tryz.prog.info? ty).map (·.size) = some cs.length) {r v:Value} (hr:tmps.getD q undef = r) (hv:tmps.getD u undef = v) :
    (results fn tmps).run Tryz.prog w = .ok (.tuple #[r,.agg cs.toArray,v]) w:=by
  have hp':tmps[p]?.getD undef = .pointer (some ⟨b,0,none⟩):=by simpa using hp
  have hv':tmps[u]?.getD undef = v:=by simpa using hv
  have hr':tmps[q]?.getD undef = r:=by simpa using hr
  simp [results,h,hp',hv',hr',asAddr,run_loadVar_mid w b 0 ty cs d hc hu hd hi]
theorem cnt_size:(Tryz.prog.info? 102).map (·.size) = some 3:=by kernel_rfl
theorem begun_b (T:TypeId) (v:Value) (w:World):Calls Tryz.prog 44 #[.iface T v] w fun e w' => e = .returned (.agg #[.iface T v,.int .i64 1,.bool false]) ∧ Below w.heap.size w w':=by
  obtain ⟨W,HW,hB,hW,ax⟩:=box_new w #[.nilIface,.int .i64 0,.bool false] 102
  have hth:=there_blk (W:=W) (ax _ (Below.refl _ _)) (n:=(#[.iface T v,.int .i64 1,.bool false]:Array Value).size) rfl
  have hsz:(Tryz.prog.info? 102).map (·.size) = some (#[.iface T v,.int .i64 1,.bool false]:Array Value).size:=cnt_size
  have HB:=Lib.hid hB
  clear hB ax hW
  go_enter Tryz.func44,Tryz.ntmps44
  go_wp2_with (first | (rw [← HW.out]) | (with_reducible refine wpList_store_mid (by kernel_rfl) _ _ _ rfl w.heap.size 0 #[.iface T v,.int .i64 1,.bool false] (by kernel_rfl) (by kernel_rfl) hth hsz (by kernel_rfl) ?_))
  have hrg:=World.rangeAt_setCells_same W w.heap.size 0 (#[.iface T v,.int .i64 1,.bool false]:Array Value).toList (by simpa using hth)
  (try simp only [Exit.inBlock,Exit.then])
  refine bodyPost_ret (results_cell_mid rfl _ _ w.heap.size (#[.iface T v,.int .i64 1,.bool false]:Array Value).toList _ rfl hrg Tryz.underlying102 rfl cnt_size) rfl ?_
  exact ⟨rfl,below_setCells _ _ _ HB.out (Nat.le_refl _)⟩
theorem begin1_b (c:Cfg) (x:CfgAt) (sp:Int) (sn:Bool) (own:Int) (made valid:List Int) (ma va:Option Addr) (mc vc:Nat) (port ad:Int) (da:Option Addr) (dn dc:Nat) (w:World) (hx:CfgIn w w.heap.size c x) (wx:CfgWf c) (lx:CfgFew c) (hs:SIn w made ma) (hv:SIn w valid va) (hp:(Lit.int .i64 port).wf = true) (had:(Lit.int .u64 ad).wf = true) (hdn:dn ≤ 1000000) (hT:TabsAt w) (hz:refusedN c sp sn made 1 port ad dn = 0) :
    Calls Tryz.prog 12 #[.agg (cfgCells c x),.agg #[.int .i64 sp,.bool sn,.slice ma made.length mc,.slice va valid.length vc],.int .u32 own,.agg #[.int .i64 1,.int .i64 port,.int .u64 ad,.slice da dn dc]] w fun e w' => e = .returned (.tuple #[.pointer none,.agg #[.int .i64 0,.slice none 0 0,.bool false,.int .i64 0],.bool true]) ∧ Below w.heap.size w w':=by
  obtain ⟨Wc,HWc,hBc,hWs,bx⟩:=one_cbox w c x 29
  obtain ⟨pa,pc,ca,cc,aa,ac,ba,bc⟩:=x
  obtain ⟨Ws,HWs,hBs,hWss,sx⟩:=box_new Wc #[.int .i64 sp,.bool sn,.slice ma made.length mc,.slice va valid.length vc] 32
  obtain ⟨Wq,HWq,hBq,hWq,qx⟩:=box_new Ws #[.int .i64 1,.int .i64 port,.int .u64 ad,.slice da dn dc] 36
  obtain ⟨W,HW,hBa,hWa,ax⟩:=box_new Wq #[.int .i64 0,.slice none 0 0,.bool false,.int .i64 0] 42
  have hQ:=hBq.trans (hBa.mono hBq.size)
  have hSQ:=hBs.trans (hQ.mono hBs.size)
  have hB:=hBc.trans (hSQ.mono hBc.size)
  have BX:Hid (∀ w',Below W.heap.size W w' → Below Wc.heap.size Wc w'):=Lib.hid (fun w' h => hSQ.trans (h.mono hSQ.size))
  have SX:Hid (∀ w',Below W.heap.size W w' → w'.heap[Wc.heap.size]? = some (.cells #[.int .i64 sp,.bool sn,.slice ma made.length mc,.slice va valid.length vc] 32 (0,0))):=Lib.hid (fun w' h => sx _ (hQ.trans (h.mono hQ.size)))
  have QX:Hid (∀ w',Below W.heap.size W w' → w'.heap[Ws.heap.size]? = some (.cells #[.int .i64 1,.int .i64 port,.int .u64 ad,.slice da dn dc] 36 (0,0))):=Lib.hid (fun w' h => qx _ (hBa.trans (h.mono hBa.size)))
  have AX:Hid (∀ w',Below W.heap.size W w' → w'.heap[Wq.heap.size]? = some (.cells #[.int .i64 0,.slice none 0 0,.bool false,.int .i64 0] 42 (0,0))):=Lib.hid (fun w' h => ax _ h)
  have hAL:w.heap.size ≤ Wq.heap.size:=(hBc.trans ((hBs.trans (hBq.mono hBs.size)).mono hBc.size)).size
  have hAS:=hWa
  obtain ⟨sb,hsb⟩:∃ n,n = Wc.heap.size:=⟨_,rfl⟩
  obtain ⟨qb,hqb⟩:∃ n,n = Ws.heap.size:=⟨_,rfl⟩
  obtain ⟨ab,hab⟩:∃ n,n = Wq.heap.size:=⟨_,rfl⟩
  rw [← hsb] at SX
  rw [← hqb] at QX
  rw [← hab] at AX hAL hAS
  have HAL:=Lib.hid hAL;have HAS:=Lib.hid hAS
  have HSB:=Lib.hid hsb;have HQB:=Lib.hid hqb;have HAB:=Lib.hid hab;have HB:=Lib.hid hB;have CX:=Lib.hid bx
  have HXW:=Lib.hid (hx.later hB);have HSW:=Lib.hid (hs.later hB);have HVW:=Lib.hid (hv.later hB);have HTW:=Lib.hid (hT.later hB)
  simp only [cfgCells] at HWc ⊢
  clear hBc hWs bx hBs hWss sx hBq hWq qx hBa hWa ax hQ hSQ hB hAL hAS hsb hqb hab hx hs hv hT
  have HON:=Lib.hid (tonce1_b c ⟨pa,pc,ca,cc,aa,ac,ba,bc⟩ sp sn made valid ma va mc vc port ad da dn dc W HXW.out wx lx HSW.out HVW.out hp had hdn HTW.out hz)
  simp only [cfgCells] at HON
  clear hz
  obtain ⟨c0,c1,c2,c3,c4,c5⟩:=CX.out _ (BX.out _ (Below.refl _ _))
  have s0:W.cell? ⟨sb,0,none⟩ = some (.int .i64 sp):=cell_blk (SX.out _ (Below.refl _ _)) rfl
  have s1:W.cell? ⟨sb,1,none⟩ = some (.bool sn):=cell_blk (SX.out _ (Below.refl _ _)) rfl
  have s2:W.cell? ⟨sb,2,none⟩ = some (.slice ma made.length mc):=cell_blk (SX.out _ (Below.refl _ _)) rfl
  have s3:W.cell? ⟨sb,3,none⟩ = some (.slice va valid.length vc):=cell_blk (SX.out _ (Below.refl _ _)) rfl
  have q0:W.cell? ⟨qb,0,none⟩ = some (.int .i64 1):=cell_blk (QX.out _ (Below.refl _ _)) rfl
  have q1:W.cell? ⟨qb,1,none⟩ = some (.int .i64 port):=cell_blk (QX.out _ (Below.refl _ _)) rfl
  have q2:W.cell? ⟨qb,2,none⟩ = some (.int .u64 ad):=cell_blk (QX.out _ (Below.refl _ _)) rfl
  have q3:W.cell? ⟨qb,3,none⟩ = some (.slice da dn dc):=cell_blk (QX.out _ (Below.refl _ _)) rfl
  go_enter Tryz.func12,Tryz.ntmps12
  go_wp2_with (first | (rw [← HWc.out]) | (simp only [← HSB.out];rw [← HWs.out]) | (simp only [← HQB.out];rw [← HWq.out]) | (simp only [← HAB.out];rw [← HW.out]))
  refine HON.out.mono ?_
  rintro e w5 ⟨rfl,hb5⟩
  clear c0 c1 c2 c3 c4 c5 s0 s1 s2 s3 q0 q1 q2 q3
  obtain ⟨Y1,HY1,hbY1,hsY1,yx⟩:=box_new w5 #[.int .i64 0,.slice none 0 0,.bool false,.int .i64 0] 42
  have hth1:=there_blk (W:=Y1) (yx _ (Below.refl _ _)) (n:=(#[.int .i64 0,.slice none 0 0,.bool false,.int .i64 0]:Array Value).size) rfl
  have hsz1:(Tryz.prog.info? 42).map (·.size) = some (#[.int .i64 0,.slice none 0 0,.bool false,.int .i64 0]:Array Value).size:=ans_size
  obtain ⟨Y2,HY2⟩:∃ u,Hid (u = Y1.setCells w5.heap.size 0 [.int .i64 0,.slice none 0 0,.bool false,.int .i64 0]):=⟨_,rfl⟩
  have hy2:Y2.heap[w5.heap.size]? = some (.cells #[.int .i64 0,.slice none 0 0,.bool false,.int .i64 0] 42 (0,0)):=by rw [HY2.out];exact block_setCells (yx _ (Below.refl _ _)) _ rfl
  have hb2:Below W.heap.size W Y2:=by rw [HY2.out];exact below_setCells _ _ _ (hb5.trans (hbY1.mono hb5.size)) hb5.size
  obtain ⟨lb,hlb⟩:∃ n,n = w5.heap.size:=⟨_,rfl⟩
  rw [← hlb] at hth1 hy2
  have HLB:=Lib.hid hlb;have HB2:=Lib.hid hb2;have H2L:=Lib.hid hy2
  obtain ⟨c0,c1,c2,c3,c4,c5⟩:=CX.out _ (BX.out _ hb2)
  have s0:Y2.cell? ⟨sb,0,none⟩ = some (.int .i64 sp):=cell_blk (SX.out _ hb2) rfl
  have s1:Y2.cell? ⟨sb,1,none⟩ = some (.bool sn):=cell_blk (SX.out _ hb2) rfl
  have s2:Y2.cell? ⟨sb,2,none⟩ = some (.slice ma made.length mc):=cell_blk (SX.out _ hb2) rfl
  have s3:Y2.cell? ⟨sb,3,none⟩ = some (.slice va valid.length vc):=cell_blk (SX.out _ hb2) rfl
  have q0:Y2.cell? ⟨qb,0,none⟩ = some (.int .i64 1):=cell_blk (QX.out _ hb2) rfl
  have q1:Y2.cell? ⟨qb,1,none⟩ = some (.int .i64 port):=cell_blk (QX.out _ hb2) rfl
  have q2:Y2.cell? ⟨qb,2,none⟩ = some (.int .u64 ad):=cell_blk (QX.out _ hb2) rfl
  have q3:Y2.cell? ⟨qb,3,none⟩ = some (.slice da dn dc):=cell_blk (QX.out _ hb2) rfl
  have l0:Y2.cell? ⟨lb,0,none⟩ = some (.int .i64 0):=cell_blk hy2 rfl
  have l1:Y2.cell? ⟨lb,1,none⟩ = some (.slice none 0 0):=cell_blk hy2 rfl
  have l2:Y2.cell? ⟨lb,2,none⟩ = some (.bool false):=cell_blk hy2 rfl
  have l3:Y2.cell? ⟨lb,3,none⟩ = some (.int .i64 0):=cell_blk hy2 rfl
  clear hb5 hbY1 hsY1 yx hy2 hb2 hlb
  go_wp2_with (first | (simp only [← HLB.out];rw [← HY1.out]) | (with_reducible refine wpList_store_mid (by kernel_rfl) _ _ _ rfl lb 0 #[.int .i64 0,.slice none 0 0,.bool false,.int .i64 0] (by kernel_rfl) (by kernel_rfl) hth1 hsz1 (by kernel_rfl) ?_) | (simp only [HLB.out];rw [← HY2.out];simp only [← HLB.out]))
  have hth:=there_blk (W:=Y2) (AX.out _ HB2.out) (n:=(#[.int .i64 0,.slice none 0 0,.bool false,.int .i64 0]:Array Value).size) rfl
  have hsz:(Tryz.prog.info? 42).map (·.size) = some (#[.int .i64 0,.slice none 0 0,.bool false,.int .i64 0]:Array Value).size:=ans_size
  have ha:=AX.out _ HB2.out
  have b0:Y2.cell? ⟨ab,0,none⟩ = some (.int .i64 0):=cell_blk ha rfl
  have b1:Y2.cell? ⟨ab,1,none⟩ = some (.slice none 0 0):=cell_blk ha rfl
  have b2:Y2.cell? ⟨ab,2,none⟩ = some (.bool false):=cell_blk ha rfl
  have b3:Y2.cell? ⟨ab,3,none⟩ = some (.int .i64 0):=cell_blk ha rfl
  have f0:Y2.frozen? ⟨ab,0,none⟩ = false:=by simp [World.frozen?,ha]
  have f1:Y2.frozen? ⟨ab,1,none⟩ = false:=by simp [World.frozen?,ha]
  have f2:Y2.frozen? ⟨ab,2,none⟩ = false:=by simp [World.frozen?,ha]
  have f3:Y2.frozen? ⟨ab,3,none⟩ = false:=by simp [World.frozen?,ha]
  have hrg:(Y2.setCells ab 0 (#[.int .i64 0,.slice none 0 0,.bool false,.int .i64 0]:Array Value).toList).drew.rangeAt ab 0 (#[.int .i64 0,.slice none 0 0,.bool false,.int .i64 0]:Array Value).toList:=World.rangeAt_setCells_same Y2 ab 0 (#[.int .i64 0,.slice none 0 0,.bool false,.int .i64 0]:Array Value).toList (by simpa using hth)
  have HRG:=Lib.hid hrg
  clear hth hsz ha hrg
  go_region
  go_wp2
  (try simp only [Exit.inBlock,Exit.then])
  refine bodyPost_ret (results_pmt rfl _ _ ab (#[.int .i64 0,.slice none 0 0,.bool false,.int .i64 0]:Array Value).toList _ rfl (by exact HRG.out) Tryz.underlying42 rfl ans_size rfl rfl) rfl ?_
  exact ⟨rfl,(below_setCells (#[.int .i64 0,.slice none 0 0,.bool false,.int .i64 0]:Array Value).toList 0 Y2 (HB.out.trans (HB2.out.mono HB.out.size)) HAL.out).drew⟩
theorem begin8_b (c:Cfg) (x:CfgAt) (sp:Int) (sn:Bool) (own:Int) (made valid:List Int) (ma va:Option Addr) (mc vc:Nat) (port ad:Int) (da:Option Addr) (dn dc:Nat) (w:World) (hx:CfgIn w w.heap.size c x) (wx:CfgWf c) (lx:CfgFew c) (hs:SIn w made ma) (hv:SIn w valid va) (hp:(Lit.int .i64 port).wf = true) (had:(Lit.int .u64 ad).wf = true) (hdn:dn ≤ 1000000) (hT:TabsAt w) (hz:refusedN c sp sn made 8 port ad dn = 0) :
    Calls Tryz.prog 12 #[.agg (cfgCells c x),.agg #[.int .i64 sp,.bool sn,.slice ma made.length mc,.slice va valid.length vc],.int .u32 own,.agg #[.int .i64 8,.int .i64 port,.int .u64 ad,.slice da dn dc]] w fun e w' => ∃ tb,e = .returned (.tuple #[.pointer (some ⟨tb,0,none⟩),.agg #[.int .i64 0,.slice none 0 0,.bool false,.int .i64 0],.bool false]) ∧ w'.heap[tb]? = some (.cells #[.iface 166 (.agg #[.int .u32 own,.int .u64 ad]),.int .i64 1,.bool false] 106 (0,0)) ∧ w.heap.size ≤ tb ∧ Below w.heap.size w w':=by
  obtain ⟨Wc,HWc,hBc,hWs,bx⟩:=one_cbox w c x 29
  obtain ⟨pa,pc,ca,cc,aa,ac,ba,bc⟩:=x
  obtain ⟨Ws,HWs,hBs,hWss,sx⟩:=box_new Wc #[.int .i64 sp,.bool sn,.slice ma made.length mc,.slice va valid.length vc] 32
  obtain ⟨Wq,HWq,hBq,hWq,qx⟩:=box_new Ws #[.int .i64 8,.int .i64 port,.int .u64 ad,.slice da dn dc] 36
  obtain ⟨W,HW,hBa,hWa,ax⟩:=box_new Wq #[.int .i64 0,.slice none 0 0,.bool false,.int .i64 0] 42
  have hQ:=hBq.trans (hBa.mono hBq.size)
  have hSQ:=hBs.trans (hQ.mono hBs.size)
  have hB:=hBc.trans (hSQ.mono hBc.size)
  have BX:Hid (∀ w',Below W.heap.size W w' → Below Wc.heap.size Wc w'):=Lib.hid (fun w' h => hSQ.trans (h.mono hSQ.size))
  have SX:Hid (∀ w',Below W.heap.size W w' → w'.heap[Wc.heap.size]? = some (.cells #[.int .i64 sp,.bool sn,.slice ma made.length mc,.slice va valid.length vc] 32 (0,0))):=Lib.hid (fun w' h => sx _ (hQ.trans (h.mono hQ.size)))
  have QX:Hid (∀ w',Below W.heap.size W w' → w'.heap[Ws.heap.size]? = some (.cells #[.int .i64 8,.int .i64 port,.int .u64 ad,.slice da dn dc] 36 (0,0))):=Lib.hid (fun w' h => qx _ (hBa.trans (h.mono hBa.size)))
  have AX:Hid (∀ w',Below W.heap.size W w' → w'.heap[Wq.heap.size]? = some (.cells #[.int .i64 0,.slice none 0 0,.bool false,.int .i64 0] 42 (0,0))):=Lib.hid (fun w' h => ax _ h)
  have hAL:w.heap.size ≤ Wq.heap.size:=(hBc.trans ((hBs.trans (hBq.mono hBs.size)).mono hBc.size)).size
  have hAS:=hWa
  obtain ⟨sb,hsb⟩:∃ n,n = Wc.heap.size:=⟨_,rfl⟩
  obtain ⟨qb,hqb⟩:∃ n,n = Ws.heap.size:=⟨_,rfl⟩
  obtain ⟨ab,hab⟩:∃ n,n = Wq.heap.size:=⟨_,rfl⟩
  rw [← hsb] at SX
  rw [← hqb] at QX
  rw [← hab] at AX hAL hAS
  have HAL:=Lib.hid hAL;have HAS:=Lib.hid hAS
  have HSB:=Lib.hid hsb;have HQB:=Lib.hid hqb;have HAB:=Lib.hid hab;have HB:=Lib.hid hB;have CX:=Lib.hid bx
  have HXW:=Lib.hid (hx.later hB);have HSW:=Lib.hid (hs.later hB);have HVW:=Lib.hid (hv.later hB);have HTW:=Lib.hid (hT.later hB)
  simp only [cfgCells] at HWc ⊢
  clear hBc hWs bx hBs hWss sx hBq hWq qx hBa hWa ax hQ hSQ hB hAL hAS hsb hqb hab hx hs hv hT
  have HON:=Lib.hid (tonce8_b c ⟨pa,pc,ca,cc,aa,ac,ba,bc⟩ sp sn made valid ma va mc vc port ad da dn dc W HXW.out wx lx HSW.out HVW.out hp had hdn HTW.out hz)
  simp only [cfgCells] at HON
  have HFU:=Lib.hid (fun (V:World) (hb:Below W.heap.size W V) => furth8_b c ⟨pa,pc,ca,cc,aa,ac,ba,bc⟩ own port ad da dn dc V (HXW.out.later hb) wx lx hp)
  simp only [cfgCells] at HFU
  clear hz
  obtain ⟨c0,c1,c2,c3,c4,c5⟩:=CX.out _ (BX.out _ (Below.refl _ _))
  have s0:W.cell? ⟨sb,0,none⟩ = some (.int .i64 sp):=cell_blk (SX.out _ (Below.refl _ _)) rfl
  have s1:W.cell? ⟨sb,1,none⟩ = some (.bool sn):=cell_blk (SX.out _ (Below.refl _ _)) rfl
  have s2:W.cell? ⟨sb,2,none⟩ = some (.slice ma made.length mc):=cell_blk (SX.out _ (Below.refl _ _)) rfl
  have s3:W.cell? ⟨sb,3,none⟩ = some (.slice va valid.length vc):=cell_blk (SX.out _ (Below.refl _ _)) rfl
  have q0:W.cell? ⟨qb,0,none⟩ = some (.int .i64 8):=cell_blk (QX.out _ (Below.refl _ _)) rfl
  have q1:W.cell? ⟨qb,1,none⟩ = some (.int .i64 port):=cell_blk (QX.out _ (Below.refl _ _)) rfl
  have q2:W.cell? ⟨qb,2,none⟩ = some (.int .u64 ad):=cell_blk (QX.out _ (Below.refl _ _)) rfl
  have q3:W.cell? ⟨qb,3,none⟩ = some (.slice da dn dc):=cell_blk (QX.out _ (Below.refl _ _)) rfl
  go_enter Tryz.func12,Tryz.ntmps12
  go_wp2_with (first | (rw [← HWc.out]) | (simp only [← HSB.out];rw [← HWs.out]) | (simp only [← HQB.out];rw [← HWq.out]) | (simp only [← HAB.out];rw [← HW.out]))
  refine HON.out.mono ?_
  rintro e w5 ⟨rfl,hb5⟩
  clear c0 c1 c2 c3 c4 c5 s0 s1 s2 s3 q0 q1 q2 q3
  obtain ⟨Y1,HY1,hbY1,hsY1,yx⟩:=box_new w5 #[.int .i64 0,.slice none 0 0,.bool false,.int .i64 0] 42
  have hth1:=there_blk (W:=Y1) (yx _ (Below.refl _ _)) (n:=(#[.int .i64 0,.slice none 0 0,.bool false,.int .i64 0]:Array Value).size) rfl
  have hsz1:(Tryz.prog.info? 42).map (·.size) = some (#[.int .i64 0,.slice none 0 0,.bool false,.int .i64 0]:Array Value).size:=ans_size
  obtain ⟨Y2,HY2⟩:∃ u,Hid (u = Y1.setCells w5.heap.size 0 [.int .i64 0,.slice none 0 0,.bool false,.int .i64 0]):=⟨_,rfl⟩
  have hy2:Y2.heap[w5.heap.size]? = some (.cells #[.int .i64 0,.slice none 0 0,.bool false,.int .i64 0] 42 (0,0)):=by rw [HY2.out];exact block_setCells (yx _ (Below.refl _ _)) _ rfl
  have hb2:Below W.heap.size W Y2:=by rw [HY2.out];exact below_setCells _ _ _ (hb5.trans (hbY1.mono hb5.size)) hb5.size
  obtain ⟨lb,hlb⟩:∃ n,n = w5.heap.size:=⟨_,rfl⟩
  rw [← hlb] at hth1 hy2
  have HLB:=Lib.hid hlb;have HB2:=Lib.hid hb2;have H2L:=Lib.hid hy2
  obtain ⟨c0,c1,c2,c3,c4,c5⟩:=CX.out _ (BX.out _ hb2)
  have s0:Y2.cell? ⟨sb,0,none⟩ = some (.int .i64 sp):=cell_blk (SX.out _ hb2) rfl
  have s1:Y2.cell? ⟨sb,1,none⟩ = some (.bool sn):=cell_blk (SX.out _ hb2) rfl
  have s2:Y2.cell? ⟨sb,2,none⟩ = some (.slice ma made.length mc):=cell_blk (SX.out _ hb2) rfl
  have s3:Y2.cell? ⟨sb,3,none⟩ = some (.slice va valid.length vc):=cell_blk (SX.out _ hb2) rfl
  have q0:Y2.cell? ⟨qb,0,none⟩ = some (.int .i64 8):=cell_blk (QX.out _ hb2) rfl
  have q1:Y2.cell? ⟨qb,1,none⟩ = some (.int .i64 port):=cell_blk (QX.out _ hb2) rfl
  have q2:Y2.cell? ⟨qb,2,none⟩ = some (.int .u64 ad):=cell_blk (QX.out _ hb2) rfl
  have q3:Y2.cell? ⟨qb,3,none⟩ = some (.slice da dn dc):=cell_blk (QX.out _ hb2) rfl
  have l0:Y2.cell? ⟨lb,0,none⟩ = some (.int .i64 0):=cell_blk hy2 rfl
  have l1:Y2.cell? ⟨lb,1,none⟩ = some (.slice none 0 0):=cell_blk hy2 rfl
  have l2:Y2.cell? ⟨lb,2,none⟩ = some (.bool false):=cell_blk hy2 rfl
  have l3:Y2.cell? ⟨lb,3,none⟩ = some (.int .i64 0):=cell_blk hy2 rfl
  clear hb5 hbY1 hsY1 yx hy2 hb2 hlb
  go_wp2_with (first | (simp only [← HLB.out];rw [← HY1.out]) | (with_reducible refine wpList_store_mid (by kernel_rfl) _ _ _ rfl lb 0 #[.int .i64 0,.slice none 0 0,.bool false,.int .i64 0] (by kernel_rfl) (by kernel_rfl) hth1 hsz1 (by kernel_rfl) ?_) | (simp only [HLB.out];rw [← HY2.out];simp only [← HLB.out]))
  refine (HFU.out Y2 HB2.out).mono ?_
  rintro e w6 ⟨rfl,hb6⟩
  go_wp2_with fail
  refine (begun_b _ _ w6).mono ?_
  rintro e w7 ⟨rfl,hb7⟩
  have h27:=hb6.trans (hb7.mono hb6.size)
  have hW7:=HB2.out.trans (h27.mono HB2.out.size)
  obtain ⟨V,HV,hbV,hsV,vx⟩:=box_new w7 #[.iface 166 (.agg #[.int .u32 own,.int .u64 ad]),.int .i64 1,.bool false] 106
  have hWV:=hW7.trans (hbV.mono hW7.size)
  obtain ⟨tb,htb⟩:∃ n,n = w7.heap.size:=⟨_,rfl⟩
  have hvt:V.heap[tb]? = some (.cells #[.iface 166 (.agg #[.int .u32 own,.int .u64 ad]),.int .i64 1,.bool false] 106 (0,0)):=by rw [htb];exact vx _ (Below.refl _ _)
  have hlt:ab < tb ∧ w.heap.size ≤ tb:=by
    have q1:=HAS.out;have q2:=hW7.size;have q3:=HB.out.size
    rw [htb];omega
  have HTB:=Lib.hid htb;have HLT:=Lib.hid hlt;have HVT:=Lib.hid hvt;have HWV:=Lib.hid hWV
  have hth:=there_blk (W:=V) (AX.out _ HWV.out) (n:=(#[.int .i64 0,.slice none 0 0,.bool false,.int .i64 0]:Array Value).size) rfl
  have hsz:(Tryz.prog.info? 42).map (·.size) = some (#[.int .i64 0,.slice none 0 0,.bool false,.int .i64 0]:Array Value).size:=ans_size
  clear hb6 hb7 h27 hW7 hbV hsV vx hWV htb hvt hlt
  go_wp2_with (first | (simp only [← HTB.out];rw [← HV.out]) | (with_reducible refine wpList_store_mid (by kernel_rfl) _ _ _ rfl ab 0 #[.int .i64 0,.slice none 0 0,.bool false,.int .i64 0] (by kernel_rfl) (by kernel_rfl) hth hsz (by kernel_rfl) ?_))
  have hrg:=World.rangeAt_setCells_same V ab 0 (#[.int .i64 0,.slice none 0 0,.bool false,.int .i64 0]:Array Value).toList (by simpa using hth)
  (try simp only [Exit.inBlock,Exit.then])
  refine bodyPost_ret (results_pmt rfl _ _ ab (#[.int .i64 0,.slice none 0 0,.bool false,.int .i64 0]:Array Value).toList _ rfl hrg Tryz.underlying42 rfl ans_size rfl rfl) rfl ?_
  have ho:=Only.sets (S:=fun k => k = ab) rfl (#[.int .i64 0,.slice none 0 0,.bool false,.int .i64 0]:Array Value).toList 0 (Only.refl _ V)
  exact ⟨tb,rfl,ho.at_ HVT.out (by have:=HLT.out.1;omega),HLT.out.2,below_setCells _ _ _ (HB.out.trans (HWV.out.mono HB.out.size)) HAL.out⟩
end Go.Proofs.YtjfolhkblbakiaaGreatDoor
namespace Go.Proofs.YtjfolhkblbakiaaGreatDoor
open Go.RowKit Go.Sort
set_option linter.unusedVariables false
set_option linter.unusedSimpArgs false
set_option linter.unusedVariables false
set_option linter.unusedSimpArgs false
set_option maxRecDepth 100000
set_option maxHeartbeats 1600000
theorem peekS_b {w:World} {mb rb:Nat} {ws:List Int} (own a:Int) (k:Nat) (ha:a = (k:Int)) (bv:Value) (now:Int) (h:MemAt w mb rb ws) (hl:ws.length ≤ 1000000) (hk:k < ws.length) :
    Calls Tryz.prog 256 #[.agg #[.int .u32 own,.int .u64 a],.pointer (some ⟨mb,0,none⟩),bv,.int .i64 now] w fun e w' => ∃ db,e = .returned (.agg #[.bool true,.int .i64 0,.slice (some ⟨db,0,none⟩) 1 1,.bool false,.int .i64 0,.bool true,.bool false,.bool false,.int .i64 0]) ∧ w.heap.size ≤ db ∧ w'.heap[db]? = some (.cells #[.int .u32 (ws.getD k 0)] 45 (0,0)) ∧ Below w.heap.size w w':=by
  subst ha
  obtain ⟨W1,HW1,hB1,hs1,px⟩:=box_new w #[.int .u32 own,.int .u64 (k:Int)] 166
  obtain ⟨W,HW,hB2,hs2,dx⟩:=box_new W1 #[.bool false,.int .i64 0,.slice none 0 0,.bool false,.int .i64 0,.bool false,.bool false,.bool false,.int .i64 0] 68
  have hB:=hB1.trans (hB2.mono hB1.size)
  have HL:=Lib.hid (memLoad_in mb rb ws k W (h.below hB) hl hk)
  obtain ⟨v,hv⟩:∃ v,ws.getD k 0 = v:=⟨_,rfl⟩
  rw [hv] at HL ⊢
  have p1:W.cell? ⟨w.heap.size,1,none⟩ = some (.int .u64 (k:Int)):=cell_blk (px _ hB2) rfl
  obtain ⟨X,HX,hB3,hs3,vx⟩:=box_new W #[.int .u32 v] 45
  obtain ⟨zb,hzb⟩:∃ n,n = W1.heap.size:=⟨_,rfl⟩
  have hzx:X.heap[zb]? = some (.cells #[.bool false,.int .i64 0,.slice none 0 0,.bool false,.int .i64 0,.bool false,.bool false,.bool false,.int .i64 0] 68 (0,0)):=by rw [hzb];exact dx _ hB3
  have hth:=there_at (W:=X) hzx (n:=(#[.bool true,.int .i64 0,.slice (some ⟨W.heap.size,0,none⟩) 1 1,.bool false,.int .i64 0,.bool true,.bool false,.bool false,.int .i64 0]:Array Value).size) rfl
  have hsd:(Tryz.prog.info? 68).map (·.size) = some (#[.bool true,.int .i64 0,.slice (some ⟨W.heap.size,0,none⟩) 1 1,.bool false,.int .i64 0,.bool true,.bool false,.bool false,.int .i64 0]:Array Value).size:=did_size
  have HZB:=Lib.hid hzb;have HB:=Lib.hid hB;have HB3:=Lib.hid hB3;have HVX:=Lib.hid (vx _ (Below.refl _ _))
  have HLT:=Lib.hid (show w.heap.size ≤ zb ∧ zb < W.heap.size ∧ w.heap.size ≤ W.heap.size by have:=hB1.size;rw [hzb];exact ⟨this,hs2,hB.size⟩)
  clear hv hB1 hs1 px hB2 hs2 dx hB hB3 hs3 vx hzb hzx h hl hk
  go_enter Tryz.func256,Tryz.ntmps256
  go_wp2_with (first | (rw [← HW1.out]) | (simp only [← HZB.out];rw [← HW.out]))
  refine HL.out.mono ?_
  rintro e w5 ⟨rfl,rfl⟩
  go_wp2_with (first | (rw [← HX.out]) | (with_reducible refine wpList_store_mid (by kernel_rfl) _ _ _ rfl zb 0 #[.bool true,.int .i64 0,.slice (some ⟨W.heap.size,0,none⟩) 1 1,.bool false,.int .i64 0,.bool true,.bool false,.bool false,.int .i64 0] (by kernel_rfl) (by kernel_rfl) hth hsd (by kernel_rfl) ?_))
  have hrg:=World.rangeAt_setCells_same X zb 0 (#[.bool true,.int .i64 0,.slice (some ⟨W.heap.size,0,none⟩) 1 1,.bool false,.int .i64 0,.bool true,.bool false,.bool false,.int .i64 0]:Array Value).toList (by simpa using hth)
  (try simp only [Exit.inBlock,Exit.then])
  refine bodyPost_ret (results_cell_mid rfl _ _ zb (#[.bool true,.int .i64 0,.slice (some ⟨W.heap.size,0,none⟩) 1 1,.bool false,.int .i64 0,.bool true,.bool false,.bool false,.int .i64 0]:Array Value).toList _ rfl hrg Tryz.underlying68 rfl did_size) rfl ?_
  have ho:=Only.sets (S:=fun k => k = zb) rfl (#[.bool true,.int .i64 0,.slice (some ⟨W.heap.size,0,none⟩) 1 1,.bool false,.int .i64 0,.bool true,.bool false,.bool false,.int .i64 0]:Array Value).toList 0 (Only.refl _ X)
  exact ⟨W.heap.size,rfl,HLT.out.2.2,ho.at_ HVX.out (by have:=HLT.out.2.1;omega),(HB.out.trans (HB3.out.mono HB.out.size)).trans (ho.below (Nat.le_trans HB.out.size HB3.out.size) (fun j hj => by have:=HLT.out.1;omega))⟩
end Go.Proofs.YtjfolhkblbakiaaGreatDoor
namespace Go.Proofs.YtjfolhkblbakiaaGreatDoor
open Go.RowKit Go.Sort
set_option linter.unusedVariables false
set_option linter.unusedSimpArgs false
set_option linter.unusedVariables false
set_option linter.unusedSimpArgs false
set_option maxRecDepth 100000
set_option maxHeartbeats 1600000
/-- What was done is told,R says of it and of memory what is to be said;S: the old blocks that may have turned. -/
def InDid (S:Nat → Prop) (R:Array Value → World → Prop) (w:World) (e:Ending) (w':World):Prop:=∃ (dn:Bool) (cd:Int) (A:Option Addr) (m cp:Nat) (vl:Bool) (ct:Int) (mk rg st:Bool) (bf:Int),e = .returned (.agg #[.bool dn,.int .i64 cd,.slice A m cp,.bool vl,.int .i64 ct,.bool mk,.bool rg,.bool st,.int .i64 bf]) ∧ Only S w w' ∧ R #[.bool dn,.int .i64 cd,.slice A m cp,.bool vl,.int .i64 ct,.bool mk,.bool rg,.bool st,.int .i64 bf] w'
theorem cs1_b {w:World} (T:TypeId) (v:Value) (f:FuncId) (rcv mp bp:Value) (now:Int) (S:Nat → Prop) (R:Array Value → World → Prop) (hm:∀ w:World,(method 396 T v "Step").run Tryz.prog w = .ok (f,rcv) w) (eg:∀ args w,(callFunc f args).run Tryz.prog w = .ok (.enter f args) w) (B0 B1 B2:Nat) (h0:w.cell? ⟨B0,0,none⟩ = some mp) (h1:w.cell? ⟨B1,0,none⟩ = some bp) (h2:w.cell? ⟨B2,0,none⟩ = some (.int .i64 now)) (hc:∀ W',Below w.heap.size w W' → W'.heap.size = w.heap.size + 1 → Calls Tryz.prog f #[rcv,mp,bp,.int .i64 now] W' (InDid S R W')) (hS:∀ k,S k → k < w.heap.size) (hR:∀ D w1 w2,R D w1 → Only (fun k => k = w.heap.size) w1 w2 → R D w2) :
    Calls Tryz.prog 56 #[.iface T v,.pointer (some ⟨B0,0,none⟩),.pointer (some ⟨B1,0,none⟩),.pointer (some ⟨B2,0,none⟩)] w (InDid S R w):=by
  obtain ⟨W,HW,hB,hs,zx⟩:=box_new w #[.bool false,.int .i64 0,.slice none 0 0,.bool false,.int .i64 0,.bool false,.bool false,.bool false,.int .i64 0] 68
  have hsz1:W.heap.size = w.heap.size + 1:=by rw [HW.out];simp
  have HCC:=Lib.hid (hc W hB hsz1)
  have g0:=(hB.cell (p:=⟨B0,0,none⟩) (World.block_lt_of_cell? w _ h0)).trans h0
  have g1:=(hB.cell (p:=⟨B1,0,none⟩) (World.block_lt_of_cell? w _ h1)).trans h1
  have g2:=(hB.cell (p:=⟨B2,0,none⟩) (World.block_lt_of_cell? w _ h2)).trans h2
  have HB:=Lib.hid hB;have HZ:=Lib.hid (zx _ (Below.refl _ _));have HS:=Lib.hid hS;have HRR:=Lib.hid hR;have HSZ:=Lib.hid hsz1
  clear hc hS hR h0 h1 h2 hB hs zx hsz1
  go_enter Tryz.func56,Tryz.ntmps56
  go_wp2_with (first | (rw [← HW.out]))
  refine HCC.out.mono ?_
  rintro e w5 ⟨dn,cd,A,m,cp,vl,ct,mk,rg,st,bf,rfl,ho,hr⟩
  have hz5:=ho.at_ HZ.out (fun h => by have:=HS.out _ h;omega)
  have hth:=there_at (W:=w5) hz5 (n:=(#[.bool dn,.int .i64 cd,.slice A m cp,.bool vl,.int .i64 ct,.bool mk,.bool rg,.bool st,.int .i64 bf]:Array Value).size) rfl
  have hsd:(Tryz.prog.info? 68).map (·.size) = some (#[.bool dn,.int .i64 cd,.slice A m cp,.bool vl,.int .i64 ct,.bool mk,.bool rg,.bool st,.int .i64 bf]:Array Value).size:=did_size
  have HO:=Lib.hid ho;have HR5:=Lib.hid hr
  clear ho hr hz5
  go_wp2_with (with_reducible refine wpList_store_mid (by kernel_rfl) _ _ _ rfl w.heap.size 0 #[.bool dn,.int .i64 cd,.slice A m cp,.bool vl,.int .i64 ct,.bool mk,.bool rg,.bool st,.int .i64 bf] (by kernel_rfl) (by kernel_rfl) hth hsd (by kernel_rfl) ?_)
  have hrg:=World.rangeAt_setCells_same w5 w.heap.size 0 (#[.bool dn,.int .i64 cd,.slice A m cp,.bool vl,.int .i64 ct,.bool mk,.bool rg,.bool st,.int .i64 bf]:Array Value).toList (by simpa using hth)
  (try simp only [Exit.inBlock,Exit.then])
  refine bodyPost_ret (results_cell_mid rfl _ _ w.heap.size (#[.bool dn,.int .i64 cd,.slice A m cp,.bool vl,.int .i64 ct,.bool mk,.bool rg,.bool st,.int .i64 bf]:Array Value).toList _ rfl hrg Tryz.underlying68 rfl did_size) rfl ?_
  have ho2:=Only.sets (S:=fun k => k = w.heap.size) rfl (#[.bool dn,.int .i64 cd,.slice A m cp,.bool vl,.int .i64 ct,.bool mk,.bool rg,.bool st,.int .i64 bf]:Array Value).toList 0 (Only.refl _ w5)
  exact ⟨dn,cd,A,m,cp,vl,ct,mk,rg,st,bf,rfl,(((Only.of_below (S:=fun _ => False) HB.out).mono (fun _ _ e => .inr e.elim)).trans ((HO.out.mono fun _ _ e => .inr e).trans (ho2.mono fun j _ e => .inl (by omega)))).old,HRR.out _ _ _ HR5.out ho2⟩
end Go.Proofs.YtjfolhkblbakiaaGreatDoor
namespace Go.Proofs.YtjfolhkblbakiaaGreatDoor
open Go.RowKit Go.Sort
set_option linter.unusedVariables false
set_option linter.unusedSimpArgs false
set_option linter.unusedVariables false
set_option linter.unusedSimpArgs false
set_option maxRecDepth 100000
set_option maxHeartbeats 1600000
/-- As InDid;and the task's block tb tells one step more,and whether it is over. -/
def InTask (tb:Nat) (T:TypeId) (v:Value) (n:Int) (S:Nat → Prop) (R:Array Value → World → Prop) (w:World) (e:Ending) (w':World):Prop:=∃ (dn:Bool) (cd:Int) (A:Option Addr) (m cp:Nat) (vl:Bool) (ct:Int) (mk rg st:Bool) (bf:Int),e = .returned (.agg #[.bool dn,.int .i64 cd,.slice A m cp,.bool vl,.int .i64 ct,.bool mk,.bool rg,.bool st,.int .i64 bf]) ∧ Only (fun k => S k ∨ k = tb) w w' ∧ R #[.bool dn,.int .i64 cd,.slice A m cp,.bool vl,.int .i64 ct,.bool mk,.bool rg,.bool st,.int .i64 bf] w' ∧ w'.heap[tb]? = some (.cells #[.iface T v,.int .i64 (n + 1),.bool dn] 106 (0,0))
theorem tstep_b {w:World} (T:TypeId) (v:Value) (f:FuncId) (rcv mp bp:Value) (now:Int) (S:Nat → Prop) (R:Array Value → World → Prop) (hm:∀ w:World,(method 396 T v "Step").run Tryz.prog w = .ok (f,rcv) w) (eg:∀ args w,(callFunc f args).run Tryz.prog w = .ok (.enter f args) w) (tb:Nat) (n:Int) (B0 B1 B2:Nat) (h0:w.cell? ⟨B0,0,none⟩ = some mp) (h1:w.cell? ⟨B1,0,none⟩ = some bp) (h2:w.cell? ⟨B2,0,none⟩ = some (.int .i64 now)) (hb:w.heap[tb]? = some (.cells #[.iface T v,.int .i64 (n),.bool false] 106 (0,0))) (hn:0 ≤ n ∧ n ≤ 1000000) (hc:∀ W',Below w.heap.size w W' → W'.heap.size = w.heap.size + 2 → Calls Tryz.prog f #[rcv,mp,bp,.int .i64 now] W' (InDid S R W')) (hS:∀ k,S k → k < w.heap.size) (htS:¬ S tb) (hR:∀ D w1 w2,R D w1 → Only (fun k => k = tb ∨ k = w.heap.size ∨ k = w.heap.size + 1) w1 w2 → R D w2) :
    Calls Tryz.prog 55 #[.pointer (some ⟨tb,0,none⟩),.func (.func 56) #[] #[.pointer (some ⟨B0,0,none⟩),.pointer (some ⟨B1,0,none⟩),.pointer (some ⟨B2,0,none⟩)]] w (InTask tb T v n S R w):=by
  obtain ⟨W,HW,hB,hs,zx⟩:=box_new w #[.bool false,.int .i64 0,.slice none 0 0,.bool false,.int .i64 0,.bool false,.bool false,.bool false,.int .i64 0] 68
  have hsz1:W.heap.size = w.heap.size + 1:=by rw [HW.out];simp
  have htl:=(Array.getElem?_eq_some_iff.1 hb).1
  have hbW:=(hB.block tb htl).trans hb
  have hCS:=cs1_b T v f rcv mp bp now S R hm eg B0 B1 B2 ((hB.cell (p:=⟨B0,0,none⟩) (World.block_lt_of_cell? w _ h0)).trans h0) ((hB.cell (p:=⟨B1,0,none⟩) (World.block_lt_of_cell? w _ h1)).trans h1) ((hB.cell (p:=⟨B2,0,none⟩) (World.block_lt_of_cell? w _ h2)).trans h2)
    (fun W' hW' hs' => hc W' (hB.trans (hW'.mono hB.size)) (by omega)) (fun k hk => by have:=hS k hk;omega) (fun D w1 w2 hr ho => hR D w1 w2 hr (ho.mono fun k _ e => .inr (.inr (by omega))))
  have HCC:=Lib.hid hCS
  have e0:W.cell? ⟨tb,0,none⟩ = some (.iface T v):=cell_blk hbW rfl
  have e2:W.cell? ⟨tb,2,none⟩ = some (.bool false):=cell_blk hbW rfl
  have HB:=Lib.hid hB;have HZ:=Lib.hid (zx _ (Below.refl _ _));have HS:=Lib.hid hS;have HRR:=Lib.hid hR;have HSZ:=Lib.hid hsz1;have HTB:=Lib.hid hbW;have HTL:=Lib.hid htl;have HTS:=Lib.hid htS;have HN:=Lib.hid hn
  clear hc hS hR h0 h1 h2 hB hs zx hsz1 hCS hb hbW htl htS hn hm eg
  go_enter Tryz.func55,Tryz.ntmps55
  go_wp2_with (first | (rw [← HW.out]))
  refine HCC.out.mono ?_
  rintro e w5 ⟨dn,cd,A,m,cp,vl,ct,mk,rg,st,bf,rfl,ho,hr⟩
  have hb5:=ho.at_ HTB.out (fun h => HTS.out h)
  have hz5:=ho.at_ HZ.out (fun h => by have:=HS.out _ h;omega)
  obtain ⟨Y2,HY2,hbY1,hsY1,yx⟩:=box_new w5 #[.bool dn,.int .i64 cd,.slice A m cp,.bool vl,.int .i64 ct,.bool mk,.bool rg,.bool st,.int .i64 bf] 68
  obtain ⟨lb,hlb⟩:∃ k,k = w5.heap.size:=⟨_,rfl⟩
  have hy2:Y2.heap[lb]? = some (.cells #[.bool dn,.int .i64 cd,.slice A m cp,.bool vl,.int .i64 ct,.bool mk,.bool rg,.bool st,.int .i64 bf] 68 (0,0)):=by rw [hlb];exact yx _ (Below.refl _ _)
  have hle:=ho.size
  have hne:tb ≠ lb ∧ w.heap.size ≠ lb ∧ tb ≠ w.heap.size:=by have:=HSZ.out;have:=HTL.out;omega
  have hb2:Y2.heap[tb]? = some (.cells #[.iface T v,.int .i64 (n),.bool false] 106 (0,0)):=(hbY1.block tb (Array.getElem?_eq_some_iff.1 hb5).1).trans hb5
  have hz2:Y2.heap[w.heap.size]? = some (.cells #[.bool false,.int .i64 0,.slice none 0 0,.bool false,.int .i64 0,.bool false,.bool false,.bool false,.int .i64 0] 68 (0,0)):=(hbY1.block _ (Array.getElem?_eq_some_iff.1 hz5).1).trans hz5
  have hwr:IntKind.i64.wrap (n + 1) = n + 1:=IntWalk.i64_in _ (by have:=HN.out;omega)
  obtain ⟨Z1,HZ1⟩:∃ u,Hid (u = Y2.setCell ⟨tb,1,none⟩ (.int .i64 (n + 1))):=⟨_,rfl⟩
  have hoZ1:Only (fun k => k = tb) Y2 Z1:=by rw [HZ1.out];exact Only.setCell Y2 ⟨tb,1,none⟩ _
  have hbZ1:Z1.heap[tb]? = some (.cells #[.iface T v,.int .i64 (n + 1),.bool false] 106 (0,0)):=by rw [HZ1.out];simp [World.setCell,Array.getElem?_modify,hb2]
  have hyZ1:=hoZ1.at_ hy2 (fun e => hne.1 e.symm)
  obtain ⟨Z2,HZ2⟩:∃ u,Hid (u = Z1.setCell ⟨tb,2,none⟩ (.bool dn)):=⟨_,rfl⟩
  have hoZ2:Only (fun k => k = tb) Z1 Z2:=by rw [HZ2.out];exact Only.setCell Z1 ⟨tb,2,none⟩ _
  have hbZ2:Z2.heap[tb]? = some (.cells #[.iface T v,.int .i64 (n + 1),.bool dn] 106 (0,0)):=by rw [HZ2.out];simp [World.setCell,Array.getElem?_modify,hbZ1]
  have hyZ2:=hoZ2.at_ hyZ1 (fun e => hne.1 e.symm)
  have hzZ2:=hoZ2.at_ (hoZ1.at_ hz2 (fun e => hne.2.2 e.symm)) (fun e => hne.2.2 e.symm)
  have hth2:=there_at (W:=Z2) hzZ2 (n:=(#[.bool dn,.int .i64 cd,.slice A m cp,.bool vl,.int .i64 ct,.bool mk,.bool rg,.bool st,.int .i64 bf]:Array Value).size) rfl
  have hsd:(Tryz.prog.info? 68).map (·.size) = some (#[.bool dn,.int .i64 cd,.slice A m cp,.bool vl,.int .i64 ct,.bool mk,.bool rg,.bool st,.int .i64 bf]:Array Value).size:=did_size
  have n1:Y2.cell? ⟨tb,1,none⟩ = some (.int .i64 n):=cell_blk hb2 rfl
  have f1:Y2.frozen? ⟨tb,1,none⟩ = false:=by simp [World.frozen?,hb2]
  have n2:Z1.cell? ⟨tb,2,none⟩ = some (.bool false):=cell_blk hbZ1 rfl
  have f2:Z1.frozen? ⟨tb,2,none⟩ = false:=by simp [World.frozen?,hbZ1]
  have d0:Z1.cell? ⟨lb,0,none⟩ = some (.bool dn):=cell_blk hyZ1 rfl
  have l0:Z2.cell? ⟨lb,0,none⟩ = some (.bool dn):=cell_blk hyZ2 rfl
  have l1:Z2.cell? ⟨lb,1,none⟩ = some (.int .i64 cd):=cell_blk hyZ2 rfl
  have l2:Z2.cell? ⟨lb,2,none⟩ = some (.slice A m cp):=cell_blk hyZ2 rfl
  have l3:Z2.cell? ⟨lb,3,none⟩ = some (.bool vl):=cell_blk hyZ2 rfl
  have l4:Z2.cell? ⟨lb,4,none⟩ = some (.int .i64 ct):=cell_blk hyZ2 rfl
  have l5:Z2.cell? ⟨lb,5,none⟩ = some (.bool mk):=cell_blk hyZ2 rfl
  have l6:Z2.cell? ⟨lb,6,none⟩ = some (.bool rg):=cell_blk hyZ2 rfl
  have l7:Z2.cell? ⟨lb,7,none⟩ = some (.bool st):=cell_blk hyZ2 rfl
  have l8:Z2.cell? ⟨lb,8,none⟩ = some (.int .i64 bf):=cell_blk hyZ2 rfl
  have HLB:=Lib.hid hlb;have HB2:=Lib.hid hbZ2;have HNE:=Lib.hid hne;have HR5:=Lib.hid hr
  have hO5:Only (fun k => k = tb) w5 Z2:=((Only.of_below hbY1 (S:=New w5.heap.size (fun k => k = tb))).trans ((hoZ1.mono fun k _ e => .inr e).trans (hoZ2.mono fun k _ e => .inr e))).old
  have HO5:=Lib.hid hO5
  have HOW:=Lib.hid ho
  clear e0 e2 ho hr hb5 hz5 hbY1 hsY1 yx hlb hy2 hle hne hb2 hz2 hoZ1 hbZ1 hyZ1 hoZ2 hbZ2 hyZ2 hzZ2 hO5
  go_wp2_with (first | (simp only [← HLB.out];rw [← HY2.out]) | (rw [← HZ1.out]) | (rw [← HZ2.out]) | (with_reducible refine wpList_store_mid (by kernel_rfl) _ _ _ rfl w.heap.size 0 #[.bool dn,.int .i64 cd,.slice A m cp,.bool vl,.int .i64 ct,.bool mk,.bool rg,.bool st,.int .i64 bf] (by kernel_rfl) (by kernel_rfl) hth2 hsd (by kernel_rfl) ?_))
  have hrg:=World.rangeAt_setCells_same Z2 w.heap.size 0 (#[.bool dn,.int .i64 cd,.slice A m cp,.bool vl,.int .i64 ct,.bool mk,.bool rg,.bool st,.int .i64 bf]:Array Value).toList (by simpa using hth2)
  (try simp only [Exit.inBlock,Exit.then])
  refine bodyPost_ret (results_cell_mid rfl _ _ w.heap.size (#[.bool dn,.int .i64 cd,.slice A m cp,.bool vl,.int .i64 ct,.bool mk,.bool rg,.bool st,.int .i64 bf]:Array Value).toList _ rfl hrg Tryz.underlying68 rfl did_size) rfl ?_
  have ho2:=Only.sets (S:=fun k => k = w.heap.size) rfl (#[.bool dn,.int .i64 cd,.slice A m cp,.bool vl,.int .i64 ct,.bool mk,.bool rg,.bool st,.int .i64 bf]:Array Value).toList 0 (Only.refl _ Z2)
  exact ⟨dn,cd,A,m,cp,vl,ct,mk,rg,st,bf,rfl,(((Only.of_below (S:=New w.heap.size (fun k => S k ∨ k = tb)) HB.out).trans (HOW.out.mono fun _ _ e => .inr (.inl e))).trans ((HO5.out.mono fun _ _ e => .inr (.inr e)).trans (ho2.mono fun j _ e => .inl (by omega)))).old,HRR.out _ _ _ HR5.out ((HO5.out.mono fun k _ e => .inl e).trans (ho2.mono fun k _ e => .inr (.inl e))),ho2.at_ HB2.out (fun e => HNE.out.2.2 e)⟩
end Go.Proofs.YtjfolhkblbakiaaGreatDoor
namespace Go.Proofs.YtjfolhkblbakiaaGreatDoor
open Go.RowKit Go.Sort
set_option linter.unusedVariables false
set_option linter.unusedSimpArgs false
set_option linter.unusedVariables false
set_option linter.unusedSimpArgs false
set_option maxRecDepth 100000
set_option maxHeartbeats 1600000
theorem taskS_b {w:World} (T:TypeId) (v:Value) (f:FuncId) (rcv:Value) (a1 a2:Option Addr) (now:Int) (S:Nat → Prop) (R:Array Value → World → Prop) (hm:∀ w:World,(method 396 T v "Step").run Tryz.prog w = .ok (f,rcv) w) (eg:∀ args w,(callFunc f args).run Tryz.prog w = .ok (.enter f args) w) (tb:Nat) (n:Int) (hb:w.heap[tb]? = some (.cells #[.iface T v,.int .i64 (n),.bool false] 106 (0,0))) (hn:0 ≤ n ∧ n ≤ 1000000) (hc:∀ W',Below w.heap.size w W' → W'.heap.size = w.heap.size + 6 → Calls Tryz.prog f #[rcv,.pointer a1,.pointer a2,.int .i64 now] W' (InDid S R W')) (hS:∀ k,S k → k < w.heap.size) (htS:¬ S tb) (hR:∀ D w1 w2,R D w1 → Only (fun k => k = tb ∨ (w.heap.size ≤ k ∧ k < w.heap.size + 6)) w1 w2 → R D w2) :
    Calls Tryz.prog 22 #[.pointer (some ⟨tb,0,none⟩),.pointer a1,.pointer a2,.int .i64 now] w (InTask tb T v n S R w):=by
  obtain ⟨W1,HW1,hB1,hs1,x1⟩:=box_new w #[.pointer a1] 60
  obtain ⟨W2,HW2,hB2,hs2,x2⟩:=box_new W1 #[.pointer a2] 64
  obtain ⟨W3,HW3,hB3,hs3,x3⟩:=box_new W2 #[.int .i64 now] 3
  obtain ⟨W,HW,hB4,hs4,x4⟩:=box_new W3 #[.bool false,.int .i64 0,.slice none 0 0,.bool false,.int .i64 0,.bool false,.bool false,.bool false,.int .i64 0] 68
  have z1:W1.heap.size = w.heap.size + 1:=by rw [HW1.out];simp
  have z2:W2.heap.size = W1.heap.size + 1:=by rw [HW2.out];simp
  have z3:W3.heap.size = W2.heap.size + 1:=by rw [HW3.out];simp
  have z4:W.heap.size = W3.heap.size + 1:=by rw [HW.out];simp
  have q3:=hB3.trans (hB4.mono hB3.size)
  have q2:=hB2.trans (q3.mono hB2.size)
  have hB:=hB1.trans (q2.mono hB1.size)
  have htl:=(Array.getElem?_eq_some_iff.1 hb).1
  have hbW:=(hB.block tb htl).trans hb
  have hTS:=tstep_b (w:=W) T v f rcv (.pointer a1) (.pointer a2) now S R hm eg tb n w.heap.size W1.heap.size W2.heap.size (cell_blk (x1 _ q2) (i:=0) rfl) (cell_blk (x2 _ q3) (i:=0) rfl) (cell_blk (x3 _ hB4) (i:=0) rfl) hbW hn
    (fun W' hW' hs' => hc W' (hB.trans (hW'.mono hB.size)) (by omega)) (fun k hk => by have:=hS k hk;omega) htS (fun D w1 w2 hr ho => hR D w1 w2 hr (ho.mono fun k _ e => e.imp id (fun e => by omega)))
  have HCC:=Lib.hid hTS
  have HZ:=Lib.hid (x4 _ (Below.refl _ _))
  have hzl:w.heap.size + 3 = W3.heap.size:=by omega
  have HB:=Lib.hid hB;have HS:=Lib.hid hS;have HRR:=Lib.hid hR;have HTL:=Lib.hid htl;have HZL:=Lib.hid hzl
  clear hTS hc hS hR hB hb hbW htl htS hn hm eg x1 x2 x3 x4 z1 z2 z3 z4 q2 q3 hB1 hB2 hB3 hB4 hs1 hs2 hs3 hs4 hzl
  go_enter Tryz.func22,Tryz.ntmps22
  go_wp2_with (first | (rw [← HW1.out]) | (rw [← HW2.out]) | (rw [← HW3.out]) | (rw [← HW.out]))
  refine HCC.out.mono ?_
  rintro e w5 ⟨dn,cd,A,m,cp,vl,ct,mk,rg,st,bf,rfl,ho,hr,hbt⟩
  have hz5:=ho.at_ HZ.out (fun h => by have:=HZL.out;have:=HTL.out;rcases h with h | h;have:=HS.out _ h;omega;omega)
  have hth:=there_at (W:=w5) hz5 (n:=(#[.bool dn,.int .i64 cd,.slice A m cp,.bool vl,.int .i64 ct,.bool mk,.bool rg,.bool st,.int .i64 bf]:Array Value).size) rfl
  have hsd:(Tryz.prog.info? 68).map (·.size) = some (#[.bool dn,.int .i64 cd,.slice A m cp,.bool vl,.int .i64 ct,.bool mk,.bool rg,.bool st,.int .i64 bf]:Array Value).size:=did_size
  have HO:=Lib.hid ho;have HR5:=Lib.hid hr;have HBT:=Lib.hid hbt
  clear ho hr hz5 hbt
  go_wp2_with (with_reducible refine wpList_store_mid (by kernel_rfl) _ _ _ rfl W3.heap.size 0 #[.bool dn,.int .i64 cd,.slice A m cp,.bool vl,.int .i64 ct,.bool mk,.bool rg,.bool st,.int .i64 bf] (by kernel_rfl) (by kernel_rfl) hth hsd (by kernel_rfl) ?_)
  have hrg:=World.rangeAt_setCells_same w5 W3.heap.size 0 (#[.bool dn,.int .i64 cd,.slice A m cp,.bool vl,.int .i64 ct,.bool mk,.bool rg,.bool st,.int .i64 bf]:Array Value).toList (by simpa using hth)
  (try simp only [Exit.inBlock,Exit.then])
  refine bodyPost_ret (results_cell_mid rfl _ _ W3.heap.size (#[.bool dn,.int .i64 cd,.slice A m cp,.bool vl,.int .i64 ct,.bool mk,.bool rg,.bool st,.int .i64 bf]:Array Value).toList _ rfl hrg Tryz.underlying68 rfl did_size) rfl ?_
  have ho2:=Only.sets (S:=fun k => k = W3.heap.size) rfl (#[.bool dn,.int .i64 cd,.slice A m cp,.bool vl,.int .i64 ct,.bool mk,.bool rg,.bool st,.int .i64 bf]:Array Value).toList 0 (Only.refl _ w5)
  have q:=HZL.out
  exact ⟨dn,cd,A,m,cp,vl,ct,mk,rg,st,bf,rfl,(((Only.of_below (S:=New w.heap.size (fun k => S k ∨ k = tb)) HB.out).trans (HO.out.mono fun _ _ e => .inr e)).trans (ho2.mono fun j _ e => .inl (by omega))).old,HRR.out _ _ _ HR5.out (ho2.mono fun k _ e => .inr (by omega)),ho2.at_ HBT.out (fun e => by have:=HTL.out;omega)⟩
theorem steps_b (tb:Nat) (T:TypeId) (v:Value) (n:Int) (d:Bool) (w:World) (hb:w.heap[tb]? = some (.cells #[.iface T v,.int .i64 (n),.bool d] 106 (0,0))):Calls Tryz.prog 15 #[.pointer (some ⟨tb,0,none⟩)] w fun e w' => e = .returned (.int .i64 n) ∧ w = w':=by
  have n1:w.cell? ⟨tb,1,none⟩ = some (.int .i64 n):=cell_blk hb rfl
  clear hb
  go_enter Tryz.func15,Tryz.ntmps15
  go_wp2
  go_ret
  exact ⟨rfl,rfl⟩
end Go.Proofs.YtjfolhkblbakiaaGreatDoor
namespace Go.Proofs.YtjfolhkblbakiaaGreatDoor
open Go.RowKit Go.Sort
set_option linter.unusedVariables false
set_option linter.unusedSimpArgs false
set_option linter.unusedVariables false
set_option linter.unusedSimpArgs false
set_option maxRecDepth 100000
set_option maxHeartbeats 1600000
theorem peekT_b {w:World} {mb rb:Nat} {ws:List Int} (tb:Nat) (own a n:Int) (k:Nat) (ha:a = (k:Int)) (a2:Option Addr) (now:Int) (h:MemAt w mb rb ws) (hl:ws.length ≤ 1000000) (hk:k < ws.length) (hb:w.heap[tb]? = some (.cells #[.iface 166 (.agg #[.int .u32 own,.int .u64 a]),.int .i64 (n),.bool false] 106 (0,0))) (hn:0 ≤ n ∧ n ≤ 1000000) :
    Calls Tryz.prog 22 #[.pointer (some ⟨tb,0,none⟩),.pointer (some ⟨mb,0,none⟩),.pointer a2,.int .i64 now] w fun e w' => ∃ db,e = .returned (.agg #[.bool true,.int .i64 0,.slice (some ⟨db,0,none⟩) 1 1,.bool false,.int .i64 0,.bool true,.bool false,.bool false,.int .i64 0]) ∧ w.heap.size ≤ db ∧ w'.heap[db]? = some (.cells #[.int .u32 (ws.getD k 0)] 45 (0,0)) ∧ Only (fun k => k = tb) w w' ∧ w'.heap[tb]? = some (.cells #[.iface 166 (.agg #[.int .u32 own,.int .u64 a]),.int .i64 (n + 1),.bool true] 106 (0,0)):=by
  have htl:=(Array.getElem?_eq_some_iff.1 hb).1
  refine (taskS_b 166 (.agg #[.int .u32 own,.int .u64 a]) 256 (.agg #[.int .u32 own,.int .u64 a]) (some ⟨mb,0,none⟩) a2 now (fun _ => False) (fun D w' => ∃ db,D = #[.bool true,.int .i64 0,.slice (some ⟨db,0,none⟩) 1 1,.bool false,.int .i64 0,.bool true,.bool false,.bool false,.int .i64 0] ∧ w.heap.size + 6 ≤ db ∧ w'.heap[db]? = some (.cells #[.int .u32 (ws.getD k 0)] 45 (0,0))) (fun _ => by kernel_rfl) (enters_of Tryz.func256 (by kernel_rfl) rfl) tb n hb hn ?_ (fun _ h => h.elim) (fun h => h) ?_).mono ?_
  · intro W' hW hs
    refine (peekS_b own a k ha (.pointer a2) now (h.below hW) hl hk).mono ?_
    rintro e w' ⟨db,rfl,h1,h2,h3⟩
    exact ⟨_,_,_,_,_,_,_,_,_,_,_,rfl,Only.of_below h3,db,rfl,by omega,h2⟩
  · rintro D w1 w2 ⟨db,h1,h2,h3⟩ ho
    exact ⟨db,h1,h2,ho.at_ h3 (by omega)⟩
  · rintro e w' ⟨dn,cd,A,m,cp,vl,ct,mk,rg,st,bf,rfl,ho,⟨db,h1,h2,h3⟩,h4⟩
    have e0:dn = true:=by have:=congrArg (fun D:Array Value => D[0]?) h1;simpa using this
    subst e0
    exact ⟨db,by rw [h1],by omega,h3,ho.mono (fun k _ e => e.elim False.elim id),h4⟩
end Go.Proofs.YtjfolhkblbakiaaGreatDoor
