/- Texts of the ring, joined, what is used of them. No condition but those in the statements. -/
import Derived.BigQuiet
import Derived.BigRegion
import Derived.Deep.MidRow
import Derived.Deep.RegionHeld3
import Derived.Deep.Upon
import Derived.IntWalk
import Derived.Test.YtjfolhkblbakiaaGreatDoorQTA
namespace Go.Proofs.YtjfolhkblbakiaaGreatDoor
open Go.RowKit Go.Sort
set_option linter.unusedVariables false
set_option linter.unusedSimpArgs false
set_option linter.unusedVariables false
set_option linter.unusedSimpArgs false
set_option maxRecDepth 100000
set_option maxHeartbeats 1600000
theorem beginR_b (c:Cfg) (x:CfgAt) (sp:Int) (sn:Bool) (own:Int) (made valid:List Int) (ma va:Option Addr) (mc vc:Nat) (op port ad:Int) (da:Option Addr) (dn dc:Nat) (w:World) (hx:CfgIn w w.heap.size c x) (wx:CfgWf c) (lx:CfgFew c) (hs:SIn w made ma) (hv:SIn w valid va) (hp:(Lit.int .i64 port).wf = true) (had:(Lit.int .u64 ad).wf = true) (hdn:dn ≤ 1000000) (hT:TabsAt w) (z:Int) (hz:refusedN c sp sn made op port ad dn = z) (h0:z ≠ 0) :
    Calls Tryz.prog 12 #[.agg (cfgCells c x),.agg #[.int .i64 sp,.bool sn,.slice ma made.length mc,.slice va valid.length vc],.int .u32 own,.agg #[.int .i64 op,.int .i64 port,.int .u64 ad,.slice da dn dc]] w fun e w' => e = .returned (.tuple #[.pointer none,.agg #[.int .i64 z,.slice none 0 0,.bool false,.int .i64 0],.bool true]) ∧ Below w.heap.size w w':=by
  obtain ⟨Wc,HWc,hBc,hWs,bx⟩:=one_cbox w c x 29
  obtain ⟨pa,pc,ca,cc,aa,ac,ba,bc⟩:=x
  obtain ⟨Ws,HWs,hBs,hWss,sx⟩:=box_new Wc #[.int .i64 sp,.bool sn,.slice ma made.length mc,.slice va valid.length vc] 32
  obtain ⟨Wq,HWq,hBq,hWq,qx⟩:=box_new Ws #[.int .i64 op,.int .i64 port,.int .u64 ad,.slice da dn dc] 36
  obtain ⟨W,HW,hBa,hWa,ax⟩:=box_new Wq #[.int .i64 0,.slice none 0 0,.bool false,.int .i64 0] 42
  have hQ:=hBq.trans (hBa.mono hBq.size)
  have hSQ:=hBs.trans (hQ.mono hBs.size)
  have hB:=hBc.trans (hSQ.mono hBc.size)
  have BX:Hid (∀ w',Below W.heap.size W w' → Below Wc.heap.size Wc w'):=Lib.hid (fun w' h => hSQ.trans (h.mono hSQ.size))
  have SX:Hid (∀ w',Below W.heap.size W w' → w'.heap[Wc.heap.size]? = some (.cells #[.int .i64 sp,.bool sn,.slice ma made.length mc,.slice va valid.length vc] 32 (0,0))):=Lib.hid (fun w' h => sx _ (hQ.trans (h.mono hQ.size)))
  have QX:Hid (∀ w',Below W.heap.size W w' → w'.heap[Ws.heap.size]? = some (.cells #[.int .i64 op,.int .i64 port,.int .u64 ad,.slice da dn dc] 36 (0,0))):=Lib.hid (fun w' h => qx _ (hBa.trans (h.mono hBa.size)))
  have AX:Hid (∀ w',Below W.heap.size W w' → w'.heap[Wq.heap.size]? = some (.cells #[.int .i64 0,.slice none 0 0,.bool false,.int .i64 0] 42 (0,0))):=Lib.hid (fun w' h => ax _ h)
  have hAL:w.heap.size ≤ Wq.heap.size:=(hBc.trans ((hBs.trans (hBq.mono hBs.size)).mono hBc.size)).size
  have hAS:=hWa
  obtain ⟨sb,hsb⟩:∃ n,n = Wc.heap.size:=⟨_,rfl⟩
  obtain ⟨qb,hqb⟩:∃ n,n = Ws.heap.size:=⟨_,rfl⟩
  obtain ⟨ab,hab⟩:∃ n,n = Wq.heap.size:=⟨_,rfl⟩
  rw [← hsb] at SX
  rw [← hqb] at QX
  rw [← hab] at AX hAL hAS
  have HAL:=Lib.hid hAL;have HAS:=Lib.hid hAS
  have HSB:=Lib.hid hsb;have HQB:=Lib.hid hqb;have HAB:=Lib.hid hab;have HB:=Lib.hid hB;have CX:=Lib.hid bx
  have HXW:=Lib.hid (hx.later hB);have HSW:=Lib.hid (hs.later hB);have HVW:=Lib.hid (hv.later hB);have HTW:=Lib.hid (hT.later hB)
  simp only [cfgCells] at HWc ⊢
  clear hBc hWs bx hBs hWss sx hBq hWq qx hBa hWa ax hQ hSQ hB hAL hAS hsb hqb hab hx hs hv hT
  have HON:=Lib.hid (tonceR_b c ⟨pa,pc,ca,cc,aa,ac,ba,bc⟩ sp sn made valid ma va mc vc op port ad da dn dc W HXW.out wx lx HSW.out HVW.out hp had hdn HTW.out z hz h0)
  simp only [cfgCells] at HON
  clear hz h0
  obtain ⟨c0,c1,c2,c3,c4,c5⟩:=CX.out _ (BX.out _ (Below.refl _ _))
  have s0:W.cell? ⟨sb,0,none⟩ = some (.int .i64 sp):=cell_blk (SX.out _ (Below.refl _ _)) rfl
  have s1:W.cell? ⟨sb,1,none⟩ = some (.bool sn):=cell_blk (SX.out _ (Below.refl _ _)) rfl
  have s2:W.cell? ⟨sb,2,none⟩ = some (.slice ma made.length mc):=cell_blk (SX.out _ (Below.refl _ _)) rfl
  have s3:W.cell? ⟨sb,3,none⟩ = some (.slice va valid.length vc):=cell_blk (SX.out _ (Below.refl _ _)) rfl
  have q0:W.cell? ⟨qb,0,none⟩ = some (.int .i64 op):=cell_blk (QX.out _ (Below.refl _ _)) rfl
  have q1:W.cell? ⟨qb,1,none⟩ = some (.int .i64 port):=cell_blk (QX.out _ (Below.refl _ _)) rfl
  have q2:W.cell? ⟨qb,2,none⟩ = some (.int .u64 ad):=cell_blk (QX.out _ (Below.refl _ _)) rfl
  have q3:W.cell? ⟨qb,3,none⟩ = some (.slice da dn dc):=cell_blk (QX.out _ (Below.refl _ _)) rfl
  go_enter Tryz.func12,Tryz.ntmps12
  go_wp2_with (first | (rw [← HWc.out]) | (simp only [← HSB.out];rw [← HWs.out]) | (simp only [← HQB.out];rw [← HWq.out]) | (simp only [← HAB.out];rw [← HW.out]))
  refine HON.out.mono ?_
  rintro e w5 ⟨rfl,hb5⟩
  clear c0 c1 c2 c3 c4 c5 s0 s1 s2 s3 q0 q1 q2 q3
  obtain ⟨Y1,HY1,hbY1,hsY1,yx⟩:=box_new w5 #[.int .i64 0,.slice none 0 0,.bool false,.int .i64 0] 42
  have hth1:=there_blk (W:=Y1) (yx _ (Below.refl _ _)) (n:=(#[.int .i64 z,.slice none 0 0,.bool false,.int .i64 0]:Array Value).size) rfl
  have hsz1:(Tryz.prog.info? 42).map (·.size) = some (#[.int .i64 z,.slice none 0 0,.bool false,.int .i64 0]:Array Value).size:=ans_size
  obtain ⟨Y2,HY2⟩:∃ u,Hid (u = Y1.setCells w5.heap.size 0 [.int .i64 z,.slice none 0 0,.bool false,.int .i64 0]):=⟨_,rfl⟩
  have hy2:Y2.heap[w5.heap.size]? = some (.cells #[.int .i64 z,.slice none 0 0,.bool false,.int .i64 0] 42 (0,0)):=by rw [HY2.out];exact block_setCells (yx _ (Below.refl _ _)) _ rfl
  have hb2:Below W.heap.size W Y2:=by rw [HY2.out];exact below_setCells _ _ _ (hb5.trans (hbY1.mono hb5.size)) hb5.size
  obtain ⟨lb,hlb⟩:∃ n,n = w5.heap.size:=⟨_,rfl⟩
  rw [← hlb] at hth1 hy2
  have HLB:=Lib.hid hlb;have HB2:=Lib.hid hb2;have H2L:=Lib.hid hy2
  obtain ⟨c0,c1,c2,c3,c4,c5⟩:=CX.out _ (BX.out _ hb2)
  have s0:Y2.cell? ⟨sb,0,none⟩ = some (.int .i64 sp):=cell_blk (SX.out _ hb2) rfl
  have s1:Y2.cell? ⟨sb,1,none⟩ = some (.bool sn):=cell_blk (SX.out _ hb2) rfl
  have s2:Y2.cell? ⟨sb,2,none⟩ = some (.slice ma made.length mc):=cell_blk (SX.out _ hb2) rfl
  have s3:Y2.cell? ⟨sb,3,none⟩ = some (.slice va valid.length vc):=cell_blk (SX.out _ hb2) rfl
  have q0:Y2.cell? ⟨qb,0,none⟩ = some (.int .i64 op):=cell_blk (QX.out _ hb2) rfl
  have q1:Y2.cell? ⟨qb,1,none⟩ = some (.int .i64 port):=cell_blk (QX.out _ hb2) rfl
  have q2:Y2.cell? ⟨qb,2,none⟩ = some (.int .u64 ad):=cell_blk (QX.out _ hb2) rfl
  have q3:Y2.cell? ⟨qb,3,none⟩ = some (.slice da dn dc):=cell_blk (QX.out _ hb2) rfl
  have l0:Y2.cell? ⟨lb,0,none⟩ = some (.int .i64 z):=cell_blk hy2 rfl
  have l1:Y2.cell? ⟨lb,1,none⟩ = some (.slice none 0 0):=cell_blk hy2 rfl
  have l2:Y2.cell? ⟨lb,2,none⟩ = some (.bool false):=cell_blk hy2 rfl
  have l3:Y2.cell? ⟨lb,3,none⟩ = some (.int .i64 0):=cell_blk hy2 rfl
  clear hb5 hbY1 hsY1 yx hy2 hb2 hlb
  go_wp2_with (first | (simp only [← HLB.out];rw [← HY1.out]) | (with_reducible refine wpList_store_mid (by kernel_rfl) _ _ _ rfl lb 0 #[.int .i64 z,.slice none 0 0,.bool false,.int .i64 0] (by kernel_rfl) (by kernel_rfl) hth1 hsz1 (by kernel_rfl) ?_) | (simp only [HLB.out];rw [← HY2.out];simp only [← HLB.out]))
  have hth:=there_blk (W:=Y2) (AX.out _ HB2.out) (n:=(#[.int .i64 z,.slice none 0 0,.bool false,.int .i64 0]:Array Value).size) rfl
  have hsz:(Tryz.prog.info? 42).map (·.size) = some (#[.int .i64 z,.slice none 0 0,.bool false,.int .i64 0]:Array Value).size:=ans_size
  have ha:=AX.out _ HB2.out
  have b0:Y2.cell? ⟨ab,0,none⟩ = some (.int .i64 0):=cell_blk ha rfl
  have b1:Y2.cell? ⟨ab,1,none⟩ = some (.slice none 0 0):=cell_blk ha rfl
  have b2:Y2.cell? ⟨ab,2,none⟩ = some (.bool false):=cell_blk ha rfl
  have b3:Y2.cell? ⟨ab,3,none⟩ = some (.int .i64 0):=cell_blk ha rfl
  have f0:Y2.frozen? ⟨ab,0,none⟩ = false:=by simp [World.frozen?,ha]
  have f1:Y2.frozen? ⟨ab,1,none⟩ = false:=by simp [World.frozen?,ha]
  have f2:Y2.frozen? ⟨ab,2,none⟩ = false:=by simp [World.frozen?,ha]
  have f3:Y2.frozen? ⟨ab,3,none⟩ = false:=by simp [World.frozen?,ha]
  have hrg:(Y2.setCells ab 0 (#[.int .i64 z,.slice none 0 0,.bool false,.int .i64 0]:Array Value).toList).drew.rangeAt ab 0 (#[.int .i64 z,.slice none 0 0,.bool false,.int .i64 0]:Array Value).toList:=World.rangeAt_setCells_same Y2 ab 0 (#[.int .i64 z,.slice none 0 0,.bool false,.int .i64 0]:Array Value).toList (by simpa using hth)
  have HRG:=Lib.hid hrg
  clear hth hsz ha hrg
  go_region
  go_wp2
  (try simp only [Exit.inBlock,Exit.then])
  refine bodyPost_ret (results_pmt rfl _ _ ab (#[.int .i64 z,.slice none 0 0,.bool false,.int .i64 0]:Array Value).toList _ rfl (by exact HRG.out) Tryz.underlying42 rfl ans_size rfl rfl) rfl ?_
  exact ⟨rfl,(below_setCells (#[.int .i64 z,.slice none 0 0,.bool false,.int .i64 0]:Array Value).toList 0 Y2 (HB.out.trans (HB2.out.mono HB.out.size)) HAL.out).drew⟩
theorem begin2_b (c:Cfg) (x:CfgAt) (sp:Int) (sn:Bool) (own:Int) (made valid:List Int) (ma va:Option Addr) (mc vc:Nat) (port ad:Int) (da:Option Addr) (dn dc:Nat) (w:World) (hx:CfgIn w w.heap.size c x) (wx:CfgWf c) (lx:CfgFew c) (hs:SIn w made ma) (hv:SIn w valid va) (hp:(Lit.int .i64 port).wf = true) (had:(Lit.int .u64 ad).wf = true) (hdn:dn ≤ 1000000) (hT:TabsAt w) (hz:refusedN c sp sn made 2 port ad dn = 0) :
    Calls Tryz.prog 12 #[.agg (cfgCells c x),.agg #[.int .i64 sp,.bool sn,.slice ma made.length mc,.slice va valid.length vc],.int .u32 own,.agg #[.int .i64 2,.int .i64 port,.int .u64 ad,.slice da dn dc]] w fun e w' => e = .returned (.tuple #[.pointer none,.agg #[.int .i64 0,.slice none 0 0,.bool false,.int .i64 0],.bool true]) ∧ Below w.heap.size w w':=by
  obtain ⟨Wc,HWc,hBc,hWs,bx⟩:=one_cbox w c x 29
  obtain ⟨pa,pc,ca,cc,aa,ac,ba,bc⟩:=x
  obtain ⟨Ws,HWs,hBs,hWss,sx⟩:=box_new Wc #[.int .i64 sp,.bool sn,.slice ma made.length mc,.slice va valid.length vc] 32
  obtain ⟨Wq,HWq,hBq,hWq,qx⟩:=box_new Ws #[.int .i64 2,.int .i64 port,.int .u64 ad,.slice da dn dc] 36
  obtain ⟨W,HW,hBa,hWa,ax⟩:=box_new Wq #[.int .i64 0,.slice none 0 0,.bool false,.int .i64 0] 42
  have hQ:=hBq.trans (hBa.mono hBq.size)
  have hSQ:=hBs.trans (hQ.mono hBs.size)
  have hB:=hBc.trans (hSQ.mono hBc.size)
  have BX:Hid (∀ w',Below W.heap.size W w' → Below Wc.heap.size Wc w'):=Lib.hid (fun w' h => hSQ.trans (h.mono hSQ.size))
  have SX:Hid (∀ w',Below W.heap.size W w' → w'.heap[Wc.heap.size]? = some (.cells #[.int .i64 sp,.bool sn,.slice ma made.length mc,.slice va valid.length vc] 32 (0,0))):=Lib.hid (fun w' h => sx _ (hQ.trans (h.mono hQ.size)))
  have QX:Hid (∀ w',Below W.heap.size W w' → w'.heap[Ws.heap.size]? = some (.cells #[.int .i64 2,.int .i64 port,.int .u64 ad,.slice da dn dc] 36 (0,0))):=Lib.hid (fun w' h => qx _ (hBa.trans (h.mono hBa.size)))
  have AX:Hid (∀ w',Below W.heap.size W w' → w'.heap[Wq.heap.size]? = some (.cells #[.int .i64 0,.slice none 0 0,.bool false,.int .i64 0] 42 (0,0))):=Lib.hid (fun w' h => ax _ h)
  have hAL:w.heap.size ≤ Wq.heap.size:=(hBc.trans ((hBs.trans (hBq.mono hBs.size)).mono hBc.size)).size
  have hAS:=hWa
  obtain ⟨sb,hsb⟩:∃ n,n = Wc.heap.size:=⟨_,rfl⟩
  obtain ⟨qb,hqb⟩:∃ n,n = Ws.heap.size:=⟨_,rfl⟩
  obtain ⟨ab,hab⟩:∃ n,n = Wq.heap.size:=⟨_,rfl⟩
  rw [← hsb] at SX
  rw [← hqb] at QX
  rw [← hab] at AX hAL hAS
  have HAL:=Lib.hid hAL;have HAS:=Lib.hid hAS
  have HSB:=Lib.hid hsb;have HQB:=Lib.hid hqb;have HAB:=Lib.hid hab;have HB:=Lib.hid hB;have CX:=Lib.hid bx
  have HXW:=Lib.hid (hx.later hB);have HSW:=Lib.hid (hs.later hB);have HVW:=Lib.hid (hv.later hB);have HTW:=Lib.hid (hT.later hB)
  simp only [cfgCells] at HWc ⊢
  clear hBc hWs bx hBs hWss sx hBq hWq qx hBa hWa ax hQ hSQ hB hAL hAS hsb hqb hab hx hs hv hT
  have HON:=Lib.hid (tonce2_b c ⟨pa,pc,ca,cc,aa,ac,ba,bc⟩ sp sn made valid ma va mc vc port ad da dn dc W HXW.out wx lx HSW.out HVW.out hp had hdn HTW.out hz)
  simp only [cfgCells] at HON
  clear hz
  obtain ⟨c0,c1,c2,c3,c4,c5⟩:=CX.out _ (BX.out _ (Below.refl _ _))
  have s0:W.cell? ⟨sb,0,none⟩ = some (.int .i64 sp):=cell_blk (SX.out _ (Below.refl _ _)) rfl
  have s1:W.cell? ⟨sb,1,none⟩ = some (.bool sn):=cell_blk (SX.out _ (Below.refl _ _)) rfl
  have s2:W.cell? ⟨sb,2,none⟩ = some (.slice ma made.length mc):=cell_blk (SX.out _ (Below.refl _ _)) rfl
  have s3:W.cell? ⟨sb,3,none⟩ = some (.slice va valid.length vc):=cell_blk (SX.out _ (Below.refl _ _)) rfl
  have q0:W.cell? ⟨qb,0,none⟩ = some (.int .i64 2):=cell_blk (QX.out _ (Below.refl _ _)) rfl
  have q1:W.cell? ⟨qb,1,none⟩ = some (.int .i64 port):=cell_blk (QX.out _ (Below.refl _ _)) rfl
  have q2:W.cell? ⟨qb,2,none⟩ = some (.int .u64 ad):=cell_blk (QX.out _ (Below.refl _ _)) rfl
  have q3:W.cell? ⟨qb,3,none⟩ = some (.slice da dn dc):=cell_blk (QX.out _ (Below.refl _ _)) rfl
  go_enter Tryz.func12,Tryz.ntmps12
  go_wp2_with (first | (rw [← HWc.out]) | (simp only [← HSB.out];rw [← HWs.out]) | (simp only [← HQB.out];rw [← HWq.out]) | (simp only [← HAB.out];rw [← HW.out]))
  refine HON.out.mono ?_
  rintro e w5 ⟨rfl,hb5⟩
  clear c0 c1 c2 c3 c4 c5 s0 s1 s2 s3 q0 q1 q2 q3
  obtain ⟨Y1,HY1,hbY1,hsY1,yx⟩:=box_new w5 #[.int .i64 0,.slice none 0 0,.bool false,.int .i64 0] 42
  have hth1:=there_blk (W:=Y1) (yx _ (Below.refl _ _)) (n:=(#[.int .i64 0,.slice none 0 0,.bool false,.int .i64 0]:Array Value).size) rfl
  have hsz1:(Tryz.prog.info? 42).map (·.size) = some (#[.int .i64 0,.slice none 0 0,.bool false,.int .i64 0]:Array Value).size:=ans_size
  obtain ⟨Y2,HY2⟩:∃ u,Hid (u = Y1.setCells w5.heap.size 0 [.int .i64 0,.slice none 0 0,.bool false,.int .i64 0]):=⟨_,rfl⟩
  have hy2:Y2.heap[w5.heap.size]? = some (.cells #[.int .i64 0,.slice none 0 0,.bool false,.int .i64 0] 42 (0,0)):=by rw [HY2.out];exact block_setCells (yx _ (Below.refl _ _)) _ rfl
  have hb2:Below W.heap.size W Y2:=by rw [HY2.out];exact below_setCells _ _ _ (hb5.trans (hbY1.mono hb5.size)) hb5.size
  obtain ⟨lb,hlb⟩:∃ n,n = w5.heap.size:=⟨_,rfl⟩
  rw [← hlb] at hth1 hy2
  have HLB:=Lib.hid hlb;have HB2:=Lib.hid hb2;have H2L:=Lib.hid hy2
  obtain ⟨c0,c1,c2,c3,c4,c5⟩:=CX.out _ (BX.out _ hb2)
  have s0:Y2.cell? ⟨sb,0,none⟩ = some (.int .i64 sp):=cell_blk (SX.out _ hb2) rfl
  have s1:Y2.cell? ⟨sb,1,none⟩ = some (.bool sn):=cell_blk (SX.out _ hb2) rfl
  have s2:Y2.cell? ⟨sb,2,none⟩ = some (.slice ma made.length mc):=cell_blk (SX.out _ hb2) rfl
  have s3:Y2.cell? ⟨sb,3,none⟩ = some (.slice va valid.length vc):=cell_blk (SX.out _ hb2) rfl
  have q0:Y2.cell? ⟨qb,0,none⟩ = some (.int .i64 2):=cell_blk (QX.out _ hb2) rfl
  have q1:Y2.cell? ⟨qb,1,none⟩ = some (.int .i64 port):=cell_blk (QX.out _ hb2) rfl
  have q2:Y2.cell? ⟨qb,2,none⟩ = some (.int .u64 ad):=cell_blk (QX.out _ hb2) rfl
  have q3:Y2.cell? ⟨qb,3,none⟩ = some (.slice da dn dc):=cell_blk (QX.out _ hb2) rfl
  have l0:Y2.cell? ⟨lb,0,none⟩ = some (.int .i64 0):=cell_blk hy2 rfl
  have l1:Y2.cell? ⟨lb,1,none⟩ = some (.slice none 0 0):=cell_blk hy2 rfl
  have l2:Y2.cell? ⟨lb,2,none⟩ = some (.bool false):=cell_blk hy2 rfl
  have l3:Y2.cell? ⟨lb,3,none⟩ = some (.int .i64 0):=cell_blk hy2 rfl
  clear hb5 hbY1 hsY1 yx hy2 hb2 hlb
  go_wp2_with (first | (simp only [← HLB.out];rw [← HY1.out]) | (with_reducible refine wpList_store_mid (by kernel_rfl) _ _ _ rfl lb 0 #[.int .i64 0,.slice none 0 0,.bool false,.int .i64 0] (by kernel_rfl) (by kernel_rfl) hth1 hsz1 (by kernel_rfl) ?_) | (simp only [HLB.out];rw [← HY2.out];simp only [← HLB.out]))
  have hth:=there_blk (W:=Y2) (AX.out _ HB2.out) (n:=(#[.int .i64 0,.slice none 0 0,.bool false,.int .i64 0]:Array Value).size) rfl
  have hsz:(Tryz.prog.info? 42).map (·.size) = some (#[.int .i64 0,.slice none 0 0,.bool false,.int .i64 0]:Array Value).size:=ans_size
  have ha:=AX.out _ HB2.out
  have b0:Y2.cell? ⟨ab,0,none⟩ = some (.int .i64 0):=cell_blk ha rfl
  have b1:Y2.cell? ⟨ab,1,none⟩ = some (.slice none 0 0):=cell_blk ha rfl
  have b2:Y2.cell? ⟨ab,2,none⟩ = some (.bool false):=cell_blk ha rfl
  have b3:Y2.cell? ⟨ab,3,none⟩ = some (.int .i64 0):=cell_blk ha rfl
  have f0:Y2.frozen? ⟨ab,0,none⟩ = false:=by simp [World.frozen?,ha]
  have f1:Y2.frozen? ⟨ab,1,none⟩ = false:=by simp [World.frozen?,ha]
  have f2:Y2.frozen? ⟨ab,2,none⟩ = false:=by simp [World.frozen?,ha]
  have f3:Y2.frozen? ⟨ab,3,none⟩ = false:=by simp [World.frozen?,ha]
  have hrg:(Y2.setCells ab 0 (#[.int .i64 0,.slice none 0 0,.bool false,.int .i64 0]:Array Value).toList).drew.rangeAt ab 0 (#[.int .i64 0,.slice none 0 0,.bool false,.int .i64 0]:Array Value).toList:=World.rangeAt_setCells_same Y2 ab 0 (#[.int .i64 0,.slice none 0 0,.bool false,.int .i64 0]:Array Value).toList (by simpa using hth)
  have HRG:=Lib.hid hrg
  clear hth hsz ha hrg
  go_region
  go_wp2
  (try simp only [Exit.inBlock,Exit.then])
  refine bodyPost_ret (results_pmt rfl _ _ ab (#[.int .i64 0,.slice none 0 0,.bool false,.int .i64 0]:Array Value).toList _ rfl (by exact HRG.out) Tryz.underlying42 rfl ans_size rfl rfl) rfl ?_
  exact ⟨rfl,(below_setCells (#[.int .i64 0,.slice none 0 0,.bool false,.int .i64 0]:Array Value).toList 0 Y2 (HB.out.trans (HB2.out.mono HB.out.size)) HAL.out).drew⟩
theorem begin7s_b (c:Cfg) (x:CfgAt) (sp:Int) (sn:Bool) (own:Int) (made valid:List Int) (ma va:Option Addr) (mc vc:Nat) (port ad:Int) (da:Option Addr) (dn dc:Nat) (w:World) (hx:CfgIn w w.heap.size c x) (wx:CfgWf c) (lx:CfgFew c) (hs:SIn w made ma) (hv:SIn w valid va) (hp:(Lit.int .i64 port).wf = true) (had:(Lit.int .u64 ad).wf = true) (hdn:dn ≤ 1000000) (hT:TabsAt w) (mv:Bool) (hmv:madeB valid port = mv) (hz:refusedN c sp sn made 7 port ad dn = 0) (hk7:fld (row c.chans (portK c port).toNat) 0 = 1) :
    Calls Tryz.prog 12 #[.agg (cfgCells c x),.agg #[.int .i64 sp,.bool sn,.slice ma made.length mc,.slice va valid.length vc],.int .u32 own,.agg #[.int .i64 7,.int .i64 port,.int .u64 ad,.slice da dn dc]] w fun e w' => e = .returned (.tuple #[.pointer none,.agg #[.int .i64 0,.slice none 0 0,.bool mv,.int .i64 0],.bool true]) ∧ Below w.heap.size w w':=by
  obtain ⟨Wc,HWc,hBc,hWs,bx⟩:=one_cbox w c x 29
  obtain ⟨pa,pc,ca,cc,aa,ac,ba,bc⟩:=x
  obtain ⟨Ws,HWs,hBs,hWss,sx⟩:=box_new Wc #[.int .i64 sp,.bool sn,.slice ma made.length mc,.slice va valid.length vc] 32
  obtain ⟨Wq,HWq,hBq,hWq,qx⟩:=box_new Ws #[.int .i64 7,.int .i64 port,.int .u64 ad,.slice da dn dc] 36
  obtain ⟨W,HW,hBa,hWa,ax⟩:=box_new Wq #[.int .i64 0,.slice none 0 0,.bool false,.int .i64 0] 42
  have hQ:=hBq.trans (hBa.mono hBq.size)
  have hSQ:=hBs.trans (hQ.mono hBs.size)
  have hB:=hBc.trans (hSQ.mono hBc.size)
  have BX:Hid (∀ w',Below W.heap.size W w' → Below Wc.heap.size Wc w'):=Lib.hid (fun w' h => hSQ.trans (h.mono hSQ.size))
  have SX:Hid (∀ w',Below W.heap.size W w' → w'.heap[Wc.heap.size]? = some (.cells #[.int .i64 sp,.bool sn,.slice ma made.length mc,.slice va valid.length vc] 32 (0,0))):=Lib.hid (fun w' h => sx _ (hQ.trans (h.mono hQ.size)))
  have QX:Hid (∀ w',Below W.heap.size W w' → w'.heap[Ws.heap.size]? = some (.cells #[.int .i64 7,.int .i64 port,.int .u64 ad,.slice da dn dc] 36 (0,0))):=Lib.hid (fun w' h => qx _ (hBa.trans (h.mono hBa.size)))
  have AX:Hid (∀ w',Below W.heap.size W w' → w'.heap[Wq.heap.size]? = some (.cells #[.int .i64 0,.slice none 0 0,.bool false,.int .i64 0] 42 (0,0))):=Lib.hid (fun w' h => ax _ h)
  have hAL:w.heap.size ≤ Wq.heap.size:=(hBc.trans ((hBs.trans (hBq.mono hBs.size)).mono hBc.size)).size
  have hAS:=hWa
  obtain ⟨sb,hsb⟩:∃ n,n = Wc.heap.size:=⟨_,rfl⟩
  obtain ⟨qb,hqb⟩:∃ n,n = Ws.heap.size:=⟨_,rfl⟩
  obtain ⟨ab,hab⟩:∃ n,n = Wq.heap.size:=⟨_,rfl⟩
  rw [← hsb] at SX
  rw [← hqb] at QX
  rw [← hab] at AX hAL hAS
  have HAL:=Lib.hid hAL;have HAS:=Lib.hid hAS
  have HSB:=Lib.hid hsb;have HQB:=Lib.hid hqb;have HAB:=Lib.hid hab;have HB:=Lib.hid hB;have CX:=Lib.hid bx
  have HXW:=Lib.hid (hx.later hB);have HSW:=Lib.hid (hs.later hB);have HVW:=Lib.hid (hv.later hB);have HTW:=Lib.hid (hT.later hB)
  simp only [cfgCells] at HWc ⊢
  clear hBc hWs bx hBs hWss sx hBq hWq qx hBa hWa ax hQ hSQ hB hAL hAS hsb hqb hab hx hs hv hT
  have HON:=Lib.hid (tonce7s_b c ⟨pa,pc,ca,cc,aa,ac,ba,bc⟩ sp sn made valid ma va mc vc port ad da dn dc W HXW.out wx lx HSW.out HVW.out hp had hdn HTW.out mv hmv hz hk7)
  simp only [cfgCells] at HON
  clear hz hmv hk7
  obtain ⟨c0,c1,c2,c3,c4,c5⟩:=CX.out _ (BX.out _ (Below.refl _ _))
  have s0:W.cell? ⟨sb,0,none⟩ = some (.int .i64 sp):=cell_blk (SX.out _ (Below.refl _ _)) rfl
  have s1:W.cell? ⟨sb,1,none⟩ = some (.bool sn):=cell_blk (SX.out _ (Below.refl _ _)) rfl
  have s2:W.cell? ⟨sb,2,none⟩ = some (.slice ma made.length mc):=cell_blk (SX.out _ (Below.refl _ _)) rfl
  have s3:W.cell? ⟨sb,3,none⟩ = some (.slice va valid.length vc):=cell_blk (SX.out _ (Below.refl _ _)) rfl
  have q0:W.cell? ⟨qb,0,none⟩ = some (.int .i64 7):=cell_blk (QX.out _ (Below.refl _ _)) rfl
  have q1:W.cell? ⟨qb,1,none⟩ = some (.int .i64 port):=cell_blk (QX.out _ (Below.refl _ _)) rfl
  have q2:W.cell? ⟨qb,2,none⟩ = some (.int .u64 ad):=cell_blk (QX.out _ (Below.refl _ _)) rfl
  have q3:W.cell? ⟨qb,3,none⟩ = some (.slice da dn dc):=cell_blk (QX.out _ (Below.refl _ _)) rfl
  go_enter Tryz.func12,Tryz.ntmps12
  go_wp2_with (first | (rw [← HWc.out]) | (simp only [← HSB.out];rw [← HWs.out]) | (simp only [← HQB.out];rw [← HWq.out]) | (simp only [← HAB.out];rw [← HW.out]))
  refine HON.out.mono ?_
  rintro e w5 ⟨rfl,hb5⟩
  clear c0 c1 c2 c3 c4 c5 s0 s1 s2 s3 q0 q1 q2 q3
  obtain ⟨Y1,HY1,hbY1,hsY1,yx⟩:=box_new w5 #[.int .i64 0,.slice none 0 0,.bool false,.int .i64 0] 42
  have hth1:=there_blk (W:=Y1) (yx _ (Below.refl _ _)) (n:=(#[.int .i64 0,.slice none 0 0,.bool mv,.int .i64 0]:Array Value).size) rfl
  have hsz1:(Tryz.prog.info? 42).map (·.size) = some (#[.int .i64 0,.slice none 0 0,.bool mv,.int .i64 0]:Array Value).size:=ans_size
  obtain ⟨Y2,HY2⟩:∃ u,Hid (u = Y1.setCells w5.heap.size 0 [.int .i64 0,.slice none 0 0,.bool mv,.int .i64 0]):=⟨_,rfl⟩
  have hy2:Y2.heap[w5.heap.size]? = some (.cells #[.int .i64 0,.slice none 0 0,.bool mv,.int .i64 0] 42 (0,0)):=by rw [HY2.out];exact block_setCells (yx _ (Below.refl _ _)) _ rfl
  have hb2:Below W.heap.size W Y2:=by rw [HY2.out];exact below_setCells _ _ _ (hb5.trans (hbY1.mono hb5.size)) hb5.size
  obtain ⟨lb,hlb⟩:∃ n,n = w5.heap.size:=⟨_,rfl⟩
  rw [← hlb] at hth1 hy2
  have HLB:=Lib.hid hlb;have HB2:=Lib.hid hb2;have H2L:=Lib.hid hy2
  obtain ⟨c0,c1,c2,c3,c4,c5⟩:=CX.out _ (BX.out _ hb2)
  have s0:Y2.cell? ⟨sb,0,none⟩ = some (.int .i64 sp):=cell_blk (SX.out _ hb2) rfl
  have s1:Y2.cell? ⟨sb,1,none⟩ = some (.bool sn):=cell_blk (SX.out _ hb2) rfl
  have s2:Y2.cell? ⟨sb,2,none⟩ = some (.slice ma made.length mc):=cell_blk (SX.out _ hb2) rfl
  have s3:Y2.cell? ⟨sb,3,none⟩ = some (.slice va valid.length vc):=cell_blk (SX.out _ hb2) rfl
  have q0:Y2.cell? ⟨qb,0,none⟩ = some (.int .i64 7):=cell_blk (QX.out _ hb2) rfl
  have q1:Y2.cell? ⟨qb,1,none⟩ = some (.int .i64 port):=cell_blk (QX.out _ hb2) rfl
  have q2:Y2.cell? ⟨qb,2,none⟩ = some (.int .u64 ad):=cell_blk (QX.out _ hb2) rfl
  have q3:Y2.cell? ⟨qb,3,none⟩ = some (.slice da dn dc):=cell_blk (QX.out _ hb2) rfl
  have l0:Y2.cell? ⟨lb,0,none⟩ = some (.int .i64 0):=cell_blk hy2 rfl
  have l1:Y2.cell? ⟨lb,1,none⟩ = some (.slice none 0 0):=cell_blk hy2 rfl
  have l2:Y2.cell? ⟨lb,2,none⟩ = some (.bool mv):=cell_blk hy2 rfl
  have l3:Y2.cell? ⟨lb,3,none⟩ = some (.int .i64 0):=cell_blk hy2 rfl
  clear hb5 hbY1 hsY1 yx hy2 hb2 hlb
  go_wp2_with (first | (simp only [← HLB.out];rw [← HY1.out]) | (with_reducible refine wpList_store_mid (by kernel_rfl) _ _ _ rfl lb 0 #[.int .i64 0,.slice none 0 0,.bool mv,.int .i64 0] (by kernel_rfl) (by kernel_rfl) hth1 hsz1 (by kernel_rfl) ?_) | (simp only [HLB.out];rw [← HY2.out];simp only [← HLB.out]))
  have hth:=there_blk (W:=Y2) (AX.out _ HB2.out) (n:=(#[.int .i64 0,.slice none 0 0,.bool mv,.int .i64 0]:Array Value).size) rfl
  have hsz:(Tryz.prog.info? 42).map (·.size) = some (#[.int .i64 0,.slice none 0 0,.bool mv,.int .i64 0]:Array Value).size:=ans_size
  have ha:=AX.out _ HB2.out
  have b0:Y2.cell? ⟨ab,0,none⟩ = some (.int .i64 0):=cell_blk ha rfl
  have b1:Y2.cell? ⟨ab,1,none⟩ = some (.slice none 0 0):=cell_blk ha rfl
  have b2:Y2.cell? ⟨ab,2,none⟩ = some (.bool false):=cell_blk ha rfl
  have b3:Y2.cell? ⟨ab,3,none⟩ = some (.int .i64 0):=cell_blk ha rfl
  have f0:Y2.frozen? ⟨ab,0,none⟩ = false:=by simp [World.frozen?,ha]
  have f1:Y2.frozen? ⟨ab,1,none⟩ = false:=by simp [World.frozen?,ha]
  have f2:Y2.frozen? ⟨ab,2,none⟩ = false:=by simp [World.frozen?,ha]
  have f3:Y2.frozen? ⟨ab,3,none⟩ = false:=by simp [World.frozen?,ha]
  have hrg:(Y2.setCells ab 0 (#[.int .i64 0,.slice none 0 0,.bool mv,.int .i64 0]:Array Value).toList).drew.rangeAt ab 0 (#[.int .i64 0,.slice none 0 0,.bool mv,.int .i64 0]:Array Value).toList:=World.rangeAt_setCells_same Y2 ab 0 (#[.int .i64 0,.slice none 0 0,.bool mv,.int .i64 0]:Array Value).toList (by simpa using hth)
  have HRG:=Lib.hid hrg
  clear hth hsz ha hrg
  go_region
  go_wp2
  (try simp only [Exit.inBlock,Exit.then])
  refine bodyPost_ret (results_pmt rfl _ _ ab (#[.int .i64 0,.slice none 0 0,.bool mv,.int .i64 0]:Array Value).toList _ rfl (by exact HRG.out) Tryz.underlying42 rfl ans_size rfl rfl) rfl ?_
  exact ⟨rfl,(below_setCells (#[.int .i64 0,.slice none 0 0,.bool mv,.int .i64 0]:Array Value).toList 0 Y2 (HB.out.trans (HB2.out.mono HB.out.size)) HAL.out).drew⟩
end Go.Proofs.YtjfolhkblbakiaaGreatDoor
