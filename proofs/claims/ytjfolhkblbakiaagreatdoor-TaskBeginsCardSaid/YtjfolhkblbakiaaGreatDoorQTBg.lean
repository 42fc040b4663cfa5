/- Texts of the ring, joined, what is used of them. No condition but those in the statements. -/
import Derived.BigQuiet
import Derived.BigRegion
import Derived.Deep.MidRow
import Derived.Deep.RegionHeld3
import Derived.Deep.Upon
import Derived.IntWalk
import Derived.Test.YtjfolhkblbakiaaGreatDoorQTA
import Derived.Test.YtjfolhkblbakiaaGreatDoorQTBd
import Derived.Test.YtjfolhkblbakiaaGreatDoorQTFu
import Derived.Test.YtjfolhkblbakiaaGreatDoorQgX
namespace Go.Proofs.YtjfolhkblbakiaaGreatDoor
open Go.RowKit Go.Sort
set_option linter.unusedVariables false
set_option linter.unusedSimpArgs false
set_option linter.unusedVariables false
set_option linter.unusedSimpArgs false
open Go.Proofs.YtjfolhkblbakiaaGreatDoor.Simp
set_option maxRecDepth 100000
set_option maxHeartbeats 1600000
/-- A call that goes on has begun. -/
def GoesT (w:World) (K:Wk) (e:Ending) (w':World):Prop:=∃ tb S T v,e = .returned (.tuple #[.pointer (some ⟨tb,0,none⟩),.agg #[.int .i64 0,.slice none 0 0,.bool false,.int .i64 0],.bool false]) ∧ w'.heap[tb]? = some (.cells #[.iface T v,.int .i64 1,.bool false] 106 (0,0)) ∧ WkAt w' S T v K ∧ (∀ k,S k → w.heap.size ≤ k) ∧ ¬ S tb ∧ w.heap.size ≤ tb ∧ Below w.heap.size w w'
theorem beginGo_b (c:Cfg) (x:CfgAt) (sp:Int) (sn:Bool) (own:Int) (made valid:List Int) (ma va:Option Addr) (mc vc:Nat) (op port ad:Int) (da:Option Addr) (dn dc:Nat) (w:World) (hx:CfgIn w w.heap.size c x) (wx:CfgWf c) (lx:CfgFew c) (hs:SIn w made ma) (hv:SIn w valid va) (hp:(Lit.int .i64 port).wf = true) (had:(Lit.int .u64 ad).wf = true) (hdn:dn ≤ 1000000) (hT:TabsAt w) (K:Wk) (HT0:∀ V,Below w.heap.size w V → Calls Tryz.prog 43 #[.agg (cfgCells c x),.agg #[.int .i64 sp,.bool sn,.slice ma made.length mc,.slice va valid.length vc],.agg #[.int .i64 op,.int .i64 port,.int .u64 ad,.slice da dn dc]] V fun e w' => e = .returned (.tuple #[.agg #[.int .i64 0,.slice none 0 0,.bool false,.int .i64 0],.bool false]) ∧ Below V.heap.size V w') (HF0:∀ V,Below w.heap.size w V → Calls Tryz.prog 45 #[.agg (cfgCells c x),.int .u32 own,.agg #[.int .i64 op,.int .i64 port,.int .u64 ad,.slice da dn dc]] V (GivesWk V K)) :
    Calls Tryz.prog 12 #[.agg (cfgCells c x),.agg #[.int .i64 sp,.bool sn,.slice ma made.length mc,.slice va valid.length vc],.int .u32 own,.agg #[.int .i64 op,.int .i64 port,.int .u64 ad,.slice da dn dc]] w (GoesT w K):=by
  obtain ⟨Wc,HWc,hBc,hWs,bx⟩:=one_cbox w c x 29
  obtain ⟨pa,pc,ca,cc,aa,ac,ba,bc⟩:=x
  obtain ⟨Ws,HWs,hBs,hWss,sx⟩:=box_new Wc #[.int .i64 sp,.bool sn,.slice ma made.length mc,.slice va valid.length vc] 32
  obtain ⟨Wq,HWq,hBq,hWq,qx⟩:=box_new Ws #[.int .i64 op,.int .i64 port,.int .u64 ad,.slice da dn dc] 36
  obtain ⟨W,HW,hBa,hWa,ax⟩:=box_new Wq #[.int .i64 0,.slice none 0 0,.bool false,.int .i64 0] 42
  have hQ:=hBq.trans (hBa.mono hBq.size)
  have hSQ:=hBs.trans (hQ.mono hBs.size)
  have hB:=hBc.trans (hSQ.mono hBc.size)
  have BX:Hid (∀ w',Below W.heap.size W w' → Below Wc.heap.size Wc w'):=Lib.hid (fun w' h => hSQ.trans (h.mono hSQ.size))
  have SX:Hid (∀ w',Below W.heap.size W w' → w'.heap[Wc.heap.size]? = some (.cells #[.int .i64 sp,.bool sn,.slice ma made.length mc,.slice va valid.length vc] 32 (0,0))):=Lib.hid (fun w' h => sx _ (hQ.trans (h.mono hQ.size)))
  have QX:Hid (∀ w',Below W.heap.size W w' → w'.heap[Ws.heap.size]? = some (.cells #[.int .i64 op,.int .i64 port,.int .u64 ad,.slice da dn dc] 36 (0,0))):=Lib.hid (fun w' h => qx _ (hBa.trans (h.mono hBa.size)))
  have AX:Hid (∀ w',Below W.heap.size W w' → w'.heap[Wq.heap.size]? = some (.cells #[.int .i64 0,.slice none 0 0,.bool false,.int .i64 0] 42 (0,0))):=Lib.hid (fun w' h => ax _ h)
  have hAL:w.heap.size ≤ Wq.heap.size:=(hBc.trans ((hBs.trans (hBq.mono hBs.size)).mono hBc.size)).size
  have hAS:=hWa
  obtain ⟨sb,hsb⟩:∃ n,n = Wc.heap.size:=⟨_,rfl⟩
  obtain ⟨qb,hqb⟩:∃ n,n = Ws.heap.size:=⟨_,rfl⟩
  obtain ⟨ab,hab⟩:∃ n,n = Wq.heap.size:=⟨_,rfl⟩
  rw [← hsb] at SX
  rw [← hqb] at QX
  rw [← hab] at AX hAL hAS
  have HAL:=Lib.hid hAL;have HAS:=Lib.hid hAS
  have HSB:=Lib.hid hsb;have HQB:=Lib.hid hqb;have HAB:=Lib.hid hab;have HB:=Lib.hid hB;have CX:=Lib.hid bx
  have HXW:=Lib.hid (hx.later hB);have HSW:=Lib.hid (hs.later hB);have HVW:=Lib.hid (hv.later hB);have HTW:=Lib.hid (hT.later hB)
  simp only [cfgCells] at HWc ⊢
  clear hBc hWs bx hBs hWss sx hBq hWq qx hBa hWa ax hQ hSQ hB hAL hAS hsb hqb hab hx hs hv hT
  have HON:=Lib.hid (HT0 W HB.out)
  simp only [cfgCells] at HON
  have HFU:=Lib.hid (fun (V:World) (hb:Below W.heap.size W V) => HF0 V (HB.out.trans (hb.mono HB.out.size)))
  simp only [cfgCells] at HFU
  clear HT0 HF0
  obtain ⟨c0,c1,c2,c3,c4,c5⟩:=CX.out _ (BX.out _ (Below.refl _ _))
  have s0:W.cell? ⟨sb,0,none⟩ = some (.int .i64 sp):=cell_blk (SX.out _ (Below.refl _ _)) rfl
  have s1:W.cell? ⟨sb,1,none⟩ = some (.bool sn):=cell_blk (SX.out _ (Below.refl _ _)) rfl
  have s2:W.cell? ⟨sb,2,none⟩ = some (.slice ma made.length mc):=cell_blk (SX.out _ (Below.refl _ _)) rfl
  have s3:W.cell? ⟨sb,3,none⟩ = some (.slice va valid.length vc):=cell_blk (SX.out _ (Below.refl _ _)) rfl
  have q0:W.cell? ⟨qb,0,none⟩ = some (.int .i64 op):=cell_blk (QX.out _ (Below.refl _ _)) rfl
  have q1:W.cell? ⟨qb,1,none⟩ = some (.int .i64 port):=cell_blk (QX.out _ (Below.refl _ _)) rfl
  have q2:W.cell? ⟨qb,2,none⟩ = some (.int .u64 ad):=cell_blk (QX.out _ (Below.refl _ _)) rfl
  have q3:W.cell? ⟨qb,3,none⟩ = some (.slice da dn dc):=cell_blk (QX.out _ (Below.refl _ _)) rfl
  go_enter Tryz.func12,Tryz.ntmps12
  go_wp2_with (first | (rw [← HWc.out]) | (simp only [← HSB.out];rw [← HWs.out]) | (simp only [← HQB.out];rw [← HWq.out]) | (simp only [← HAB.out];rw [← HW.out]))
  refine HON.out.mono ?_
  rintro e w5 ⟨rfl,hb5⟩
  clear c0 c1 c2 c3 c4 c5 s0 s1 s2 s3 q0 q1 q2 q3
  obtain ⟨Y1,HY1,hbY1,hsY1,yx⟩:=box_new w5 #[.int .i64 0,.slice none 0 0,.bool false,.int .i64 0] 42
  have hth1:=there_blk (W:=Y1) (yx _ (Below.refl _ _)) (n:=(#[.int .i64 0,.slice none 0 0,.bool false,.int .i64 0]:Array Value).size) rfl
  have hsz1:(Tryz.prog.info? 42).map (·.size) = some (#[.int .i64 0,.slice none 0 0,.bool false,.int .i64 0]:Array Value).size:=ans_size
  obtain ⟨Y2,HY2⟩:∃ u,Hid (u = Y1.setCells w5.heap.size 0 [.int .i64 0,.slice none 0 0,.bool false,.int .i64 0]):=⟨_,rfl⟩
  have hy2:Y2.heap[w5.heap.size]? = some (.cells #[.int .i64 0,.slice none 0 0,.bool false,.int .i64 0] 42 (0,0)):=by rw [HY2.out];exact block_setCells (yx _ (Below.refl _ _)) _ rfl
  have hb2:Below W.heap.size W Y2:=by rw [HY2.out];exact below_setCells _ _ _ (hb5.trans (hbY1.mono hb5.size)) hb5.size
  obtain ⟨lb,hlb⟩:∃ n,n = w5.heap.size:=⟨_,rfl⟩
  rw [← hlb] at hth1 hy2
  have HLB:=Lib.hid hlb;have HB2:=Lib.hid hb2;have H2L:=Lib.hid hy2
  obtain ⟨c0,c1,c2,c3,c4,c5⟩:=CX.out _ (BX.out _ hb2)
  have s0:Y2.cell? ⟨sb,0,none⟩ = some (.int .i64 sp):=cell_blk (SX.out _ hb2) rfl
  have s1:Y2.cell? ⟨sb,1,none⟩ = some (.bool sn):=cell_blk (SX.out _ hb2) rfl
  have s2:Y2.cell? ⟨sb,2,none⟩ = some (.slice ma made.length mc):=cell_blk (SX.out _ hb2) rfl
  have s3:Y2.cell? ⟨sb,3,none⟩ = some (.slice va valid.length vc):=cell_blk (SX.out _ hb2) rfl
  have q0:Y2.cell? ⟨qb,0,none⟩ = some (.int .i64 op):=cell_blk (QX.out _ hb2) rfl
  have q1:Y2.cell? ⟨qb,1,none⟩ = some (.int .i64 port):=cell_blk (QX.out _ hb2) rfl
  have q2:Y2.cell? ⟨qb,2,none⟩ = some (.int .u64 ad):=cell_blk (QX.out _ hb2) rfl
  have q3:Y2.cell? ⟨qb,3,none⟩ = some (.slice da dn dc):=cell_blk (QX.out _ hb2) rfl
  have l0:Y2.cell? ⟨lb,0,none⟩ = some (.int .i64 0):=cell_blk hy2 rfl
  have l1:Y2.cell? ⟨lb,1,none⟩ = some (.slice none 0 0):=cell_blk hy2 rfl
  have l2:Y2.cell? ⟨lb,2,none⟩ = some (.bool false):=cell_blk hy2 rfl
  have l3:Y2.cell? ⟨lb,3,none⟩ = some (.int .i64 0):=cell_blk hy2 rfl
  clear hb5 hbY1 hsY1 yx hy2 hb2 hlb
  go_wp2_with (first | (simp only [← HLB.out];rw [← HY1.out]) | (with_reducible refine wpList_store_mid (by kernel_rfl) _ _ _ rfl lb 0 #[.int .i64 0,.slice none 0 0,.bool false,.int .i64 0] (by kernel_rfl) (by kernel_rfl) hth1 hsz1 (by kernel_rfl) ?_) | (simp only [HLB.out];rw [← HY2.out];simp only [← HLB.out]))
  refine (HFU.out Y2 HB2.out).mono ?_
  rintro e w6 ⟨S,T,v,rfl,hat,hlo,hb6⟩
  go_wp2_with fail
  refine (begun_b T v w6).mono ?_
  rintro e w7 ⟨rfl,hb7⟩
  have h27:=hb6.trans (hb7.mono hb6.size)
  have hW7:=HB2.out.trans (h27.mono HB2.out.size)
  obtain ⟨V,HV,hbV,hsV,vx⟩:=box_new w7 #[.iface T v,.int .i64 1,.bool false] 106
  have hWV:=hW7.trans (hbV.mono hW7.size)
  obtain ⟨tb,htb⟩:∃ n,n = w7.heap.size:=⟨_,rfl⟩
  have hvt:V.heap[tb]? = some (.cells #[.iface T v,.int .i64 1,.bool false] 106 (0,0)):=by rw [htb];exact vx _ (Below.refl _ _)
  have hlt:ab < tb ∧ w.heap.size ≤ tb:=by
    have q1:=HAS.out;have q2:=hW7.size;have q3:=HB.out.size
    rw [htb];omega
  have hatV:WkAt V S T v K:=hat.only (Only.of_below (S:=fun _ => False) (hb7.trans (hbV.mono hb7.size))) (fun _ _ h => h)
  have hSt:∀ k,S k → k < w6.heap.size ∧ Y2.heap.size ≤ k:=fun k hk => ⟨hat.low k hk,hlo k hk⟩
  have HAT:=Lib.hid hatV;have HST:=Lib.hid hSt;have HB67:=Lib.hid hb7.size
  clear hat hlo hatV hSt
  have HTB:=Lib.hid htb;have HLT:=Lib.hid hlt;have HVT:=Lib.hid hvt;have HWV:=Lib.hid hWV
  have hth:=there_blk (W:=V) (AX.out _ HWV.out) (n:=(#[.int .i64 0,.slice none 0 0,.bool false,.int .i64 0]:Array Value).size) rfl
  have hsz:(Tryz.prog.info? 42).map (·.size) = some (#[.int .i64 0,.slice none 0 0,.bool false,.int .i64 0]:Array Value).size:=ans_size
  clear hb6 hb7 h27 hW7 hbV hsV vx hWV htb hvt hlt
  go_wp2_with (first | (simp only [← HTB.out];rw [← HV.out]) | (with_reducible refine wpList_store_mid (by kernel_rfl) _ _ _ rfl ab 0 #[.int .i64 0,.slice none 0 0,.bool false,.int .i64 0] (by kernel_rfl) (by kernel_rfl) hth hsz (by kernel_rfl) ?_))
  have hrg:=World.rangeAt_setCells_same V ab 0 (#[.int .i64 0,.slice none 0 0,.bool false,.int .i64 0]:Array Value).toList (by simpa using hth)
  (try simp only [Exit.inBlock,Exit.then])
  refine bodyPost_ret (results_pmt rfl _ _ ab (#[.int .i64 0,.slice none 0 0,.bool false,.int .i64 0]:Array Value).toList _ rfl hrg Tryz.underlying42 rfl ans_size rfl rfl) rfl ?_
  have ho:=Only.sets (S:=fun k => k = ab) rfl (#[.int .i64 0,.slice none 0 0,.bool false,.int .i64 0]:Array Value).toList 0 (Only.refl _ V)
  have hab:ab < Y2.heap.size:=by have q1:=HAS.out;have q2:=HB2.out.size;omega
  exact ⟨tb,S,T,v,rfl,ho.at_ HVT.out (by have:=HLT.out.1;omega),HAT.out.only ho (fun k hk e => by have:=(HST.out k hk).2;omega),fun k hk => by have:=(HST.out k hk).2;have q1:=HB.out.size;have q2:=HB2.out.size;omega,fun hk => by have:=(HST.out _ hk).1;have:=HB67.out;have:=HTB.out;omega,HLT.out.2,below_setCells _ _ _ (HB.out.trans (HWV.out.mono HB.out.size)) HAL.out⟩
theorem pbegin_some (c:Cfg) (x:CfgAt) (sp:Int) (sn:Bool) (own:Int) (made valid:List Int) (ma va:Option Addr) (mc vc:Nat) (op port ad:Int) (da:Option Addr) (dn dc:Nat) (w:World) (hx:CfgIn w w.heap.size c x) (wx:CfgWf c) (lx:CfgFew c) (hs:SIn w made ma) (hv:SIn w valid va) (hp:(Lit.int .i64 port).wf = true) (had:(Lit.int .u64 ad).wf = true) (hdn:dn ≤ 1000000) (hT:TabsAt w) (z:Int) (mv:Bool) (h:onceN c sp sn made valid op port ad dn = some (z,mv)) :
    Calls Tryz.prog 12 #[.agg (cfgCells c x),.agg #[.int .i64 sp,.bool sn,.slice ma made.length mc,.slice va valid.length vc],.int .u32 own,.agg #[.int .i64 op,.int .i64 port,.int .u64 ad,.slice da dn dc]] w fun e w' => e = .returned (.tuple #[.pointer none,.agg #[.int .i64 z,.slice none 0 0,.bool mv,.int .i64 0],.bool true]) ∧ Below w.heap.size w w':=by
  rcases once_some h with ⟨h1,rfl,h3⟩ | ⟨rfl,h2,⟨rfl,rfl | rfl⟩ | ⟨rfl,h3,h4⟩⟩
  · exact beginR_b c x sp sn own made valid ma va mc vc op port ad da dn dc w hx wx lx hs hv hp had hdn hT z h3 h1
  · exact begin1_b c x sp sn own made valid ma va mc vc port ad da dn dc w hx wx lx hs hv hp had hdn hT h2
  · exact begin2_b c x sp sn own made valid ma va mc vc port ad da dn dc w hx wx lx hs hv hp had hdn hT h2
  · exact begin7s_b c x sp sn own made valid ma va mc vc port ad da dn dc w hx wx lx hs hv hp had hdn hT mv h4 h2 h3
theorem pbegin_none (c:Cfg) (x:CfgAt) (sp:Int) (sn:Bool) (own:Int) (made valid:List Int) (ma va:Option Addr) (mc vc:Nat) (op port ad:Int) (da:Option Addr) (dn dc:Nat) (w:World) (hx:CfgIn w w.heap.size c x) (wx:CfgWf c) (lx:CfgFew c) (hs:SIn w made ma) (hv:SIn w valid va) (hp:(Lit.int .i64 port).wf = true) (had:(Lit.int .u64 ad).wf = true) (hdn:dn ≤ 1000000) (hT:TabsAt w) (ds:List Int) (hdl:dn = ds.length) (hdr:IntRowK .u32 w w.heap.size da ds) (h0:0 ≤ own ∧ own ≤ 4294967295) (h:onceN c sp sn made valid op port ad dn = none) :
    Calls Tryz.prog 12 #[.agg (cfgCells c x),.agg #[.int .i64 sp,.bool sn,.slice ma made.length mc,.slice va valid.length vc],.int .u32 own,.agg #[.int .i64 op,.int .i64 port,.int .u64 ad,.slice da dn dc]] w (GoesT w (wk0 c op port ad own ds)):=by
  obtain ⟨hz,h3,h9,hs7⟩:=once_none h
  have hr:op = 3 ∨ op = 4 ∨ op = 5 ∨ op = 6 ∨ op = 7 ∨ op = 8 ∨ op = 9:=by omega
  rcases hr with rfl | rfl | rfl | rfl | rfl | rfl | rfl
  · obtain ⟨ha,k,hk,hkK,f1,f2,f3,f5⟩:=req_goes h (by omega)
    refine beginGo_b c x sp sn own made valid ma va mc vc 3 port ad da dn dc w hx wx lx hs hv hp had hdn hT _ (fun V hb => tonce3_b c x sp sn made valid ma va mc vc port ad da dn dc V (hx.later hb) wx lx (hs.later hb) (hv.later hb) hp had hdn (hT.later hb) hz) (fun V hb => ?_)
    exact furth3_b c x own port ad da dn dc V (hx.later hb) wx lx hp k hkK ds hdl ((hdr.below hb).more hb.size) (f1 (.inl rfl)).2 (by rw [← hdl];exact f3 rfl)
  · obtain ⟨ha,k,hk,hkK,f1,f2,f3,f5⟩:=req_goes h (by omega)
    refine beginGo_b c x sp sn own made valid ma va mc vc 4 port ad da dn dc w hx wx lx hs hv hp had hdn hT _ (fun V hb => tonce4_b c x sp sn made valid ma va mc vc port ad da dn dc V (hx.later hb) wx lx (hs.later hb) (hv.later hb) hp had hdn (hT.later hb) hz) (fun V hb => ?_)
    have q:=furth4_b c x own port ad da dn dc V (hx.later hb) wx lx hp k hkK (f1 (.inr rfl)).2
    have e:wk0 c 4 port ad own ds = wk0 c 4 port ad own []:=by simp [wk0]
    rw [e];exact q
  · obtain ⟨ha,k,hk,hkK,f1,f2,f3,f5⟩:=req_goes h (by omega)
    refine beginGo_b c x sp sn own made valid ma va mc vc 5 port ad da dn dc w hx wx lx hs hv hp had hdn hT _ (fun V hb => tonce5_b c x sp sn made valid ma va mc vc port ad da dn dc V (hx.later hb) wx lx (hs.later hb) (hv.later hb) hp had hdn (hT.later hb) hz) (fun V hb => ?_)
    exact furth5_b c x own port ad da dn dc V (hx.later hb) wx lx hp k hkK ds hdl ((hdr.below hb).more hb.size) (f2 (.inl rfl)).2 h0 (by rw [← hdl];exact f5 rfl)
  · obtain ⟨ha,k,hk,hkK,f1,f2,f3,f5⟩:=req_goes h (by omega)
    refine beginGo_b c x sp sn own made valid ma va mc vc 6 port ad da dn dc w hx wx lx hs hv hp had hdn hT _ (fun V hb => tonce6_b c x sp sn made valid ma va mc vc port ad da dn dc V (hx.later hb) wx lx (hs.later hb) (hv.later hb) hp had hdn (hT.later hb) hz) (fun V hb => ?_)
    have q:=furth6_b c x own port ad da dn dc V (hx.later hb) wx lx hp k hkK (f2 (.inr (.inl rfl))).2 h0
    have e:wk0 c 6 port ad own ds = wk0 c 6 port ad own []:=by simp [wk0]
    rw [e];exact q
  · obtain ⟨ha,k,hk,hkK,f1,f2,f3,f5⟩:=req_goes h (by omega)
    refine beginGo_b c x sp sn own made valid ma va mc vc 7 port ad da dn dc w hx wx lx hs hv hp had hdn hT _ (fun V hb => tonce7q_b c x sp sn made valid ma va mc vc port ad da dn dc V (hx.later hb) wx lx (hs.later hb) (hv.later hb) hp had hdn (hT.later hb) hz (by rw [hkK,Int.toNat_natCast];exact (f2 (.inr (.inr rfl))).1)) (fun V hb => ?_)
    have q:=furth7_b c x own port ad da dn dc V (hx.later hb) wx lx hp k hkK (f2 (.inr (.inr rfl))).2 h0
    have e:wk0 c 7 port ad own ds = wk0 c 7 port ad own []:=by simp [wk0]
    rw [e];exact q
  ·
    refine beginGo_b c x sp sn own made valid ma va mc vc 8 port ad da dn dc w hx wx lx hs hv hp had hdn hT _ (fun V hb => tonce8_b c x sp sn made valid ma va mc vc port ad da dn dc V (hx.later hb) wx lx (hs.later hb) (hv.later hb) hp had hdn (hT.later hb) hz) (fun V hb => ?_)
    have e:wk0 c 8 port ad own ds = .p own ad:=by simp [wk0]
    rw [e]
    refine (furth8_b c x own port ad da dn dc V (hx.later hb) wx lx hp).mono ?_
    rintro e w' ⟨rfl,h1⟩
    exact ⟨fun _ => False,_,_,rfl,⟨rfl,rfl,fun _ h => h⟩,fun _ h => h.elim,h1⟩
  ·
    refine beginGo_b c x sp sn own made valid ma va mc vc 9 port ad da dn dc w hx wx lx hs hv hp had hdn hT _ (fun V hb => tonce9_b c x sp sn made valid ma va mc vc port ad da dn dc V (hx.later hb) wx lx (hs.later hb) (hv.later hb) hp had hdn (hT.later hb) hz) (fun V hb => ?_)
    have e:wk0 c 9 port ad own ds = .o own ad (ds.getD 0 0):=by simp [wk0]
    rw [e]
    have hn1:=req_poke (op:=9) hz
    have hd1:ds.length = 1:=by rw [← hdl];exact hn1
    obtain ⟨g,off,hda,hgl,hgc⟩:=(hdr.below hb).more hb.size (by omega)
    refine (furth9_b c x own port ad da dn dc V (hx.later hb) wx lx hp g off (ds.getD 0 0) hda hn1 (by have q:=hgc 0 (by omega);rw [Nat.add_zero] at q;exact q)).mono ?_
    rintro e w' ⟨rfl,h1⟩
    exact ⟨fun _ => False,_,_,rfl,⟨rfl,rfl,fun _ h => h⟩,fun _ h => h.elim,h1⟩
end Go.Proofs.YtjfolhkblbakiaaGreatDoor
