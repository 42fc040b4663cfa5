/- Texts of the ring, joined, what is used of them. No condition but those in the statements. -/
import Derived.BigQuiet
import Derived.IntWalk
import Derived.Lib.SmallJoins
import Derived.Test.YtheeiklgblcjfaaGreatDoorQge
set_option linter.unusedVariables false
set_option linter.unusedSimpArgs false
section
namespace Go.Proofs.YtheeiklgblcjfaaGreatDoor
open Go.Lib (hid)
open Go.RowKit Go.Sort Go.ChangeShapes Go.WideShapes
theorem heap_new_at10 (w:World) (o:Obj) {k:Nat} (h:k = w.heap.size):(w.alloc o).heap[k]? = some o:=by subst h;exact heap_alloc_new w o
end Go.Proofs.YtheeiklgblcjfaaGreatDoor
end
section
namespace Go.Proofs.YtheeiklgblcjfaaGreatDoor
open Go.Lib (hid)
open Go.RowKit Go.Sort Go.ChangeShapes Go.WideShapes
set_option maxRecDepth 100000 in
set_option maxHeartbeats 4000000 in
theorem rtalk_b (c:Cfg) (x:CfgAt) (sp:Int) (sn:Bool) (made:List Int) (ma:Option Addr) (mc:Nat) (va:Option Addr) (vn vc:Nat) (op port ad:Int) (da:Option Addr) (dn dc:Nat) (w:World) (hx:CfgIn w w.heap.size c x) (wx:CfgWf c) (lx:CfgFew c) (hs:SIn w made ma) (hp:(Lit.int .i64 port).wf = true) (hop:3 ≤ op ∧ op ≤ 7) (hdn:dn ≤ 1000000) :
  Calls Tryz.prog 62 #[.agg (cfgCells c x),.agg #[.int .i64 sp,.bool sn,.slice ma made.length mc,.slice va vn vc],.agg #[.int .i64 op,.int .i64 port,.int .u64 ad,.slice da dn dc]] w fun e w' => e = .returned (.int .i64 (talkN c sp sn made op port dn)) ∧ Below w.heap.size w w':=by
 obtain ⟨Wc,HWc,hBc,hWs,bx⟩:=one_cbox w c x 29
 obtain ⟨pa,pc,ca,cc,aa,ac,ba,bc⟩:=x
 obtain ⟨Ws,HWs,hBs,hWss,sx⟩:=box_new Wc #[.int .i64 sp,.bool sn,.slice ma made.length mc,.slice va vn vc] 59
 obtain ⟨W,HW,hBq,hWq,qx⟩:=box_new Ws #[.int .i64 op,.int .i64 port,.int .u64 ad,.slice da dn dc] 39
 have hcW:=hx.later (hBc.trans ((hBs.trans (hBq.mono hBs.size)).mono hBc.size))
 have hsW:=hs.later (hBc.trans ((hBs.trans (hBq.mono hBs.size)).mono hBc.size))
 have HB:=hid (hBc.trans ((hBs.trans (hBq.mono hBs.size)).mono hBc.size))
 have BX:∀ w',Below W.heap.size W w' → Below Wc.heap.size Wc w':=fun w' h => (hBs.trans (hBq.mono hBs.size)).trans (h.mono (Nat.le_trans hBs.size hBq.size))
 have SX:∀ w',Below W.heap.size W w' → Below Ws.heap.size Ws w':=fun w' h => hBq.trans (h.mono hBq.size)
 obtain ⟨sb,hsb⟩:∃ n,n = Wc.heap.size:=⟨_,rfl⟩
 obtain ⟨qb,hqb⟩:∃ n,n = Ws.heap.size:=⟨_,rfl⟩
 rw [← hsb] at sx
 rw [← hqb] at qx
 have HSB:=hid hsb;have HQB:=hid hqb
 simp only [cfgCells] at HWc ⊢
 clear hBc hWs hBs hWss hBq hWq hx hs hsb hqb
 have hl:=lx.2.1
 obtain ⟨c0,c1,c2,c3,c4,c5⟩:=bx _ (BX _ (Below.refl _ _))
 have s0:W.cell? ⟨sb,0,none⟩ = some (.int .i64 sp):=cell_blk (sx _ (SX _ (Below.refl _ _))) rfl
 have s1:W.cell? ⟨sb,1,none⟩ = some (.bool sn):=cell_blk (sx _ (SX _ (Below.refl _ _))) rfl
 have s2:W.cell? ⟨sb,2,none⟩ = some (.slice ma made.length mc):=cell_blk (sx _ (SX _ (Below.refl _ _))) rfl
 have s3:W.cell? ⟨sb,3,none⟩ = some (.slice va vn vc):=cell_blk (sx _ (SX _ (Below.refl _ _))) rfl
 have q0:W.cell? ⟨qb,0,none⟩ = some (.int .i64 op):=cell_blk (qx _ (Below.refl _ _)) rfl
 have q1:W.cell? ⟨qb,1,none⟩ = some (.int .i64 port):=cell_blk (qx _ (Below.refl _ _)) rfl
 have q2:W.cell? ⟨qb,2,none⟩ = some (.int .u64 ad):=cell_blk (qx _ (Below.refl _ _)) rfl
 have q3:W.cell? ⟨qb,3,none⟩ = some (.slice da dn dc):=cell_blk (qx _ (Below.refl _ _)) rfl
 have hC:=rport_b c ⟨pa,pc,ca,cc,aa,ac,ba,bc⟩ port W hcW wx lx hp
 obtain ⟨K,hK⟩:∃ K,portK c port = K:=⟨_,rfl⟩
 obtain ⟨P,hP⟩:∃ P,portP c port = P:=⟨_,rfl⟩
 obtain ⟨S,hS⟩:∃ S,portS c port = S:=⟨_,rfl⟩
 obtain ⟨B,hBB⟩:∃ B,portB c port = B:=⟨_,rfl⟩
 rw [hK,hP,hS,hBB] at hC
 have HCW:=hid hcW;have HSW:=hid hsW
 have HC:=hid hC;have HK:=hid hK;have HP:=hid hP;have HS:=hid hS;have HBB:=hid hBB
 simp only [cfgCells] at HC
 clear hC hK hP hS hBB hcW hsW
 go_enter Tryz.func62,Tryz.ntmps62
 go_wp2_with (first | (rw [← HWc.out]) | (simp only [← HSB.out];rw [← HWs.out]) | (simp only [← HQB.out];rw [← HW.out]))
 refine HC.out.mono ?_
 rintro e w5 ⟨rfl,hb5⟩
 obtain ⟨V,hV⟩:∃ u,Hid (u = w5.alloc (.cells #[.int .i64 K,.int .i64 P,.bool S,.bool B] 110)):=⟨_,rfl⟩
 have hbV:Below w5.heap.size w5 V:=by rw [hV.out];exact (Below.refl _ _).alloc (Nat.le_refl _) _
 have hxV:V.heap[w5.heap.size]? = some (.cells #[.int .i64 K,.int .i64 P,.bool S,.bool B] 110 (0,0)):=by rw [hV.out];exact heap_alloc_new _ _
 have HV:=hid (hb5.trans (hbV.mono hb5.size))
 have HXV:=hid hxV
 have hlv:=(Array.getElem?_eq_some_iff.1 hxV).1
 have t0:V.cell? ⟨w5.heap.size,0,none⟩ = some (.int .i64 K):=cell_blk hxV rfl
 have t1:V.cell? ⟨w5.heap.size,1,none⟩ = some (.int .i64 P):=cell_blk hxV rfl
 have t2:V.cell? ⟨w5.heap.size,2,none⟩ = some (.bool S):=cell_blk hxV rfl
 have t3:V.cell? ⟨w5.heap.size,3,none⟩ = some (.bool B):=cell_blk hxV rfl
 clear c0 c1 c2 c3 c4 c5 s0 s1 s2 s3 q0 q1 q2 q3
 obtain ⟨c0,c1,c2,c3,c4,c5⟩:=bx _ (BX _ HV.out)
 have s0:V.cell? ⟨sb,0,none⟩ = some (.int .i64 sp):=cell_blk (sx _ (SX _ HV.out)) rfl
 have s1:V.cell? ⟨sb,1,none⟩ = some (.bool sn):=cell_blk (sx _ (SX _ HV.out)) rfl
 have s2:V.cell? ⟨sb,2,none⟩ = some (.slice ma made.length mc):=cell_blk (sx _ (SX _ HV.out)) rfl
 have s3:V.cell? ⟨sb,3,none⟩ = some (.slice va vn vc):=cell_blk (sx _ (SX _ HV.out)) rfl
 have q0:V.cell? ⟨qb,0,none⟩ = some (.int .i64 op):=cell_blk (qx _ HV.out) rfl
 have q1:V.cell? ⟨qb,1,none⟩ = some (.int .i64 port):=cell_blk (qx _ HV.out) rfl
 have q2:V.cell? ⟨qb,2,none⟩ = some (.int .u64 ad):=cell_blk (qx _ HV.out) rfl
 have q3:V.cell? ⟨qb,3,none⟩ = some (.slice da dn dc):=cell_blk (qx _ HV.out) rfl
 clear hb5 hbV hxV
 cases B with
 | false =>
  have HX:=hid (show talkN c sp sn made op port dn = 3 from talk_no (by unfold hasB;rw [HBB.out];rfl))
  go_wp2_with (rw [← hV.out])
  go_ret
  exact ⟨by rw [HX.out];rfl,HB.out.trans (HV.out.mono HB.out.size)⟩
 | true =>
 by_cases hps:P = sp
 ·have hpa:(P != sp) = false:=by simp [hps]
  obtain ⟨m,hm⟩:∃ m,madeB made port = m:=⟨_,rfl⟩
  have HMD:=hid hm
  have HH:=hid (show hasB c sp made port = m by unfold hasB;rw [HBB.out,HP.out,decide_eq_true hps,hm];rfl)
  have hsV:=HSW.out.later HV.out
  clear hps hm
  go_wp2_with (rw [← hV.out])
  refine (rmade_is sp sn made ma mc va vn vc port m _ hsV HMD.out).mono ?_
  rintro e w6 ⟨rfl,hb6⟩
  have HX6:=hid ((hb6.block _ hlv).trans HXV.out)
  have H6:=hid (HV.out.trans (hb6.mono HV.out.size))
  clear t0 t1 t2 t3 hb6 hsV
  clear c0 c1 c2 c3 c4 c5 s0 s1 s2 s3 q0 q1 q2 q3
  obtain ⟨c0,c1,c2,c3,c4,c5⟩:=bx _ (BX _ H6.out)
  have s0:w6.cell? ⟨sb,0,none⟩ = some (.int .i64 sp):=cell_blk (sx _ (SX _ H6.out)) rfl
  have s1:w6.cell? ⟨sb,1,none⟩ = some (.bool sn):=cell_blk (sx _ (SX _ H6.out)) rfl
  have s2:w6.cell? ⟨sb,2,none⟩ = some (.slice ma made.length mc):=cell_blk (sx _ (SX _ H6.out)) rfl
  have s3:w6.cell? ⟨sb,3,none⟩ = some (.slice va vn vc):=cell_blk (sx _ (SX _ H6.out)) rfl
  have q0:w6.cell? ⟨qb,0,none⟩ = some (.int .i64 op):=cell_blk (qx _ H6.out) rfl
  have q1:w6.cell? ⟨qb,1,none⟩ = some (.int .i64 port):=cell_blk (qx _ H6.out) rfl
  have q2:w6.cell? ⟨qb,2,none⟩ = some (.int .u64 ad):=cell_blk (qx _ H6.out) rfl
  have q3:w6.cell? ⟨qb,3,none⟩ = some (.slice da dn dc):=cell_blk (qx _ H6.out) rfl
  have t0:w6.cell? ⟨w5.heap.size,0,none⟩ = some (.int .i64 K):=cell_blk HX6.out rfl
  have t2:w6.cell? ⟨w5.heap.size,2,none⟩ = some (.bool S):=cell_blk HX6.out rfl
  cases m with
  | false =>
   have HX:=hid (show talkN c sp sn made op port dn = 3 from talk_no HH.out)
   go_wp2
   go_ret
   exact ⟨by rw [HX.out];rfl,HB.out.trans (H6.out.mono HB.out.size)⟩
  | true =>
  cases sn with
  | false =>
   have HX:=hid (show talkN c sp false made op port dn = 5 from talk_mode HH.out)
   go_wp2
   go_ret
   exact ⟨by rw [HX.out];rfl,HB.out.trans (H6.out.mono HB.out.size)⟩
  | true =>
  obtain ⟨k,hk,hkK⟩:=portK_of HBB.out
  have hKk:K = (k:Int):=HK.out.symm.trans hkK
  subst hKk
  obtain ⟨b,o,x0,x1,x2,x3,x4,x5,x6,e0,_,e1,_,k0⟩:=HCW.out.rc.at7 wx.wc hk
  cases e0
  have hac:=(accd_of (port_of HBB.out).1).chan k hk
  rw [row_at e1] at hac
  obtain ⟨hkind,hx3a,hx3b,-⟩:(x0 = 1 ∨ x0 = 2) ∧ 1 ≤ x3 ∧ x3 ≤ 16 ∧ True:=⟨hac.1,hac.2.1,hac.2.2.1,trivial⟩
  have HT:=hid (show talkN c sp true made op port dn = talkT x0 S x3 op dn by rw [talk_on HH.out hkK e1,HS.out])
  have k1:=k0 _ H6.out
  obtain ⟨y0,y1,y2,y3,y4,y5,y6⟩:=k1
  have g1:(0:Int) ≤ (k:Int):=by omega
  have g2:(k:Int) < (c.chans.length:Int):=by omega
  have hbq:=Below.refl w6.heap.size w6
  have c1r:∀ p:Regrown,(grow (redrawn w6 p.d) p.os).cell? ⟨w.heap.size,1,none⟩ = some (.slice (some ⟨b,o,none⟩) c.chans.length cc):=fun p => cell_regrown c1 p.d p.os
  have q0r:∀ p:Regrown,(grow (redrawn w6 p.d) p.os).cell? ⟨qb,0,none⟩ = some (.int .i64 op):=fun p => cell_regrown q0 p.d p.os
  have q3r:∀ p:Regrown,(grow (redrawn w6 p.d) p.os).cell? ⟨qb,3,none⟩ = some (.slice da dn dc):=fun p => cell_regrown q3 p.d p.os
  have t0r:∀ p:Regrown,(grow (redrawn w6 p.d) p.os).cell? ⟨w5.heap.size,0,none⟩ = some (.int .i64 (k:Int)):=fun p => cell_regrown t0 p.d p.os
  have t2r:∀ p:Regrown,(grow (redrawn w6 p.d) p.os).cell? ⟨w5.heap.size,2,none⟩ = some (.bool S):=fun p => cell_regrown t2 p.d p.os
  have y0r:∀ p:Regrown,(grow (redrawn w6 p.d) p.os).cell? ⟨b,o + k * 7,none⟩ = some (.int .i64 x0):=fun p => cell_regrown y0 p.d p.os
  have y3r:∀ p:Regrown,(grow (redrawn w6 p.d) p.os).cell? ⟨b,o + k * 7 + 3,none⟩ = some (.int .i64 x3):=fun p => cell_regrown y3 p.d p.os
  have s1r:∀ p:Regrown,(grow (redrawn w6 p.d) p.os).cell? ⟨sb,1,none⟩ = some (.bool true):=fun p => cell_regrown s1 p.d p.os
  have hop':op = 3 ∨ op = 4 ∨ op = 5 ∨ op = 6 ∨ op = 7:=by omega
  clear k0 e1 hac hop
  rcases hop' with rfl | rfl | rfl | rfl | rfl
  ·cases S with
   | false =>
    rcases hkind with rfl | rfl
    ·have HX:=hid (show talkN c sp true made _ port dn = 5 by rw [HT.out];unfold talkT;rw [if_pos (by decide)])
     go_wp2_with ((first | with_reducible refine wpList_on hbq ?_ | with_reducible refine wp_on hbq (by kernel_rfl) (by kernel_rfl) ?_);(repeat (go_big_quiet_step (fail)));with_reducible refine wpQuiet_nil ?_;intro wc hbq)
     go_ret
     exact ⟨by rw [HX.out];rfl,HB.out.trans ((H6.out.trans (hbq.mono H6.out.size)).mono HB.out.size)⟩
    ·have HX:=hid (show talkN c sp true made _ port dn = 5 by rw [HT.out];unfold talkT;rw [if_pos (by decide)])
     go_wp2_with ((first | with_reducible refine wpList_on hbq ?_ | with_reducible refine wp_on hbq (by kernel_rfl) (by kernel_rfl) ?_);(repeat (go_big_quiet_step (fail)));with_reducible refine wpQuiet_nil ?_;intro wc hbq)
     go_ret
     exact ⟨by rw [HX.out];rfl,HB.out.trans ((H6.out.trans (hbq.mono H6.out.size)).mono HB.out.size)⟩
   | true =>
    rcases hkind with rfl | rfl
    ·by_cases h0:dn = 0
     ·subst h0
      have HX:=hid (show talkN c sp true made _ port 0 = 3 by rw [HT.out];unfold talkT;rw [if_neg (by decide),if_pos ⟨by omega,rfl⟩])
      go_wp2_with ((first | with_reducible refine wpList_on hbq ?_ | with_reducible refine wp_on hbq (by kernel_rfl) (by kernel_rfl) ?_);(repeat (go_big_quiet_step (fail)));with_reducible refine wpQuiet_nil ?_;intro wc hbq)
      go_ret
      exact ⟨by rw [HX.out];rfl,HB.out.trans ((H6.out.trans (hbq.mono H6.out.size)).mono HB.out.size)⟩
     ·have h0a:((dn:Int) == 0) = false:=by simp [h0]
      by_cases h1:x3 < (dn:Int)
      ·have HX:=hid (show talkN c sp true made _ port dn = 4 by rw [HT.out];unfold talkT;rw [if_neg (by decide),if_neg (fun h => h0 h.2),if_pos ⟨by omega,h1⟩])
       go_wp2_with ((first | with_reducible refine wpList_on hbq ?_ | with_reducible refine wp_on hbq (by kernel_rfl) (by kernel_rfl) ?_);(repeat (go_big_quiet_step (fail)));with_reducible refine wpQuiet_nil ?_;intro wc hbq)
       go_ret
       exact ⟨by rw [HX.out];rfl,HB.out.trans ((H6.out.trans (hbq.mono H6.out.size)).mono HB.out.size)⟩
      ·have h1d:decide (x3 < (dn:Int)) = false:=decide_eq_false h1
       have HX:=hid (show talkN c sp true made _ port dn = 0 by rw [HT.out];unfold talkT;rw [if_neg (by decide),if_neg (fun h => h0 h.2),if_neg (fun h => h1 h.2)])
       go_wp2_with ((first | with_reducible refine wpList_on hbq ?_ | with_reducible refine wp_on hbq (by kernel_rfl) (by kernel_rfl) ?_);(repeat (go_big_quiet_step (fail)));with_reducible refine wpQuiet_nil ?_;intro wc hbq)
       go_ret
       exact ⟨by rw [HX.out];rfl,HB.out.trans ((H6.out.trans (hbq.mono H6.out.size)).mono HB.out.size)⟩
    ·have HX:=hid (show talkN c sp true made _ port dn = 5 by rw [HT.out];unfold talkT;rw [if_pos (by decide)])
     go_wp2_with ((first | with_reducible refine wpList_on hbq ?_ | with_reducible refine wp_on hbq (by kernel_rfl) (by kernel_rfl) ?_);(repeat (go_big_quiet_step (fail)));with_reducible refine wpQuiet_nil ?_;intro wc hbq)
     go_ret
     exact ⟨by rw [HX.out];rfl,HB.out.trans ((H6.out.trans (hbq.mono H6.out.size)).mono HB.out.size)⟩
  ·cases S with
   | false =>
    rcases hkind with rfl | rfl
    ·have HX:=hid (show talkN c sp true made _ port dn = 0 by rw [HT.out];unfold talkT;rw [if_neg (by decide),if_neg (fun h => by omega),if_neg (fun h => by omega)])
     go_wp2_with ((first | with_reducible refine wpList_on hbq ?_ | with_reducible refine wp_on hbq (by kernel_rfl) (by kernel_rfl) ?_);(repeat (go_big_quiet_step (fail)));with_reducible refine wpQuiet_nil ?_;intro wc hbq)
     go_ret
     exact ⟨by rw [HX.out];rfl,HB.out.trans ((H6.out.trans (hbq.mono H6.out.size)).mono HB.out.size)⟩
    ·have HX:=hid (show talkN c sp true made _ port dn = 5 by rw [HT.out];unfold talkT;rw [if_pos (by decide)])
     go_wp2_with ((first | with_reducible refine wpList_on hbq ?_ | with_reducible refine wp_on hbq (by kernel_rfl) (by kernel_rfl) ?_);(repeat (go_big_quiet_step (fail)));with_reducible refine wpQuiet_nil ?_;intro wc hbq)
     go_ret
     exact ⟨by rw [HX.out];rfl,HB.out.trans ((H6.out.trans (hbq.mono H6.out.size)).mono HB.out.size)⟩
   | true =>
    rcases hkind with rfl | rfl
    ·have HX:=hid (show talkN c sp true made _ port dn = 5 by rw [HT.out];unfold talkT;rw [if_pos (by decide)])
     go_wp2_with ((first | with_reducible refine wpList_on hbq ?_ | with_reducible refine wp_on hbq (by kernel_rfl) (by kernel_rfl) ?_);(repeat (go_big_quiet_step (fail)));with_reducible refine wpQuiet_nil ?_;intro wc hbq)
     go_ret
     exact ⟨by rw [HX.out];rfl,HB.out.trans ((H6.out.trans (hbq.mono H6.out.size)).mono HB.out.size)⟩
    ·have HX:=hid (show talkN c sp true made _ port dn = 5 by rw [HT.out];unfold talkT;rw [if_pos (by decide)])
     go_wp2_with ((first | with_reducible refine wpList_on hbq ?_ | with_reducible refine wp_on hbq (by kernel_rfl) (by kernel_rfl) ?_);(repeat (go_big_quiet_step (fail)));with_reducible refine wpQuiet_nil ?_;intro wc hbq)
     go_ret
     exact ⟨by rw [HX.out];rfl,HB.out.trans ((H6.out.trans (hbq.mono H6.out.size)).mono HB.out.size)⟩
  ·cases S with
   | false =>
    rcases hkind with rfl | rfl
    ·have HX:=hid (show talkN c sp true made _ port dn = 5 by rw [HT.out];unfold talkT;rw [if_pos (by decide)])
     go_wp2_with ((first | with_reducible refine wpList_on hbq ?_ | with_reducible refine wp_on hbq (by kernel_rfl) (by kernel_rfl) ?_);(repeat (go_big_quiet_step (fail)));with_reducible refine wpQuiet_nil ?_;intro wc hbq)
     go_ret
     exact ⟨by rw [HX.out];rfl,HB.out.trans ((H6.out.trans (hbq.mono H6.out.size)).mono HB.out.size)⟩
    ·have HX:=hid (show talkN c sp true made _ port dn = 5 by rw [HT.out];unfold talkT;rw [if_pos (by decide)])
     go_wp2_with ((first | with_reducible refine wpList_on hbq ?_ | with_reducible refine wp_on hbq (by kernel_rfl) (by kernel_rfl) ?_);(repeat (go_big_quiet_step (fail)));with_reducible refine wpQuiet_nil ?_;intro wc hbq)
     go_ret
     exact ⟨by rw [HX.out];rfl,HB.out.trans ((H6.out.trans (hbq.mono H6.out.size)).mono HB.out.size)⟩
   | true =>
    rcases hkind with rfl | rfl
    ·have HX:=hid (show talkN c sp true made _ port dn = 5 by rw [HT.out];unfold talkT;rw [if_pos (by decide)])
     go_wp2_with ((first | with_reducible refine wpList_on hbq ?_ | with_reducible refine wp_on hbq (by kernel_rfl) (by kernel_rfl) ?_);(repeat (go_big_quiet_step (fail)));with_reducible refine wpQuiet_nil ?_;intro wc hbq)
     go_ret
     exact ⟨by rw [HX.out];rfl,HB.out.trans ((H6.out.trans (hbq.mono H6.out.size)).mono HB.out.size)⟩
    ·by_cases h0:dn = 0
     ·subst h0
      have HX:=hid (show talkN c sp true made _ port 0 = 3 by rw [HT.out];unfold talkT;rw [if_neg (by decide),if_pos ⟨by omega,rfl⟩])
      go_wp2_with ((first | with_reducible refine wpList_on hbq ?_ | with_reducible refine wp_on hbq (by kernel_rfl) (by kernel_rfl) ?_);(repeat (go_big_quiet_step (fail)));with_reducible refine wpQuiet_nil ?_;intro wc hbq)
      go_ret
      exact ⟨by rw [HX.out];rfl,HB.out.trans ((H6.out.trans (hbq.mono H6.out.size)).mono HB.out.size)⟩
     ·have h0a:((dn:Int) == 0) = false:=by simp [h0]
      by_cases h1:x3 < (dn:Int)
      ·have HX:=hid (show talkN c sp true made _ port dn = 4 by rw [HT.out];unfold talkT;rw [if_neg (by decide),if_neg (fun h => h0 h.2),if_pos ⟨by omega,h1⟩])
       go_wp2_with ((first | with_reducible refine wpList_on hbq ?_ | with_reducible refine wp_on hbq (by kernel_rfl) (by kernel_rfl) ?_);(repeat (go_big_quiet_step (fail)));with_reducible refine wpQuiet_nil ?_;intro wc hbq)
       go_ret
       exact ⟨by rw [HX.out];rfl,HB.out.trans ((H6.out.trans (hbq.mono H6.out.size)).mono HB.out.size)⟩
      ·have h1d:decide (x3 < (dn:Int)) = false:=decide_eq_false h1
       have HX:=hid (show talkN c sp true made _ port dn = 0 by rw [HT.out];unfold talkT;rw [if_neg (by decide),if_neg (fun h => h0 h.2),if_neg (fun h => h1 h.2)])
       go_wp2_with ((first | with_reducible refine wpList_on hbq ?_ | with_reducible refine wp_on hbq (by kernel_rfl) (by kernel_rfl) ?_);(repeat (go_big_quiet_step (fail)));with_reducible refine wpQuiet_nil ?_;intro wc hbq)
       go_ret
       exact ⟨by rw [HX.out];rfl,HB.out.trans ((H6.out.trans (hbq.mono H6.out.size)).mono HB.out.size)⟩
  ·cases S with
   | false =>
    rcases hkind with rfl | rfl
    ·have HX:=hid (show talkN c sp true made _ port dn = 5 by rw [HT.out];unfold talkT;rw [if_pos (by decide)])
     go_wp2_with ((first | with_reducible refine wpList_on hbq ?_ | with_reducible refine wp_on hbq (by kernel_rfl) (by kernel_rfl) ?_);(repeat (go_big_quiet_step (fail)));with_reducible refine wpQuiet_nil ?_;intro wc hbq)
     go_ret
     exact ⟨by rw [HX.out];rfl,HB.out.trans ((H6.out.trans (hbq.mono H6.out.size)).mono HB.out.size)⟩
    ·have HX:=hid (show talkN c sp true made _ port dn = 0 by rw [HT.out];unfold talkT;rw [if_neg (by decide),if_neg (fun h => by omega),if_neg (fun h => by omega)])
     go_wp2_with ((first | with_reducible refine wpList_on hbq ?_ | with_reducible refine wp_on hbq (by kernel_rfl) (by kernel_rfl) ?_);(repeat (go_big_quiet_step (fail)));with_reducible refine wpQuiet_nil ?_;intro wc hbq)
     go_ret
     exact ⟨by rw [HX.out];rfl,HB.out.trans ((H6.out.trans (hbq.mono H6.out.size)).mono HB.out.size)⟩
   | true =>
    rcases hkind with rfl | rfl
    ·have HX:=hid (show talkN c sp true made _ port dn = 5 by rw [HT.out];unfold talkT;rw [if_pos (by decide)])
     go_wp2_with ((first | with_reducible refine wpList_on hbq ?_ | with_reducible refine wp_on hbq (by kernel_rfl) (by kernel_rfl) ?_);(repeat (go_big_quiet_step (fail)));with_reducible refine wpQuiet_nil ?_;intro wc hbq)
     go_ret
     exact ⟨by rw [HX.out];rfl,HB.out.trans ((H6.out.trans (hbq.mono H6.out.size)).mono HB.out.size)⟩
    ·have HX:=hid (show talkN c sp true made _ port dn = 5 by rw [HT.out];unfold talkT;rw [if_pos (by decide)])
     go_wp2_with ((first | with_reducible refine wpList_on hbq ?_ | with_reducible refine wp_on hbq (by kernel_rfl) (by kernel_rfl) ?_);(repeat (go_big_quiet_step (fail)));with_reducible refine wpQuiet_nil ?_;intro wc hbq)
     go_ret
     exact ⟨by rw [HX.out];rfl,HB.out.trans ((H6.out.trans (hbq.mono H6.out.size)).mono HB.out.size)⟩
  ·cases S with
   | false =>
    rcases hkind with rfl | rfl
    ·have HX:=hid (show talkN c sp true made _ port dn = 0 by rw [HT.out];unfold talkT;rw [if_neg (by decide),if_neg (fun h => by omega),if_neg (fun h => by omega)])
     go_wp2_with ((first | with_reducible refine wpList_on hbq ?_ | with_reducible refine wp_on hbq (by kernel_rfl) (by kernel_rfl) ?_);(repeat (go_big_quiet_step (fail)));with_reducible refine wpQuiet_nil ?_;intro wc hbq)
     go_ret
     exact ⟨by rw [HX.out];rfl,HB.out.trans ((H6.out.trans (hbq.mono H6.out.size)).mono HB.out.size)⟩
    ·have HX:=hid (show talkN c sp true made _ port dn = 0 by rw [HT.out];unfold talkT;rw [if_neg (by decide),if_neg (fun h => by omega),if_neg (fun h => by omega)])
     go_wp2_with ((first | with_reducible refine wpList_on hbq ?_ | with_reducible refine wp_on hbq (by kernel_rfl) (by kernel_rfl) ?_);(repeat (go_big_quiet_step (fail)));with_reducible refine wpQuiet_nil ?_;intro wc hbq)
     go_ret
     exact ⟨by rw [HX.out];rfl,HB.out.trans ((H6.out.trans (hbq.mono H6.out.size)).mono HB.out.size)⟩
   | true =>
    rcases hkind with rfl | rfl
    ·have HX:=hid (show talkN c sp true made _ port dn = 0 by rw [HT.out];unfold talkT;rw [if_neg (by decide),if_neg (fun h => by omega),if_neg (fun h => by omega)])
     go_wp2_with ((first | with_reducible refine wpList_on hbq ?_ | with_reducible refine wp_on hbq (by kernel_rfl) (by kernel_rfl) ?_);(repeat (go_big_quiet_step (fail)));with_reducible refine wpQuiet_nil ?_;intro wc hbq)
     go_ret
     exact ⟨by rw [HX.out];rfl,HB.out.trans ((H6.out.trans (hbq.mono H6.out.size)).mono HB.out.size)⟩
    ·have HX:=hid (show talkN c sp true made _ port dn = 0 by rw [HT.out];unfold talkT;rw [if_neg (by decide),if_neg (fun h => by omega),if_neg (fun h => by omega)])
     go_wp2_with ((first | with_reducible refine wpList_on hbq ?_ | with_reducible refine wp_on hbq (by kernel_rfl) (by kernel_rfl) ?_);(repeat (go_big_quiet_step (fail)));with_reducible refine wpQuiet_nil ?_;intro wc hbq)
     go_ret
     exact ⟨by rw [HX.out];rfl,HB.out.trans ((H6.out.trans (hbq.mono H6.out.size)).mono HB.out.size)⟩
 ·have hpa:(P != sp) = true:=by simp [hps]
  have HH:=hid (show hasB c sp made port = false by unfold hasB;rw [HP.out,decide_eq_false hps,Bool.false_and,Bool.and_false])
  clear hps
  have HX:=hid (show talkN c sp sn made op port dn = 3 from talk_no HH.out)
  go_wp2_with (rw [← hV.out])
  go_ret
  exact ⟨by rw [HX.out];rfl,HB.out.trans (HV.out.mono HB.out.size)⟩
theorem rtalk_is (c:Cfg) (x:CfgAt) (sp:Int) (sn:Bool) (made:List Int) (ma:Option Addr) (mc:Nat) (va:Option Addr) (vn vc:Nat) (op port ad:Int) (da:Option Addr) (dn dc:Nat) (z:Int) (w:World) (hx:CfgIn w w.heap.size c x) (wx:CfgWf c) (lx:CfgFew c) (hs:SIn w made ma) (hp:(Lit.int .i64 port).wf = true) (hop:3 ≤ op ∧ op ≤ 7) (hdn:dn ≤ 1000000) (h:talkN c sp sn made op port dn = z) :
  Calls Tryz.prog 62 #[.agg (cfgCells c x),.agg #[.int .i64 sp,.bool sn,.slice ma made.length mc,.slice va vn vc],.agg #[.int .i64 op,.int .i64 port,.int .u64 ad,.slice da dn dc]] w fun e w' => e = .returned (.int .i64 z) ∧ Below w.heap.size w w':=by subst h;exact rtalk_b c x sp sn made ma mc va vn vc op port ad da dn dc w hx wx lx hs hp hop hdn
end Go.Proofs.YtheeiklgblcjfaaGreatDoor
end
section
namespace Go.Proofs.YtheeiklgblcjfaaGreatDoor
open Go.Lib (hid)
open Go.RowKit Go.Sort Go.ChangeShapes Go.WideShapes
set_option maxRecDepth 100000 in
set_option maxHeartbeats 16000000 in
theorem rrefused_b (c:Cfg) (x:CfgAt) (sp:Int) (sn:Bool) (made:List Int) (ma:Option Addr) (mc:Nat) (va:Option Addr) (vn vc:Nat) (op port ad:Int) (da:Option Addr) (dn dc:Nat) (w:World) (hx:CfgIn w w.heap.size c x) (wx:CfgWf c) (lx:CfgFew c) (hs:SIn w made ma) (hp:(Lit.int .i64 port).wf = true) (had:(Lit.int .u64 ad).wf = true) (hdn:dn ≤ 1000000) :
  Calls Tryz.prog 33 #[.agg (cfgCells c x),.agg #[.int .i64 sp,.bool sn,.slice ma made.length mc,.slice va vn vc],.agg #[.int .i64 op,.int .i64 port,.int .u64 ad,.slice da dn dc]] w fun e w' => e = .returned (.int .i64 (refusedN c sp sn made op port ad dn)) ∧ Below w.heap.size w w':=by
 obtain ⟨Wc,HWc,hBc,hWs,bx⟩:=one_cbox w c x 29
 obtain ⟨pa,pc,ca,cc,aa,ac,ba,bc⟩:=x
 obtain ⟨Ws,HWs,hBs,hWss,sx⟩:=box_new Wc #[.int .i64 sp,.bool sn,.slice ma made.length mc,.slice va vn vc] 59
 obtain ⟨W,HW,hBq,hWq,qx⟩:=box_new Ws #[.int .i64 op,.int .i64 port,.int .u64 ad,.slice da dn dc] 39
 have hcW:=hx.later (hBc.trans ((hBs.trans (hBq.mono hBs.size)).mono hBc.size))
 have hsW:=hs.later (hBc.trans ((hBs.trans (hBq.mono hBs.size)).mono hBc.size))
 have HB:=hid (hBc.trans ((hBs.trans (hBq.mono hBs.size)).mono hBc.size))
 have BX:∀ w',Below W.heap.size W w' → Below Wc.heap.size Wc w':=fun w' h => (hBs.trans (hBq.mono hBs.size)).trans (h.mono (Nat.le_trans hBs.size hBq.size))
 have SX:∀ w',Below W.heap.size W w' → Below Ws.heap.size Ws w':=fun w' h => hBq.trans (h.mono hBq.size)
 obtain ⟨sb,hsb⟩:∃ n,n = Wc.heap.size:=⟨_,rfl⟩
 obtain ⟨qb,hqb⟩:∃ n,n = Ws.heap.size:=⟨_,rfl⟩
 rw [← hsb] at sx
 rw [← hqb] at qx
 have HSB:=hid hsb;have HQB:=hid hqb
 simp only [cfgCells] at HWc ⊢
 clear hBc hWs hBs hWss hBq hWq hx hs hsb hqb
 have hl:=lx.2.1
 have hl1:=lx.1
 obtain ⟨c0,c1,c2,c3,c4,c5⟩:=bx _ (BX _ (Below.refl _ _))
 have s0:W.cell? ⟨sb,0,none⟩ = some (.int .i64 sp):=cell_blk (sx _ (SX _ (Below.refl _ _))) rfl
 have s1:W.cell? ⟨sb,1,none⟩ = some (.bool sn):=cell_blk (sx _ (SX _ (Below.refl _ _))) rfl
 have s2:W.cell? ⟨sb,2,none⟩ = some (.slice ma made.length mc):=cell_blk (sx _ (SX _ (Below.refl _ _))) rfl
 have s3:W.cell? ⟨sb,3,none⟩ = some (.slice va vn vc):=cell_blk (sx _ (SX _ (Below.refl _ _))) rfl
 have q0:W.cell? ⟨qb,0,none⟩ = some (.int .i64 op):=cell_blk (qx _ (Below.refl _ _)) rfl
 have q1:W.cell? ⟨qb,1,none⟩ = some (.int .i64 port):=cell_blk (qx _ (Below.refl _ _)) rfl
 have q2:W.cell? ⟨qb,2,none⟩ = some (.int .u64 ad):=cell_blk (qx _ (Below.refl _ _)) rfl
 have q3:W.cell? ⟨qb,3,none⟩ = some (.slice da dn dc):=cell_blk (qx _ (Below.refl _ _)) rfl
 have HCW:=hid hcW;have HSW:=hid hsW
 obtain ⟨a,hq⟩:∃ a,acceptsB c = a:=⟨_,rfl⟩
 have HQ:=hid hq
 clear hcW hsW hq
 go_enter Tryz.func33,Tryz.ntmps33
 go_wp2_with (first | (rw [← HWc.out]) | (simp only [← HSB.out];rw [← HWs.out]) | (simp only [← HQB.out];rw [← HW.out]))
 refine (racc_b c ⟨pa,pc,ca,cc,aa,ac,ba,bc⟩ a W HCW.out wx lx HQ.out).mono ?_
 rintro e w5 ⟨rfl,hb5⟩
 have Hw5:=hid hb5
 clear hb5
 clear c0 c1 c2 c3 c4 c5 s0 s1 s2 s3 q0 q1 q2 q3
 obtain ⟨c0,c1,c2,c3,c4,c5⟩:=bx _ (BX _ Hw5.out)
 have s0:w5.cell? ⟨sb,0,none⟩ = some (.int .i64 sp):=cell_blk (sx _ (SX _ Hw5.out)) rfl
 have s1:w5.cell? ⟨sb,1,none⟩ = some (.bool sn):=cell_blk (sx _ (SX _ Hw5.out)) rfl
 have s2:w5.cell? ⟨sb,2,none⟩ = some (.slice ma made.length mc):=cell_blk (sx _ (SX _ Hw5.out)) rfl
 have s3:w5.cell? ⟨sb,3,none⟩ = some (.slice va vn vc):=cell_blk (sx _ (SX _ Hw5.out)) rfl
 have q0:w5.cell? ⟨qb,0,none⟩ = some (.int .i64 op):=cell_blk (qx _ Hw5.out) rfl
 have q1:w5.cell? ⟨qb,1,none⟩ = some (.int .i64 port):=cell_blk (qx _ Hw5.out) rfl
 have q2:w5.cell? ⟨qb,2,none⟩ = some (.int .u64 ad):=cell_blk (qx _ Hw5.out) rfl
 have q3:w5.cell? ⟨qb,3,none⟩ = some (.slice da dn dc):=cell_blk (qx _ Hw5.out) rfl
 cases a with
 | false =>
  have HX:=hid (show refusedN c sp sn made op port ad dn = 4 by exact refused_out (.inl HQ.out))
  go_wp2
  go_ret
  exact ⟨by rw [HX.out];rfl,HB.out.trans (Hw5.out.mono HB.out.size)⟩
 | true =>
 by_cases p1:sp < 0
 ·have HX:=hid (show refusedN c sp sn made op port ad dn = 4 by exact refused_out (.inr (.inl p1)))
  go_wp2
  go_ret
  exact ⟨by rw [HX.out];rfl,HB.out.trans (Hw5.out.mono HB.out.size)⟩
 have p1d:decide (sp < 0) = false:=decide_eq_false p1
 by_cases p2:(c.parts.length:Int) ≤ sp
 ·have HX:=hid (show refusedN c sp sn made op port ad dn = 4 by exact refused_out (.inr (.inr p2)))
  go_wp2
  go_ret
  exact ⟨by rw [HX.out];rfl,HB.out.trans (Hw5.out.mono HB.out.size)⟩
 have p2d:decide ((c.parts.length:Int) ≤ sp) = false:=decide_eq_false p2
 have HON:Hid (∀ sn op n,refusedN c sp sn made op port ad n = refT c sp sn made op port ad n):=hid (fun sn op n => refused_on HQ.out p1 p2)
 by_cases o1:op = 1
 ·subst o1
  have hC:=rport_b c ⟨pa,pc,ca,cc,aa,ac,ba,bc⟩ port w5 (HCW.out.later Hw5.out) wx lx hp
  obtain ⟨K,hK⟩:∃ K,portK c port = K:=⟨_,rfl⟩
  obtain ⟨P,hP⟩:∃ P,portP c port = P:=⟨_,rfl⟩
  obtain ⟨S,hS⟩:∃ S,portS c port = S:=⟨_,rfl⟩
  obtain ⟨B,hBB⟩:∃ B,portB c port = B:=⟨_,rfl⟩
  rw [hK,hP,hS,hBB] at hC
  have HC:=hid hC;have HP:=hid hP;have HBB:=hid hBB
  simp only [cfgCells] at HC
  clear hC hK hP hS hBB
  go_wp2_with fail
  refine HC.out.mono ?_
  rintro e w6 ⟨rfl,hb6⟩
  obtain ⟨V,hV⟩:∃ u,Hid (u = w6.alloc (.cells #[.int .i64 K,.int .i64 P,.bool S,.bool B] 110)):=⟨_,rfl⟩
  have hbV:Below w6.heap.size w6 V:=by rw [hV.out];exact (Below.refl _ _).alloc (Nat.le_refl _) _
  have hxV:V.heap[w6.heap.size]? = some (.cells #[.int .i64 K,.int .i64 P,.bool S,.bool B] 110 (0,0)):=by rw [hV.out];exact heap_alloc_new _ _
  have HV:=hid (Hw5.out.trans ((hb6.trans (hbV.mono hb6.size)).mono Hw5.out.size))
  have t1:V.cell? ⟨w6.heap.size,1,none⟩ = some (.int .i64 P):=cell_blk hxV rfl
  have t3:V.cell? ⟨w6.heap.size,3,none⟩ = some (.bool B):=cell_blk hxV rfl
  clear c0 c1 c2 c3 c4 c5 s0 s1 s2 s3 q0 q1 q2 q3
  obtain ⟨c0,c1,c2,c3,c4,c5⟩:=bx _ (BX _ HV.out)
  have s0:V.cell? ⟨sb,0,none⟩ = some (.int .i64 sp):=cell_blk (sx _ (SX _ HV.out)) rfl
  have s1:V.cell? ⟨sb,1,none⟩ = some (.bool sn):=cell_blk (sx _ (SX _ HV.out)) rfl
  have s2:V.cell? ⟨sb,2,none⟩ = some (.slice ma made.length mc):=cell_blk (sx _ (SX _ HV.out)) rfl
  have s3:V.cell? ⟨sb,3,none⟩ = some (.slice va vn vc):=cell_blk (sx _ (SX _ HV.out)) rfl
  have q0:V.cell? ⟨qb,0,none⟩ = some (.int .i64 1):=cell_blk (qx _ HV.out) rfl
  have q1:V.cell? ⟨qb,1,none⟩ = some (.int .i64 port):=cell_blk (qx _ HV.out) rfl
  have q2:V.cell? ⟨qb,2,none⟩ = some (.int .u64 ad):=cell_blk (qx _ HV.out) rfl
  have q3:V.cell? ⟨qb,3,none⟩ = some (.slice da dn dc):=cell_blk (qx _ HV.out) rfl
  clear hb6 hbV hxV
  cases B with
  | false =>
   have HX:=hid (show refusedN c sp sn made 1 port ad dn = 4 by rw [HON.out _ _ _];unfold refT;rw [if_pos rfl,if_pos (.inl HBB.out)])
   go_wp2_with (rw [← hV.out])
   go_ret
   exact ⟨by rw [HX.out];rfl,HB.out.trans (HV.out.mono HB.out.size)⟩
  | true =>
  by_cases hps:P = sp
  ·have hpa:(P != sp) = false:=by simp [hps]
   have HPS:=hid (show ¬ (portB c port = false ∨ portP c port ≠ sp) by rw [HBB.out,HP.out];exact fun h => h.elim (fun e => by cases e) (fun h => h hps))
   obtain ⟨m,hm⟩:∃ m,madeB made port = m:=⟨_,rfl⟩
   have HMD:=hid hm
   have hsV:=HSW.out.later HV.out
   clear hps hm
   go_wp2_with (rw [← hV.out])
   refine (rmade_is sp sn made ma mc va vn vc port m _ hsV HMD.out).mono ?_
   rintro e w7 ⟨rfl,hb7⟩
   have H7:=hid (HV.out.trans (hb7.mono HV.out.size))
   clear t1 t3 hb7 hsV
   clear c0 c1 c2 c3 c4 c5 s0 s1 s2 s3 q0 q1 q2 q3
   obtain ⟨c0,c1,c2,c3,c4,c5⟩:=bx _ (BX _ H7.out)
   have s0:w7.cell? ⟨sb,0,none⟩ = some (.int .i64 sp):=cell_blk (sx _ (SX _ H7.out)) rfl
   have s1:w7.cell? ⟨sb,1,none⟩ = some (.bool sn):=cell_blk (sx _ (SX _ H7.out)) rfl
   have s2:w7.cell? ⟨sb,2,none⟩ = some (.slice ma made.length mc):=cell_blk (sx _ (SX _ H7.out)) rfl
   have s3:w7.cell? ⟨sb,3,none⟩ = some (.slice va vn vc):=cell_blk (sx _ (SX _ H7.out)) rfl
   have q0:w7.cell? ⟨qb,0,none⟩ = some (.int .i64 1):=cell_blk (qx _ H7.out) rfl
   have q1:w7.cell? ⟨qb,1,none⟩ = some (.int .i64 port):=cell_blk (qx _ H7.out) rfl
   have q2:w7.cell? ⟨qb,2,none⟩ = some (.int .u64 ad):=cell_blk (qx _ H7.out) rfl
   have q3:w7.cell? ⟨qb,3,none⟩ = some (.slice da dn dc):=cell_blk (qx _ H7.out) rfl
   cases m with
   | true =>
    have HX:=hid (show refusedN c sp sn made 1 port ad dn = 1 by rw [HON.out _ _ _];unfold refT;rw [if_pos rfl,if_neg HPS.out,if_pos HMD.out])
    go_wp2
    go_ret
    exact ⟨by rw [HX.out];rfl,HB.out.trans (H7.out.mono HB.out.size)⟩
   | false =>
   cases sn with
   | true =>
    have HX:=hid (show refusedN c sp true made 1 port ad dn = 5 by rw [HON.out _ _ _];unfold refT;rw [if_pos rfl,if_neg HPS.out,if_neg (by rw [HMD.out];decide),if_pos rfl])
    go_wp2
    go_ret
    exact ⟨by rw [HX.out];rfl,HB.out.trans (H7.out.mono HB.out.size)⟩
   | false =>
    have HX:=hid (show refusedN c sp false made 1 port ad dn = 0 by rw [HON.out _ _ _];unfold refT;rw [if_pos rfl,if_neg HPS.out,if_neg (by rw [HMD.out];decide),if_neg (by decide)])
    go_wp2
    go_ret
    exact ⟨by rw [HX.out];rfl,HB.out.trans (H7.out.mono HB.out.size)⟩
  ·have hpa:(P != sp) = true:=by simp [hps]
   have HPS:=hid (show portB c port = false ∨ portP c port ≠ sp from .inr (by rw [HP.out];exact hps))
   clear hps
   have HX:=hid (show refusedN c sp sn made 1 port ad dn = 4 by rw [HON.out _ _ _];unfold refT;rw [if_pos rfl,if_pos HPS.out])
   go_wp2_with (rw [← hV.out])
   go_ret
   exact ⟨by rw [HX.out];rfl,HB.out.trans (HV.out.mono HB.out.size)⟩
 have o1a:(op == 1) = false:=by simp [o1]
 by_cases o2:op = 2
 ·subst o2
  cases sn with
  | true =>
   have HX:=hid (show refusedN c sp true made 2 port ad dn = 5 by rw [HON.out _ _ _];unfold refT;rw [if_neg (by decide),if_pos rfl,if_pos rfl])
   go_wp2
   go_ret
   exact ⟨by rw [HX.out];rfl,HB.out.trans (Hw5.out.mono HB.out.size)⟩
  | false =>
   have HX:=hid (show refusedN c sp false made 2 port ad dn = 0 by rw [HON.out _ _ _];unfold refT;rw [if_neg (by decide),if_pos rfl,if_neg (by decide)])
   go_wp2
   go_ret
   exact ⟨by rw [HX.out];rfl,HB.out.trans (Hw5.out.mono HB.out.size)⟩
 have o2a:(op == 2) = false:=by simp [o2]
 by_cases o3:op = 3
 ·subst o3
  obtain ⟨z,hz⟩:∃ z,talkN c sp sn made 3 port dn = z:=⟨_,rfl⟩
  have HZ:=hid hz
  have hc5:=HCW.out.later Hw5.out
  have hs5:=HSW.out.later Hw5.out
  clear hz
  go_wp2_with fail
  refine (rtalk_is c ⟨pa,pc,ca,cc,aa,ac,ba,bc⟩ sp sn made ma mc va vn vc 3 port ad da dn dc z _ hc5 wx lx hs5 hp (by omega) hdn HZ.out).mono ?_
  rintro e w6 ⟨rfl,hb6⟩
  have H6:=hid (Hw5.out.trans (hb6.mono Hw5.out.size))
  clear hb6 hc5 hs5
  have HX:=hid (show refusedN c sp sn made 3 port ad dn = z by rw [HON.out _ _ _];unfold refT;rw [if_neg (by decide),if_neg (by decide),if_pos (by decide)];exact HZ.out)
  go_wp2
  go_ret
  exact ⟨by rw [HX.out];rfl,HB.out.trans (H6.out.mono HB.out.size)⟩
 have o3a:(op == 3) = false:=by simp [o3]
 by_cases o4:op = 4
 ·subst o4
  obtain ⟨z,hz⟩:∃ z,talkN c sp sn made 4 port dn = z:=⟨_,rfl⟩
  have HZ:=hid hz
  have hc5:=HCW.out.later Hw5.out
  have hs5:=HSW.out.later Hw5.out
  clear hz
  go_wp2_with fail
  refine (rtalk_is c ⟨pa,pc,ca,cc,aa,ac,ba,bc⟩ sp sn made ma mc va vn vc 4 port ad da dn dc z _ hc5 wx lx hs5 hp (by omega) hdn HZ.out).mono ?_
  rintro e w6 ⟨rfl,hb6⟩
  have H6:=hid (Hw5.out.trans (hb6.mono Hw5.out.size))
  clear hb6 hc5 hs5
  have HX:=hid (show refusedN c sp sn made 4 port ad dn = z by rw [HON.out _ _ _];unfold refT;rw [if_neg (by decide),if_neg (by decide),if_pos (by decide)];exact HZ.out)
  go_wp2
  go_ret
  exact ⟨by rw [HX.out];rfl,HB.out.trans (H6.out.mono HB.out.size)⟩
 have o4a:(op == 4) = false:=by simp [o4]
 by_cases o5:op = 5
 ·subst o5
  obtain ⟨z,hz⟩:∃ z,talkN c sp sn made 5 port dn = z:=⟨_,rfl⟩
  have HZ:=hid hz
  have hc5:=HCW.out.later Hw5.out
  have hs5:=HSW.out.later Hw5.out
  clear hz
  go_wp2_with fail
  refine (rtalk_is c ⟨pa,pc,ca,cc,aa,ac,ba,bc⟩ sp sn made ma mc va vn vc 5 port ad da dn dc z _ hc5 wx lx hs5 hp (by omega) hdn HZ.out).mono ?_
  rintro e w6 ⟨rfl,hb6⟩
  have H6:=hid (Hw5.out.trans (hb6.mono Hw5.out.size))
  clear hb6 hc5 hs5
  have HX:=hid (show refusedN c sp sn made 5 port ad dn = z by rw [HON.out _ _ _];unfold refT;rw [if_neg (by decide),if_neg (by decide),if_pos (by decide)];exact HZ.out)
  go_wp2
  go_ret
  exact ⟨by rw [HX.out];rfl,HB.out.trans (H6.out.mono HB.out.size)⟩
 have o5a:(op == 5) = false:=by simp [o5]
 by_cases o6:op = 6
 ·subst o6
  obtain ⟨z,hz⟩:∃ z,talkN c sp sn made 6 port dn = z:=⟨_,rfl⟩
  have HZ:=hid hz
  have hc5:=HCW.out.later Hw5.out
  have hs5:=HSW.out.later Hw5.out
  clear hz
  go_wp2_with fail
  refine (rtalk_is c ⟨pa,pc,ca,cc,aa,ac,ba,bc⟩ sp sn made ma mc va vn vc 6 port ad da dn dc z _ hc5 wx lx hs5 hp (by omega) hdn HZ.out).mono ?_
  rintro e w6 ⟨rfl,hb6⟩
  have H6:=hid (Hw5.out.trans (hb6.mono Hw5.out.size))
  clear hb6 hc5 hs5
  have HX:=hid (show refusedN c sp sn made 6 port ad dn = z by rw [HON.out _ _ _];unfold refT;rw [if_neg (by decide),if_neg (by decide),if_pos (by decide)];exact HZ.out)
  go_wp2
  go_ret
  exact ⟨by rw [HX.out];rfl,HB.out.trans (H6.out.mono HB.out.size)⟩
 have o6a:(op == 6) = false:=by simp [o6]
 by_cases o7:op = 7
 ·subst o7
  obtain ⟨z,hz⟩:∃ z,talkN c sp sn made 7 port dn = z:=⟨_,rfl⟩
  have HZ:=hid hz
  have hc5:=HCW.out.later Hw5.out
  have hs5:=HSW.out.later Hw5.out
  clear hz
  go_wp2_with fail
  refine (rtalk_is c ⟨pa,pc,ca,cc,aa,ac,ba,bc⟩ sp sn made ma mc va vn vc 7 port ad da dn dc z _ hc5 wx lx hs5 hp (by omega) hdn HZ.out).mono ?_
  rintro e w6 ⟨rfl,hb6⟩
  have H6:=hid (Hw5.out.trans (hb6.mono Hw5.out.size))
  clear hb6 hc5 hs5
  have HX:=hid (show refusedN c sp sn made 7 port ad dn = z by rw [HON.out _ _ _];unfold refT;rw [if_neg (by decide),if_neg (by decide),if_pos (by decide)];exact HZ.out)
  go_wp2
  go_ret
  exact ⟨by rw [HX.out];rfl,HB.out.trans (H6.out.mono HB.out.size)⟩
 have o7a:(op == 7) = false:=by simp [o7]
 by_cases o8:op = 8
 ·subst o8
  obtain ⟨z,hz⟩:∃ z,privB c sp ad = z:=⟨_,rfl⟩
  have HZ:=hid hz
  have hc5:=HCW.out.later Hw5.out
  clear hz
  go_wp2_with fail
  refine (rpriv10_is c ⟨pa,pc,ca,cc,aa,ac,ba,bc⟩ sp ad z _ hc5 wx lx had HZ.out).mono ?_
  rintro e w6 ⟨rfl,hb6⟩
  have H6:=hid (Hw5.out.trans (hb6.mono Hw5.out.size))
  clear hb6 hc5
  cases z with
  | true =>
   have HX:=hid (show refusedN c sp sn made 8 port ad dn = 0 by rw [HON.out _ _ _];unfold refT;rw [if_neg (by decide),if_neg (by decide),if_neg (by decide),if_pos (by decide),if_neg (fun h => absurd h.1 (by decide)),if_neg (by rw [HZ.out];decide)])
   go_wp2
   go_ret
   exact ⟨by rw [HX.out];rfl,HB.out.trans (H6.out.mono HB.out.size)⟩
  | false =>
   have HX:=hid (show refusedN c sp sn made 8 port ad dn = 6 by rw [HON.out _ _ _];unfold refT;rw [if_neg (by decide),if_neg (by decide),if_neg (by decide),if_pos (by decide),if_neg (fun h => absurd h.1 (by decide)),if_pos HZ.out])
   go_wp2
   go_ret
   exact ⟨by rw [HX.out];rfl,HB.out.trans (H6.out.mono HB.out.size)⟩
 have o8a:(op == 8) = false:=by simp [o8]
 by_cases o9:op = 9
 ·subst o9
  by_cases hd1:dn = 1
  ·subst hd1
   obtain ⟨z,hz⟩:∃ z,privB c sp ad = z:=⟨_,rfl⟩
   have HZ:=hid hz
   have hc5:=HCW.out.later Hw5.out
   clear hz
   go_wp2_with fail
   refine (rpriv10_is c ⟨pa,pc,ca,cc,aa,ac,ba,bc⟩ sp ad z _ hc5 wx lx had HZ.out).mono ?_
   rintro e w6 ⟨rfl,hb6⟩
   have H6:=hid (Hw5.out.trans (hb6.mono Hw5.out.size))
   clear hb6 hc5
   cases z with
   | true =>
    have HX:=hid (show refusedN c sp sn made 9 port ad 1 = 0 by rw [HON.out _ _ _];unfold refT;rw [if_neg (by decide),if_neg (by decide),if_neg (by decide),if_pos (by decide),if_neg (fun h => h.2 rfl),if_neg (by rw [HZ.out];decide)])
    go_wp2
    go_ret
    exact ⟨by rw [HX.out];rfl,HB.out.trans (H6.out.mono HB.out.size)⟩
   | false =>
    have HX:=hid (show refusedN c sp sn made 9 port ad 1 = 6 by rw [HON.out _ _ _];unfold refT;rw [if_neg (by decide),if_neg (by decide),if_neg (by decide),if_pos (by decide),if_neg (fun h => h.2 rfl),if_pos HZ.out])
    go_wp2
    go_ret
    exact ⟨by rw [HX.out];rfl,HB.out.trans (H6.out.mono HB.out.size)⟩
  ·have hd1a:((dn:Int) != 1) = true:=by simp;omega
   have HD1:=hid hd1
   clear hd1
   have HX:=hid (show refusedN c sp sn made 9 port ad dn = 3 by rw [HON.out _ _ _];unfold refT;rw [if_neg (by decide),if_neg (by decide),if_neg (by decide),if_pos (by decide),if_pos ⟨rfl,HD1.out⟩])
   go_wp2
   go_ret
   exact ⟨by rw [HX.out];rfl,HB.out.trans (Hw5.out.mono HB.out.size)⟩
 have o9a:(op == 9) = false:=by simp [o9]
 have HO:=hid (show ¬ op = 1 ∧ ¬ op = 2 ∧ ¬ (3 ≤ op ∧ op ≤ 7) ∧ ¬ (op = 8 ∨ op = 9) by omega)
 clear o1 o2 o3 o4 o5 o6 o7 o8 o9
 have HX:=hid (show refusedN c sp sn made op port ad dn = 3 by rw [HON.out _ _ _];unfold refT;rw [if_neg HO.out.1,if_neg HO.out.2.1,if_neg HO.out.2.2.1,if_neg HO.out.2.2.2])
 go_wp2
 go_ret
 exact ⟨by rw [HX.out];rfl,HB.out.trans (Hw5.out.mono HB.out.size)⟩
end Go.Proofs.YtheeiklgblcjfaaGreatDoor
end
