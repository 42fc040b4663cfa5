/- Texts of the ring, joined, what is used of them. No condition but those in the statements. -/
import Derived.BigQuiet
import Derived.BigRegion
import Derived.Deep.MidRow
import Derived.Deep.RegionHeld3
import Derived.Deep.Upon
import Derived.IntWalk
import Derived.Test.YtheeiklgblcjfaaGreatDoorQPkX
import Derived.Test.YtheeiklgblcjfaaGreatDoorQgx
set_option linter.unusedVariables false
set_option linter.unusedSimpArgs false
namespace Go.Proofs.YtheeiklgblcjfaaGreatDoor
open Go.Lib (hid)
open Go.RowKit Go.Sort
set_option maxRecDepth 100000
theorem do8_t (c:Cfg) (M:Md8) (x:CV):(do8 c M x).2.t = M.t + 1:=by
 unfold do8 act8
 repeat' split
 all_goals rfl
theorem CAt.only {w w':World} {b o:Nat} {v:CV} {S:Nat → Prop} (h:CAt w b o v) (ho:Only S w w') (hs:¬ S b):CAt w' b o v:=fun j x hx => by
 have:=h j x hx
 rw [← this]
 have hb:=h.lt
 simp [World.cell?,ho.block b hb hs]
theorem PFine.zero {w0:World} {l:List Pv} (h:PFine w0 l) (e:Pv) (hx:e.x = zcv) (h2:0 ≤ e.rang ∧ 0 ≤ e.took):PFine w0 (l ++ [e]):=
 h.app e (by rw [hx];exact ⟨zcv_wf,fun V hV => zcv_rows V _⟩) h2 (by rw [hx];decide) (fun _ h9 => by rw [hx] at h9;cases h9) (by rw [hx];decide)
theorem take8_out {c:Cfg} {M:Md8} {p:Int} (h:∀ k:Nat,k < c.chans.length → to8 c k ≠ p):take8 c M p = M:=by
 have hd:dests c p = []:=by
  unfold dests
  rw [List.map_eq_nil_iff,List.filter_eq_nil_iff]
  intro k hk
  have:=h k (List.mem_range.1 hk)
  simpa using this
 unfold take8
 rw [hd]
 show { M with bl:=Bel.leftB M.bl [] } = M
 rw [Bel.leftB_nil]
set_option maxHeartbeats 25600000 in
theorem modelActs_b (c:Cfg) (x:CfgAt) (l:List AV) (Al:Option Addr) (lk:Nat) (other:Int) (w:World) (hT:TabsAt w) (hx:CfgIn w w.heap.size c x) (wx:CfgWf c) (hr:ARow w w.heap.size Al l):Calls Tryz.prog 3 #[.agg (cfgCells c x),.slice Al l.length lk,.int .i64 other] w fun e w' => e = .returned (.bool true) ∧ Below w.heap.size w w':=by
 obtain ⟨W,HW,hB0,hWs,bx⟩:=one_cbox w c x 29
 have HWK:=hid (wakes18_b W (hT.later hB0))
 have HGR:=hid (fun (V:World) (hV:Below w.heap.size w V) => great18_b c x l Al lk V (hx.later hV) wx (hr.later hV))
 have HNW:=hid (fun (V:World) (hV:Below w.heap.size w V) (lx:CfgFew c) (hac:acceptsB c = true) => new8_b c x V (hx.later hV) wx lx hac)
 have HR:=hid hr;have HT:=hid hT;have HWX:=hid wx
 have HX:=hid hx
 have HW1S:=hid hWs
 have HB0:=hid hB0;have HBX:=hid bx
 obtain ⟨c0,c1,c2,c3,c4,c5⟩:=bx W (Below.refl _ _)
 obtain ⟨pa,pc,ca,cc,aa,ac,ba,bc⟩:=x
 simp only [cfgCells] at HW HGR HNW ⊢
 clear hT hx wx hr hB0 hWs bx c0 c1 c2 c3 c4 c5
 go_enter Tryz.func3,Tryz.ntmps3
 go_wp2_with (rw [← HW.out])
 refine HWK.out.mono ?_
 rintro e1 w1 ⟨rfl,hb1⟩
 have HB1:=hid (HB0.out.trans (hb1.mono HB0.out.size))
 obtain ⟨c0,c1,c2,c3,c4,c5⟩:=HBX.out w1 hb1
 clear HWK
 go_wp2_with fail
 refine (HGR.out w1 HB1.out).mono ?_
 rintro e2 w2 ⟨⟨g,rfl,hg⟩,hb2⟩
 have HB2:=hid (HB1.out.trans (hb2.mono HB1.out.size))
 have HBW2:=hid (hb1.trans (hb2.mono hb1.size))
 clear hb1 hb2 c0 c1 c2 c3 c4 c5 HGR
 cases g with
 | true =>
  go_wp2_with fail
  go_ret
  exact ⟨rfl,HB2.out⟩
 | false =>
  obtain ⟨hg1,hac,hll,hfine⟩:=hg rfl
  have HFI:=hid hfine;have HAC:=hid hac;have HLL:=hid hll
  have HLX:=hid (cfgLe_few hg1 (show 100 ≤ 1000000 by omega))
  obtain ⟨c0,c1,c2,c3,c4,c5⟩:=HBX.out w2 HBW2.out
  clear hg hg1 hac hll hfine
  go_wp2_with fail
  refine (HNW.out w2 HB2.out HLX.out HAC.out).mono ?_
  rintro e3 w3 ⟨own0_,Z0,rfl,hM0,hb3,-⟩
  obtain ⟨mb,hmb⟩:∃ mb,Z0.b = mb:=⟨_,rfl⟩
  rw [hmb]
  obtain ⟨n0,hn0⟩:∃ n,n = w2.heap.size:=⟨_,rfl⟩
  rw [← hn0] at hM0
  have HN0:=hid (show w.heap.size ≤ n0 ∧ n0 ≤ w3.heap.size from ⟨by have:=HB2.out.size;omega,by have:=hb3.size;omega⟩)
  have HBW:=hid (HBW2.out.trans (hb3.mono HBW2.out.size))
  have HW1S:=HW1S
  have HBWN:=hid (show W.heap.size ≤ n0 from by have:=HBW2.out.size;omega)
  have HB3:=hid (HB2.out.trans (hb3.mono HB2.out.size))
  have HI0:Hid (ActI w n0 c 0 mb (.slice none 0 0) w3 own0_ (new8 c) Z0 []):=hid ⟨hmb,hM0,PastAt.nil _ _,(fun g hg => by cases hg),PFine.nil w,Sim.new c,Nat.le_refl _,Nat.le_refl _,HB3.out,HN0.out.1⟩
  clear c0 c1 c2 c3 c4 c5 hM0 hb3 hmb hn0 HNW
  go_wp2_with fail
  go_loopw [8,30] (fun pv ix wr => ∃ i:Nat,i ≤ l.length ∧ ix = .int .i64 i ∧ ActE w n0 c i mb pv wr ∧ Below n0 w3 wr) (fun _ ix _ => l.length - (intOf ix).toNat)
  case atStart => exact ⟨0,Nat.zero_le _,rfl,⟨_,_,_,_,HI0.out⟩,Below.refl _ _⟩
  case round =>
   obtain ⟨i,hi,rfl,⟨own,M,Z,past,hA⟩,hbr⟩:=hrel
   obtain ⟨Ap,kp,hpv,hvr⟩:=hA.pst.row hA.fine hA.bel
   subst hpv
   have HA:=hid hA;have HVR:=hid hvr;have HLO0:=hid hbr
   clear hA hvr hbr
   by_cases hlt:i < l.length
   ·have s1:(i:Int) < (l.length:Int):=by omega
    obtain ⟨b,o,a,eA,hlb,ha,hwf,hc⟩:=HR.out.at_ hlt
    subst eA
    have HLT:=hid hlt
    have HLI:=hid (show i + 1 ≤ 100 from by have:=HLL.out;omega)
    have HFA:=hid (HFI.out i a ha)
    have HWF:=hid hwf;have HC:=hid hc
    have HXR:=hid (hc wr HA.out.bel).1
    obtain ⟨X1,X2,HX1,HX2,hth,hxb2,hxv⟩:=varA wr a
    have HXB:=hid hxb2;have HXV:=hid hxv;have HTH:=hid hth
    clear hxb2 hxv hth
    have HAX:=hid (HA.out.later HXB.out)
    have y0:X2.cell? ⟨wr.heap.size,0,none⟩ = some (.int .i64 a.kind):=HXV.out.kind
    have HLX2:=hid (HLO0.out.trans (HXB.out.mono (Nat.le_trans HN0.out.2 HLO0.out.size)))
    clear hlt ha hwf hc hlb hi
    by_cases h0:a.kind = 0
    ·rw [h0] at y0
     obtain ⟨⟨R,M'⟩,hR⟩:∃ r,do8 c M a.x = r:=⟨_,rfl⟩
     have hbX:=HA.out.bel.trans (HXB.out.mono HA.out.bel.size)
     have hAX:=HAX.out
     have HDO:=do20_b c ⟨pa,pc,ca,cc,aa,ac,ba,bc⟩ Ap kp past a.x X2 (HX.out.later hbX) HWX.out HLX.out (HVR.out.later HXB.out) hAX.fine.non hAX.fine.st hAX.fine.pk hAX.sim.qk (by have:=hAX.len;have:=HLI.out;omega) HWF.out (by have:=HFA.out.rd;omega) HFA.out.t1
     rw [dDo_is hAX.sim a.x (qfew hAX.mat a.x),hR] at HDO
     simp only [cfgCells] at HDO
     have HDO:=hid HDO
     have HRR:=hid hR
     have HCX:CAt X2 wr.heap.size 1 a.x:=HXV.out.call
     obtain ⟨d0,d1,d2,d3,d4,d5⟩:=HBX.out X2 (HBW.out.trans (HLX2.out.mono HBWN.out))
     clear hAX hR h0
     go_wp2_with (first | (rw [← HX1.out]) | (with_reducible refine wpList_store_mid (by kernel_rfl) _ _ _ rfl wr.heap.size 0 (aC a).toArray (by kernel_rfl) (by kernel_rfl) HTH.out (aC_infoA a) (aC_one a) ?_) | (rw [← HX2.out]) | (with_reducible refine wpList_loadA (by with_unfolding_all rfl) _ rfl _ _ _ (by with_unfolding_all rfl) HXR.out ?_) | (with_reducible refine wpList_loadC (by with_unfolding_all rfl) _ rfl _ _ _ (by with_unfolding_all rfl) HCX ?_))
     refine HDO.out.mono ?_
     rintro e4 w4 ⟨A4,k4,rfl,hr4,hc4,hb4,hp4⟩
     obtain ⟨W5,HW5,hB5,hs5,x5⟩:=box_new w4 #[.int .i64 R.code,.slice A4 R.data.length k4,.bool R.valid,.int .i64 R.count] 42
     obtain ⟨wb,hwb⟩:∃ k,k = w4.heap.size:=⟨_,rfl⟩
     have hX5:=x5 W5 (Below.refl _ _)
     rw [← hwb] at hX5
     have E5:=hid hwb
     have HWB5:=hid hX5
     have hbX5:=hb4.trans (hB5.mono hb4.size)
     have HA5:=hid (HAX.out.later hbX5)
     have HWBF:=hid (show own wb = .free from HAX.out.mat.free wb (by have:=hb4.size;omega))
     have HVBF:=hid (show own wr.heap.size = .free from HA.out.mat.free _ (Nat.le_refl _))
     have HFR:=hid (fun (q:Addr) (hp:0 < R.data.length) (hq:A4 = some q) => show own q.block = .free from by
      rcases hp4 hp q hq with h | ⟨i',e',h1,h2,h3⟩
      ·exact HAX.out.mat.free _ h
      ·obtain ⟨b',o',h4,h5,-⟩:=((HA.out.fine.x i' e' h1).2 X2 HAX.out.bel).rr (by rw [← h3];exact hp)
       rw [hq,h4] at h2
       cases h2
       exact HA.out.mat.low_free (by have:=HA.out.low;show b' < n0;omega))
     have HR5:=hid ((hr4.below hB5).more hB5.size)
     have HC5:CAt W5 wr.heap.size 1 a.x:=HCX.later hbX5 HXV.out.lt
     have hbW5:=HA5.out.bel
     have HDA:=do_any HA5.out.mat HWX.out HLX.out a.x HWF.out ((HC.out W5 hbW5).2.more hbW5.size) (by have:=HFA.out.rd;omega) HAC.out (by have:=HA5.out.tk;have:=HLI.out;omega) (HT.out.later hbW5) (fun hp q hq hm => by
      obtain ⟨b',o',h4,h5,-⟩:=(HC.out W5 hbW5).2.rr hp
      rw [h4] at hq;cases hq
      rw [HA.out.mat.low_free (k:=b') (by have:=HA.out.low;omega)] at hm;exact hm) HFA.out.st HFA.out.t1 R M' HRR.out
     rw [HA5.out.mb] at HDA
     have HDA:=hid HDA
     have HLX5:=hid (HLX2.out.trans (hbX5.mono (Nat.le_trans HN0.out.2 HLX2.out.size)))
     clear hr4 hc4 hb4 hp4 hB5 hs5 x5 hwb hX5 hbX5 hbW5 HCX y0 d0 d1 d2 d3 d4 d5
     go_wp2_with (first | (rw [← HW5.out];(try simp only [← E5.out])) | (with_reducible refine wpList_loadC (by with_unfolding_all rfl) _ rfl _ _ _ (by with_unfolding_all rfl) HC5 ?_))
     refine HDA.out.mono ?_
     rintro e6 w6 ⟨rA,rk,rfl,hd6,hc6,hT6⟩
     obtain ⟨own',Z',emb,hM6,hP6,hoff6,hlow6,hown6,honly6⟩:=HA5.out.turn hT6
     have hk6:=honly6.at_ HWB5.out (by rw [HWBF.out];exact fun h => h)
     have hc6':CAt w6 wr.heap.size 1 a.x:=HC5.only honly6 (by rw [HVBF.out];exact fun h => h)
     have hr6:IntRowK .u32 w6 w6.heap.size A4 R.data:=(HR5.out.only8 (Nat.le_refl _) honly6 (fun hp q hq hm => by rw [HFR.out q hp hq] at hm;exact hm)).more honly6.size
     have hg6:IntRowK .u32 w6 w6.heap.size rA R.data:=fun hp => (hd6 hp).1 hp
     obtain ⟨W7,HW7,hB7,hs7,x7⟩:=box_new w6 #[.int .i64 R.code,.slice rA R.data.length rk,.bool R.valid,.int .i64 R.count] 42
     obtain ⟨gb,hgb⟩:∃ k,k = w6.heap.size:=⟨_,rfl⟩
     have hX7:=x7 W7 (Below.refl _ _)
     rw [← hgb] at hX7
     have E7:=hid hgb
     have hk7:=(hB7.block wb (Array.getElem?_eq_some_iff.1 hk6).1).trans hk6
     have g0:W7.cell? ⟨gb,0,none⟩ = some (.int .i64 R.code):=blk_at hX7 (i:=0) rfl
     have g1:W7.cell? ⟨gb,1,none⟩ = some (.slice rA R.data.length rk):=blk_at hX7 (i:=1) rfl
     have g2:W7.cell? ⟨gb,2,none⟩ = some (.bool R.valid):=blk_at hX7 (i:=2) rfl
     have g3:W7.cell? ⟨gb,3,none⟩ = some (.int .i64 R.count):=blk_at hX7 (i:=3) rfl
     have v0:W7.cell? ⟨wb,0,none⟩ = some (.int .i64 R.code):=blk_at hk7 (i:=0) rfl
     have v1:W7.cell? ⟨wb,1,none⟩ = some (.slice A4 R.data.length k4):=blk_at hk7 (i:=1) rfl
     have v2:W7.cell? ⟨wb,2,none⟩ = some (.bool R.valid):=blk_at hk7 (i:=2) rfl
     have v3:W7.cell? ⟨wb,3,none⟩ = some (.int .i64 R.count):=blk_at hk7 (i:=3) rfl
     have HRL:=hid (show R.data.length ≤ 1000000 from by have h:=do8_len HA.out.sim HA.out.fine a.x;rw [HRR.out] at h;exact h)
     have HSA:=hid (sameAns_eq R.code R.valid R.count R.data rA A4 rk k4 W7 ((hg6.below hB7).more hB7.size) ((hr6.below hB7).more hB7.size) HRL.out)
     have HB67:=hid hB7
     have HK7:=hid hk7
     have HC7:=hid (hc6'.later hB7 hc6'.lt)
     have HM6:=hid hM6;have HP6:=hid hP6;have HOFF6:=hid hoff6;have HLOW6:=hid hlow6;have HEMB:=hid emb
     have HBW6:=hid (HA5.out.bel.trans (hlow6.mono HA.out.low))
     clear hd6 hc6 hT6 emb hM6 hP6 hoff6 hlow6 hown6 honly6 hk6 hc6' hr6 hg6 hB7 hs7 x7 hgb hX7 hk7 HC5
     go_wp2_with (rw [← HW7.out];(try simp only [← E7.out]))
     refine HSA.out.mono ?_
     rintro e8 w8 ⟨rfl,hb8⟩
     have HB68:=hid (HB67.out.trans (hb8.mono HB67.out.size))
     have hC8:=HC7.out.later hb8 HC7.out.lt
     have hk8:=(hb8.block wb (Array.getElem?_eq_some_iff.1 HK7.out).1).trans HK7.out
     have v0:w8.cell? ⟨wb,0,none⟩ = some (.int .i64 R.code):=blk_at hk8 (i:=0) rfl
     have v1:w8.cell? ⟨wb,1,none⟩ = some (.slice A4 R.data.length k4):=blk_at hk8 (i:=1) rfl
     have v2:w8.cell? ⟨wb,2,none⟩ = some (.bool R.valid):=blk_at hk8 (i:=2) rfl
     have v3:w8.cell? ⟨wb,3,none⟩ = some (.int .i64 R.count):=blk_at hk8 (i:=3) rfl
     have HM8:=hid (MAt.still HM6.out HB68.out).1
     have HP8:Hid (PastAt w8 n0 (.slice Ap past.length kp) past):=hid (OwnsOff.keptB HP6.out HB68.out)
     have HBU:=hid (built_eff a.x R.code A4 R.data.length k4 R.valid R.count)
     have HPL:=hid (show past.length ≤ 1000 from by have:=HA.out.len;have:=HLI.out;omega)
     clear hb8 hk8 g0 g1 g2 g3
     have HSZ:=hid (show n0 ≤ w8.heap.size from (HM8.out).n0le)
     obtain ⟨iP,hiP,hzP,hsP,hbP⟩:=info_parts infoP26
     have hownP:=HP8.out
     go_wp2_with (first | (with_reducible refine wpList_loadC (by with_unfolding_all rfl) _ rfl _ _ _ (by with_unfolding_all rfl) hC8 ?_) | (with_reducible refine wpList_builtY (by kernel_rfl) _ _ rfl _ _ HBU.out (by kernel_rfl) ?_) | (with_reducible refine wpList_sliceP (by kernel_rfl) _ rfl ((⟨a.x,R.code,A4,R.data.length,k4,R.valid,R.count,0,0⟩:Pv)) (by kernel_rfl) ?_) | (at_builtin;refine wpList_append_off _ rfl _ _ 35 rfl n0 51 iP (.agg #[.int .i64 0,.int .i64 0,.int .i64 0,.int .u64 0,.slice none 0 0,.int .i64 0,.slice none 0 0,.bool false,.int .i64 0,.bool false,.int .i64 0,.int .i64 0,.int .i64 0,.int .i64 0,.int .i64 0,.int .i64 0,.int .i64 0,.int .i64 0,.int .i64 0,.int .i64 0,.int .i64 0,.slice none 0 0,.bool false,.int .i64 0,.int .i64 0,.int .i64 0]) 26 256 Tryz.underlying35 hiP hzP hsP hbP rfl (by decide) _ _ _ rfl ((show OwnsOff _ _ _ _ _ _ _ from hownP).keptB ((Below.refl _ _).alloc (Nat.le_refl _) _)) ⟨w8.heap.size,0,none⟩ 1 1 (pC (⟨a.x,R.code,A4,R.data.length,k4,R.valid,R.count,0,0⟩:Pv)) rfl (by rw [pC_len]) (news_new _ _ _) (pC_one _) (by have:=HPL.out;unfold maxLen;omega) (by have:=HPL.out;omega) (by simp;have:=HSZ.out;omega) ?_))
     intro v' w9 hown' hgrow hfr
     obtain ⟨hM9,hoff9,hlow9⟩:=past_grown HM8.out (v':=v') (past':=past ++ [(⟨a.x,R.code,A4,R.data.length,k4,R.valid,R.count,0,0⟩:Pv)]) HP8.out HOFF6.out (by unfold PastAt;rw [List.length_append,psC_app,psC_one];exact hown') hgrow hfr
     obtain ⟨A9,k9,rfl,-,-⟩:=hown'.slice
     have HI:Hid (ActI w n0 c (i + 1) mb (.slice A9 (past.length + 1) k9) w9 own' M' Z' (past ++ [(⟨a.x,R.code,A4,R.data.length,k4,R.valid,R.count,0,0⟩:Pv)])):=hid
      ⟨HEMB.out,hM9,by unfold PastAt;rw [List.length_append,psC_app,psC_one];exact hown',hoff9,
      HA.out.fine.app _ ⟨HWF.out,fun V hV => (HC.out V hV).2⟩ ⟨Int.le_refl _,Int.le_refl _⟩ HFA.out.st (fun h0 h9 => poke_len (M:=M) (by rw [HRR.out];exact h0) h9) (by have:=HFA.out.rd;show a.x.rd.length ≤ 1000000;omega),
      by have h:=HA.out.sim.eff_ (fun k hk => (toOk HAC.out k hk).1) a.x (⟨a.x,R.code,A4,R.data.length,k4,R.valid,R.count,0,0⟩:Pv) rfl ⟨rfl,rfl⟩ (by rw [HRR.out]) (by rw [HRR.out]);rw [HRR.out] at h;exact h,
      by rw [List.length_append];exact Nat.succ_le_succ HA.out.len,by have h:=do8_t c M a.x;rw [HRR.out] at h;have:=HA.out.tk;have h:M'.t = M.t + 1:=h;omega,
      (HBW6.out.trans (HB68.out.mono HBW6.out.size)).trans (hlow9.mono HA.out.low),HA.out.low⟩
     have HLO:=hid (((HLX5.out.trans HLOW6.out).trans (HB68.out.mono (Nat.le_trans HN0.out.2 (Nat.le_trans HLX5.out.size HLOW6.out.size)))).trans hlow9)
     clear hown' hgrow hfr hM9 hoff9 hlow9 v0 v1 v2 v3 hC8 hownP
     obtain ⟨d0,d1,d2,d3,d4,d5⟩:=HBX.out w9 (HBW.out.trans (HLO.out.mono HBWN.out))
     go_wp2_with fail
     clear d0 d1 d2 d3 d4 d5
     obtain ⟨wo,rfl⟩:∃ wo,wo = w9:=⟨_,rfl⟩
     go_loopw [117] (fun ix wv => ∃ p:Nat,p ≤ c.parts.length ∧ ix = .int .i64 p ∧ Below wo.heap.size wo wv) (fun ix _ => c.parts.length - (intOf ix).toNat)
     case atStart => exact ⟨0,Nat.zero_le _,rfl,Below.refl _ _⟩
     case round =>
      obtain ⟨p,hp,rfl,hbv⟩:=hrel
      have HBV:=hid hbv
      by_cases hlt:p < c.parts.length
      ·have s1:(p:Int) < (c.parts.length:Int):=by omega
       have hIV:=HI.out.later hbv
       have HSG:=standing_b hIV.mat (by have:=hIV.tk;have:=HLI.out;omega) p hlt
       rw [hIV.mb] at HSG
       have HSG:=hid HSG
       obtain ⟨Aq,kq,hpv,hvr⟩:=hIV.pst.row hIV.fine hIV.bel
       injection hpv with hq1 hq2 hq3
       subst hq1 hq3
       have HSI:=hIV.sim.st (p:Int)
       obtain ⟨s,hs⟩:∃ s,st8 M' (p:Int) = s:=⟨_,rfl⟩
       rw [hs] at HSG HSI
       have HRS:=fun (V:World) (hV:Below wr.heap.size wr V) => standing20_b _ k9 _ (p:Int) V (hvr.later hV) hIV.fine.non (by have:=hIV.len;have:=HLI.out;omega)
       simp only [HSI] at HRS
       simp only [show (past ++ [(⟨a.x,R.code,A4,R.data.length,k4,R.valid,R.count,0,0⟩:Pv)]).length = past.length + 1 from by simp] at HRS
       clear hq2
       have HRS:=hid HRS
       have HSL:=hid (show s.made.length ≤ 1000000 ∧ s.valid.length ≤ 1000000 from by
        have h1:=dSt_len (p:Int) (past ++ [(⟨a.x,R.code,A4,R.data.length,k4,R.valid,R.count,0,0⟩:Pv)]) (past ++ [(⟨a.x,R.code,A4,R.data.length,k4,R.valid,R.count,0,0⟩:Pv)]).length
        rw [List.take_length,HSI] at h1
        have:=hIV.len;have:=HLI.out
        omega)
       have HLP:=hid hlt
       clear hIV hvr HSI hs hbv hlt hp
       go_wp2_with fail
       refine HSG.out.mono ?_
       rintro e5 w5 ⟨A1,k1,A2,k2,rfl,hm5,hv5,hb5⟩
       obtain ⟨W6,HW6,hB6,hs6,x6⟩:=box_new w5 #[.int .i64 (p:Int),.bool s.sn,.slice A1 s.made.length k1,.slice A2 s.valid.length k2] 59
       obtain ⟨xb,hxb⟩:∃ k,k = w5.heap.size:=⟨_,rfl⟩
       have hX6:=x6 W6 (Below.refl _ _)
       rw [← hxb] at hX6
       have EX:=hid hxb
       have x0:W6.cell? ⟨xb,0,none⟩ = some (.int .i64 (p:Int)):=blk_at hX6 (i:=0) rfl
       have x1:W6.cell? ⟨xb,1,none⟩ = some (.bool s.sn):=blk_at hX6 (i:=1) rfl
       have x2:W6.cell? ⟨xb,2,none⟩ = some (.slice A1 s.made.length k1):=blk_at hX6 (i:=2) rfl
       have x3:W6.cell? ⟨xb,3,none⟩ = some (.slice A2 s.valid.length k2):=blk_at hX6 (i:=3) rfl
       have HXL:=hid (Array.getElem?_eq_some_iff.1 hX6).1
       have HM6:=hid ((hm5.below hB6).more hB6.size)
       have HV6:=hid ((hv5.below hB6).more hB6.size)
       have HB6:=hid (hb5.trans (hB6.mono hb5.size))
       have HBV6:=hid (HBV.out.trans (HB6.out.mono HBV.out.size))
       clear hm5 hv5 hb5 hB6 hs6 x6 hxb hX6
       go_wp2_with (rw [← HW6.out];(try simp only [← EX.out]))
       refine wp_region_held_drew (S:=(fun W' => Below W6.heap.size W6 W')) (by kernel_rfl) (by exact (Below.refl _ _).drew) (fun hHeld => ?_)
       first
        | (refine wpAnyH_take (i:=0) rfl (by kernel_rfl) (by kernel_rfl) (by kernel_rfl) (fun _ _ _ h => h) (Or.inl ⟨by rfl,by intro w hSw;(go_simp <;> with_reducible rfl)⟩) (by assumption) ?_)
        | (refine wpAnyH_take (i:=0) rfl (by kernel_rfl) (by kernel_rfl) (by kernel_rfl) (fun _ _ _ h => h) (Or.inr ⟨by rfl,rfl⟩) (by assumption) ?_)
       (try simp only [Zc])
       first
        | (refine wpAnyH_take (i:=1) rfl (by kernel_rfl) (by kernel_rfl) (by kernel_rfl) (fun _ _ _ h => h) (Or.inl ⟨by rfl,by intro w hSw;(go_simp <;> with_reducible rfl)⟩) (by assumption) ?_)
        | (refine wpAnyH_take (i:=1) rfl (by kernel_rfl) (by kernel_rfl) (by kernel_rfl) (fun _ _ _ h => h) (Or.inr ⟨by rfl,rfl⟩) (by assumption) ?_)
       (try simp only [Zc])
       first
        | (refine wpAnyH_take (i:=2) rfl (by kernel_rfl) (by kernel_rfl) (by kernel_rfl) (fun _ _ _ h => h) (Or.inl ⟨by rfl,by intro w hSw;(go_simp <;> with_reducible rfl)⟩) (by assumption) ?_)
        | (refine wpAnyH_take (i:=2) rfl (by kernel_rfl) (by kernel_rfl) (by kernel_rfl) (fun _ _ _ h => h) (Or.inr ⟨by rfl,rfl⟩) (by assumption) ?_)
       (try simp only [Zc])
       first
        | (refine Tk0 3 rfl ?_)
        | (refine wpAnyH_take (i:=3) rfl (by kernel_rfl) (by kernel_rfl) (by kernel_rfl) (fun _ _ _ h => h) (Or.inr ⟨by rfl,rfl⟩) (by assumption) ?_)
       (try simp only [Zc])
       first
        | (refine wpAnyH_take (i:=4) rfl (by kernel_rfl) (by kernel_rfl) (by kernel_rfl) (fun _ _ _ h => h) (Or.inl ⟨by rfl,by intro w hSw;(go_simp <;> with_reducible rfl)⟩) (by assumption) ?_)
        | (refine wpAnyH_take (i:=4) rfl (by kernel_rfl) (by kernel_rfl) (by kernel_rfl) (fun _ _ _ h => h) (Or.inr ⟨by rfl,rfl⟩) (by assumption) ?_)
       (try simp only [Zc])
       first
        | (refine wpAnyH_take (i:=5) rfl (by kernel_rfl) (by kernel_rfl) (by kernel_rfl) (fun _ _ _ h => h) (Or.inl ⟨by rfl,by intro w hSw;(go_simp <;> with_reducible rfl)⟩) (by assumption) ?_)
        | (refine wpAnyH_take (i:=5) rfl (by kernel_rfl) (by kernel_rfl) (by kernel_rfl) (fun _ _ _ h => h) (Or.inr ⟨by rfl,rfl⟩) (by assumption) ?_)
       (try simp only [Zc])
       refine wpAnyH_ready (rs:=[6]) (by kernel_rfl) (by simp) (AllReadyH.cons rfl (fun K hK => ?_) AllReadyH.nil)
       go_simp
       refine (HRS.out W6.drew (HB6.out.trans ((Below.refl _ _).drew.mono HB6.out.size))).mono ?_
       rintro e7 w7 ⟨A3,k3,A4,k4,rfl,hm7,hv7,hb7o⟩
       (try go_wp2_with fail)
       have hb7:=(Below.refl W6.heap.size W6).drew.trans hb7o
       have HB7:=hid hb7
       have HSS:=hid (sameStand_eq (p:Int) s.sn s.made s.valid A1 A3 A2 A4 k1 k3 k2 k4 w7 ((HM6.out.below hb7).more hb7.size) hm7 ((HV6.out.below hb7).more hb7.size) hv7 HSL.out.1 HSL.out.2)
       clear hm7 hv7 hb7 hb7o hHeld
       refine hK.out _ _ (by exact HB7.out) (fun hHeld => ?_)
       clear hK K
       (try simp only [Zc])
       refine wpAnyH_ready (rs:=[7]) (by kernel_rfl) (by simp) (AllReadyH.cons rfl (fun K hK => ?_) AllReadyH.nil)
       go_simp
       refine HSS.out.mono ?_
       rintro e8 w8 ⟨rfl,hb8⟩
       (try go_wp2_with fail)
       have HB8:=hid (HB7.out.trans (hb8.mono HB7.out.size))
       clear hb8 hHeld
       refine hK.out _ _ (by exact HB8.out) (fun hHeld => ?_)
       clear hK K
       (try simp only [Zc])
       first
        | (refine wpAnyH_take (i:=8) rfl (by kernel_rfl) (by kernel_rfl) (by kernel_rfl) (fun _ _ _ h => h) (Or.inl ⟨by rfl,by intro w hSw;(go_simp <;> with_reducible rfl)⟩) (by assumption) ?_)
        | (refine wpAnyH_take (i:=8) rfl (by kernel_rfl) (by kernel_rfl) (by kernel_rfl) (fun _ _ _ h => h) (Or.inr ⟨by rfl,rfl⟩) (by assumption) ?_)
       (try simp only [Zc])
       first
        | (refine wpAnyH_take (i:=9) rfl (by kernel_rfl) (by kernel_rfl) (by kernel_rfl) (fun _ _ _ h => h) (Or.inl ⟨by rfl,by intro w hSw;(go_simp <;> with_reducible rfl)⟩) (by assumption) ?_)
        | (refine wpAnyH_take (i:=9) rfl (by kernel_rfl) (by kernel_rfl) (by kernel_rfl) (fun _ _ _ h => h) (Or.inr ⟨by rfl,rfl⟩) (by assumption) ?_)
       (try simp only [Zc])
       refine wpAnyH_done (by kernel_rfl) ?_ _
       clear hHeld
       have HBE:=hid (HBV6.out.trans (HB8.out.mono HBV6.out.size))
       have hwp:IntKind.i64.wrap ((p:Int) + 1) = (p:Int) + 1:=IntWalk.i64_in _ (by have:=HLP.out;have:=HLX.out.1;omega)
       clear x0 x1 x2 x3
       go_wp2_with fail
       go_roundw
       case rel => exact ⟨p + 1,by have:=HLP.out;omega,by go_num,HBE.out⟩
       case measure => simp [intOf];have:=HLP.out;omega
      ·have s1:¬ ((p:Int) < (c.parts.length:Int)):=by omega
       have hwi:IntKind.i64.wrap ((i:Int) + 1) = (i:Int) + 1:=IntWalk.i64_in _ (by have:=HLI.out;omega)
       clear hlt hp hbv
       go_wp2_with fail
       go_roundw
       case rel => exact ⟨i + 1,by have:=HLT.out;omega,by go_num,⟨_,_,_,_,HI.out.later HBV.out⟩,HLO.out.trans (HBV.out.mono (Nat.le_trans HN0.out.2 HLO.out.size))⟩
       case measure => simp [intOf];have:=HLT.out;omega
    by_cases h1:a.kind = 1
    ·rw [h1] at y0
     have hbX:=HA.out.bel.trans (HXB.out.mono HA.out.bel.size)
     have HRB:=hid (rings_b c ⟨pa,pc,ca,cc,aa,ac,ba,bc⟩ a.x X2 (HX.out.later hbX) HWX.out HLX.out HWF.out)
     simp only [cfgCells] at HRB
     have HCX:CAt X2 wr.heap.size 1 a.x:=HXV.out.call
     obtain ⟨d0,d1,d2,d3,d4,d5⟩:=HBX.out X2 (HBW.out.trans (HLX2.out.mono HBWN.out))
     clear h0 h1 hbX
     go_wp2_with (first | (rw [← HX1.out]) | (with_reducible refine wpList_store_mid (by kernel_rfl) _ _ _ rfl wr.heap.size 0 (aC a).toArray (by kernel_rfl) (by kernel_rfl) HTH.out (aC_infoA a) (aC_one a) ?_) | (rw [← HX2.out]) | (with_reducible refine wpList_loadA (by with_unfolding_all rfl) _ rfl _ _ _ (by with_unfolding_all rfl) HXR.out ?_) | (with_reducible refine wpList_loadC (by with_unfolding_all rfl) _ rfl _ _ _ (by with_unfolding_all rfl) HCX ?_))
     refine HRB.out.mono ?_
     rintro e4 w4 ⟨rfl,hb4⟩
     have HA4:=hid (HAX.out.later hb4)
     have hC4:=HCX.later hb4 HXV.out.lt
     have HLX4:=hid (HLX2.out.trans (hb4.mono (Nat.le_trans HN0.out.2 HLX2.out.size)))
     clear hb4 HCX y0 d0 d1 d2 d3 d4 d5
     by_cases hpb:portB c a.x.port = true ∧ a.x.op = 5
     ·obtain ⟨k,hk,hK⟩:=portK_of hpb.1
      have HRV:Hid (rings c a.x = (k:Int) + 1):=hid (by unfold rings;rw [if_pos hpb,hK])
      have HRM:=ringM_in HA4.out.mat HWX.out HLX.out a.x HWF.out hpb.1 hpb.2 k hK hk
      rw [HA4.out.mb] at HRM
      have HRM:=hid HRM
      have HKL:=hid hk
      rw [HRV.out]
      have hgt:(k:Int) + 1 > 0:=by omega
      clear hpb hK hk
      go_wp2_with (first | (with_reducible refine wpList_loadC (by with_unfolding_all rfl) _ rfl _ _ _ (by with_unfolding_all rfl) hC4 ?_))
      refine HRM.out.mono ?_
      rintro e6 w6 ⟨rfl,hT6⟩
      obtain ⟨own',Z',emb,hM6,hP6,hoff6,hlow6,hown6,honly6⟩:=HA4.out.turn hT6
      have HM6:=hid hM6;have HP6:=hid hP6;have HOFF6:=hid hoff6;have HEMB:=hid emb
      have HBW6:=hid (HA4.out.bel.trans (hlow6.mono HA.out.low))
      have HLO6:=hid (HLX4.out.trans hlow6)
      have HBU:=hid (built_rang ((k:Int) + 1))
      have HPL:=hid (show past.length ≤ 1000 from by have:=HA.out.len;have:=HLI.out;omega)
      clear hT6 emb hM6 hP6 hoff6 hlow6 hown6 honly6 hC4
      have HSZ:=hid (show n0 ≤ w6.heap.size from (HM6.out).n0le)
      obtain ⟨iP,hiP,hzP,hsP,hbP⟩:=info_parts infoP26
      have hownP:=HP6.out
      go_wp2_with (first | (with_reducible refine wpList_builtY (by kernel_rfl) _ _ rfl _ _ HBU.out (by kernel_rfl) ?_) | (with_reducible refine wpList_sliceP (by kernel_rfl) _ rfl ((⟨zcv,0,none,0,0,false,0,(k:Int) + 1,0⟩:Pv)) (by kernel_rfl) ?_) | (at_builtin;refine wpList_append_off _ rfl _ _ 35 rfl n0 51 iP (.agg #[.int .i64 0,.int .i64 0,.int .i64 0,.int .u64 0,.slice none 0 0,.int .i64 0,.slice none 0 0,.bool false,.int .i64 0,.bool false,.int .i64 0,.int .i64 0,.int .i64 0,.int .i64 0,.int .i64 0,.int .i64 0,.int .i64 0,.int .i64 0,.int .i64 0,.int .i64 0,.int .i64 0,.slice none 0 0,.bool false,.int .i64 0,.int .i64 0,.int .i64 0]) 26 256 Tryz.underlying35 hiP hzP hsP hbP rfl (by decide) _ _ _ rfl ((show OwnsOff _ _ _ _ _ _ _ from hownP).keptB ((Below.refl _ _).alloc (Nat.le_refl _) _)) ⟨w6.heap.size,0,none⟩ 1 1 (pC (⟨zcv,0,none,0,0,false,0,(k:Int) + 1,0⟩:Pv)) rfl (by rw [pC_len]) (news_new _ _ _) (pC_one _) (by have:=HPL.out;unfold maxLen;omega) (by have:=HPL.out;omega) (by simp;have:=HSZ.out;omega) ?_))
      intro v' w9 hown' hgrow hfr
      obtain ⟨hM9,hoff9,hlow9⟩:=past_grown HM6.out (v':=v') (past':=past ++ [(⟨zcv,0,none,0,0,false,0,(k:Int) + 1,0⟩:Pv)]) HP6.out HOFF6.out (by unfold PastAt;rw [List.length_append,psC_app,psC_one];exact hown') hgrow hfr
      obtain ⟨A9,k9,rfl,-,-⟩:=hown'.slice
      have HI:Hid (ActI w n0 c (i + 1) mb (.slice A9 (past.length + 1) k9) w9 own' (tick8 (ring8 M k)) Z' (past ++ [(⟨zcv,0,none,0,0,false,0,(k:Int) + 1,0⟩:Pv)])):=hid
       ⟨HEMB.out,hM9,by unfold PastAt;rw [List.length_append,psC_app,psC_one];exact hown',hoff9,
       PFine.zero HA.out.fine _ rfl ⟨by show (0:Int) ≤ (k:Int) + 1;omega,by show (0:Int) ≤ 0;omega⟩,(HA.out.sim.ring (fun k hk => (toOk HAC.out k hk).1) _ k HKL.out rfl rfl).tick,
       by rw [List.length_append];exact Nat.succ_le_succ HA.out.len,by have:=HA.out.tk;show M.t + 1 ≤ i + 1;omega,
       HBW6.out.trans (hlow9.mono HA.out.low),HA.out.low⟩
      have HLO:=hid (HLO6.out.trans hlow9)
      clear hown' hgrow hfr hM9 hoff9 hlow9
      clear hownP hgt
      obtain ⟨d0,d1,d2,d3,d4,d5⟩:=HBX.out w9 (HBW.out.trans (HLO.out.mono HBWN.out))
      go_wp2_with fail
      clear d0 d1 d2 d3 d4 d5
      obtain ⟨wo,rfl⟩:∃ wo,wo = w9:=⟨_,rfl⟩
      go_loopw [117] (fun ix wv => ∃ p:Nat,p ≤ c.parts.length ∧ ix = .int .i64 p ∧ Below wo.heap.size wo wv) (fun ix _ => c.parts.length - (intOf ix).toNat)
      case atStart => exact ⟨0,Nat.zero_le _,rfl,Below.refl _ _⟩
      case round =>
       obtain ⟨p,hp,rfl,hbv⟩:=hrel
       have HBV:=hid hbv
       by_cases hlt:p < c.parts.length
       ·have s1:(p:Int) < (c.parts.length:Int):=by omega
        have hIV:=HI.out.later hbv
        have HSG:=standing_b hIV.mat (by have:=hIV.tk;have:=HLI.out;omega) p hlt
        rw [hIV.mb] at HSG
        have HSG:=hid HSG
        obtain ⟨Aq,kq,hpv,hvr⟩:=hIV.pst.row hIV.fine hIV.bel
        injection hpv with hq1 hq2 hq3
        subst hq1 hq3
        have HSI:=hIV.sim.st (p:Int)
        obtain ⟨s,hs⟩:∃ s,st8 (tick8 (ring8 M k)) (p:Int) = s:=⟨_,rfl⟩
        rw [hs] at HSG HSI
        have HRS:=fun (V:World) (hV:Below wr.heap.size wr V) => standing20_b _ k9 _ (p:Int) V (hvr.later hV) hIV.fine.non (by have:=hIV.len;have:=HLI.out;omega)
        simp only [HSI] at HRS
        simp only [show (past ++ [(⟨zcv,0,none,0,0,false,0,(k:Int) + 1,0⟩:Pv)]).length = past.length + 1 from by simp] at HRS
        clear hq2
        have HRS:=hid HRS
        have HSL:=hid (show s.made.length ≤ 1000000 ∧ s.valid.length ≤ 1000000 from by
         have h1:=dSt_len (p:Int) (past ++ [(⟨zcv,0,none,0,0,false,0,(k:Int) + 1,0⟩:Pv)]) (past ++ [(⟨zcv,0,none,0,0,false,0,(k:Int) + 1,0⟩:Pv)]).length
         rw [List.take_length,HSI] at h1
         have:=hIV.len;have:=HLI.out
         omega)
        have HLP:=hid hlt
        clear hIV hvr HSI hs hbv hlt hp
        go_wp2_with fail
        refine HSG.out.mono ?_
        rintro e5 w5 ⟨A1,k1,A2,k2,rfl,hm5,hv5,hb5⟩
        obtain ⟨W6,HW6,hB6,hs6,x6⟩:=box_new w5 #[.int .i64 (p:Int),.bool s.sn,.slice A1 s.made.length k1,.slice A2 s.valid.length k2] 59
        obtain ⟨xb,hxb⟩:∃ k,k = w5.heap.size:=⟨_,rfl⟩
        have hX6:=x6 W6 (Below.refl _ _)
        rw [← hxb] at hX6
        have EX:=hid hxb
        have x0:W6.cell? ⟨xb,0,none⟩ = some (.int .i64 (p:Int)):=blk_at hX6 (i:=0) rfl
        have x1:W6.cell? ⟨xb,1,none⟩ = some (.bool s.sn):=blk_at hX6 (i:=1) rfl
        have x2:W6.cell? ⟨xb,2,none⟩ = some (.slice A1 s.made.length k1):=blk_at hX6 (i:=2) rfl
        have x3:W6.cell? ⟨xb,3,none⟩ = some (.slice A2 s.valid.length k2):=blk_at hX6 (i:=3) rfl
        have HXL:=hid (Array.getElem?_eq_some_iff.1 hX6).1
        have HM6:=hid ((hm5.below hB6).more hB6.size)
        have HV6:=hid ((hv5.below hB6).more hB6.size)
        have HB6:=hid (hb5.trans (hB6.mono hb5.size))
        have HBV6:=hid (HBV.out.trans (HB6.out.mono HBV.out.size))
        clear hm5 hv5 hb5 hB6 hs6 x6 hxb hX6
        go_wp2_with (rw [← HW6.out];(try simp only [← EX.out]))
        refine wp_region_held_drew (S:=(fun W' => Below W6.heap.size W6 W')) (by kernel_rfl) (by exact (Below.refl _ _).drew) (fun hHeld => ?_)
        first
         | (refine wpAnyH_take (i:=0) rfl (by kernel_rfl) (by kernel_rfl) (by kernel_rfl) (fun _ _ _ h => h) (Or.inl ⟨by rfl,by intro w hSw;(go_simp <;> with_reducible rfl)⟩) (by assumption) ?_)
         | (refine wpAnyH_take (i:=0) rfl (by kernel_rfl) (by kernel_rfl) (by kernel_rfl) (fun _ _ _ h => h) (Or.inr ⟨by rfl,rfl⟩) (by assumption) ?_)
        (try simp only [Zc])
        first
         | (refine wpAnyH_take (i:=1) rfl (by kernel_rfl) (by kernel_rfl) (by kernel_rfl) (fun _ _ _ h => h) (Or.inl ⟨by rfl,by intro w hSw;(go_simp <;> with_reducible rfl)⟩) (by assumption) ?_)
         | (refine wpAnyH_take (i:=1) rfl (by kernel_rfl) (by kernel_rfl) (by kernel_rfl) (fun _ _ _ h => h) (Or.inr ⟨by rfl,rfl⟩) (by assumption) ?_)
        (try simp only [Zc])
        first
         | (refine wpAnyH_take (i:=2) rfl (by kernel_rfl) (by kernel_rfl) (by kernel_rfl) (fun _ _ _ h => h) (Or.inl ⟨by rfl,by intro w hSw;(go_simp <;> with_reducible rfl)⟩) (by assumption) ?_)
         | (refine wpAnyH_take (i:=2) rfl (by kernel_rfl) (by kernel_rfl) (by kernel_rfl) (fun _ _ _ h => h) (Or.inr ⟨by rfl,rfl⟩) (by assumption) ?_)
        (try simp only [Zc])
        first
         | (refine Tk0 3 rfl ?_)
         | (refine wpAnyH_take (i:=3) rfl (by kernel_rfl) (by kernel_rfl) (by kernel_rfl) (fun _ _ _ h => h) (Or.inr ⟨by rfl,rfl⟩) (by assumption) ?_)
        (try simp only [Zc])
        first
         | (refine wpAnyH_take (i:=4) rfl (by kernel_rfl) (by kernel_rfl) (by kernel_rfl) (fun _ _ _ h => h) (Or.inl ⟨by rfl,by intro w hSw;(go_simp <;> with_reducible rfl)⟩) (by assumption) ?_)
         | (refine wpAnyH_take (i:=4) rfl (by kernel_rfl) (by kernel_rfl) (by kernel_rfl) (fun _ _ _ h => h) (Or.inr ⟨by rfl,rfl⟩) (by assumption) ?_)
        (try simp only [Zc])
        first
         | (refine wpAnyH_take (i:=5) rfl (by kernel_rfl) (by kernel_rfl) (by kernel_rfl) (fun _ _ _ h => h) (Or.inl ⟨by rfl,by intro w hSw;(go_simp <;> with_reducible rfl)⟩) (by assumption) ?_)
         | (refine wpAnyH_take (i:=5) rfl (by kernel_rfl) (by kernel_rfl) (by kernel_rfl) (fun _ _ _ h => h) (Or.inr ⟨by rfl,rfl⟩) (by assumption) ?_)
        (try simp only [Zc])
        refine wpAnyH_ready (rs:=[6]) (by kernel_rfl) (by simp) (AllReadyH.cons rfl (fun K hK => ?_) AllReadyH.nil)
        go_simp
        refine (HRS.out W6.drew (HB6.out.trans ((Below.refl _ _).drew.mono HB6.out.size))).mono ?_
        rintro e7 w7 ⟨A3,k3,A4,k4,rfl,hm7,hv7,hb7o⟩
        (try go_wp2_with fail)
        have hb7:=(Below.refl W6.heap.size W6).drew.trans hb7o
        have HB7:=hid hb7
        have HSS:=hid (sameStand_eq (p:Int) s.sn s.made s.valid A1 A3 A2 A4 k1 k3 k2 k4 w7 ((HM6.out.below hb7).more hb7.size) hm7 ((HV6.out.below hb7).more hb7.size) hv7 HSL.out.1 HSL.out.2)
        clear hm7 hv7 hb7 hb7o hHeld
        refine hK.out _ _ (by exact HB7.out) (fun hHeld => ?_)
        clear hK K
        (try simp only [Zc])
        refine wpAnyH_ready (rs:=[7]) (by kernel_rfl) (by simp) (AllReadyH.cons rfl (fun K hK => ?_) AllReadyH.nil)
        go_simp
        refine HSS.out.mono ?_
        rintro e8 w8 ⟨rfl,hb8⟩
        (try go_wp2_with fail)
        have HB8:=hid (HB7.out.trans (hb8.mono HB7.out.size))
        clear hb8 hHeld
        refine hK.out _ _ (by exact HB8.out) (fun hHeld => ?_)
        clear hK K
        (try simp only [Zc])
        first
         | (refine wpAnyH_take (i:=8) rfl (by kernel_rfl) (by kernel_rfl) (by kernel_rfl) (fun _ _ _ h => h) (Or.inl ⟨by rfl,by intro w hSw;(go_simp <;> with_reducible rfl)⟩) (by assumption) ?_)
         | (refine wpAnyH_take (i:=8) rfl (by kernel_rfl) (by kernel_rfl) (by kernel_rfl) (fun _ _ _ h => h) (Or.inr ⟨by rfl,rfl⟩) (by assumption) ?_)
        (try simp only [Zc])
        first
         | (refine wpAnyH_take (i:=9) rfl (by kernel_rfl) (by kernel_rfl) (by kernel_rfl) (fun _ _ _ h => h) (Or.inl ⟨by rfl,by intro w hSw;(go_simp <;> with_reducible rfl)⟩) (by assumption) ?_)
         | (refine wpAnyH_take (i:=9) rfl (by kernel_rfl) (by kernel_rfl) (by kernel_rfl) (fun _ _ _ h => h) (Or.inr ⟨by rfl,rfl⟩) (by assumption) ?_)
        (try simp only [Zc])
        refine wpAnyH_done (by kernel_rfl) ?_ _
        clear hHeld
        have HBE:=hid (HBV6.out.trans (HB8.out.mono HBV6.out.size))
        have hwp:IntKind.i64.wrap ((p:Int) + 1) = (p:Int) + 1:=IntWalk.i64_in _ (by have:=HLP.out;have:=HLX.out.1;omega)
        clear x0 x1 x2 x3
        go_wp2_with fail
        go_roundw
        case rel => exact ⟨p + 1,by have:=HLP.out;omega,by go_num,HBE.out⟩
        case measure => simp [intOf];have:=HLP.out;omega
       ·have s1:¬ ((p:Int) < (c.parts.length:Int)):=by omega
        have hwi:IntKind.i64.wrap ((i:Int) + 1) = (i:Int) + 1:=IntWalk.i64_in _ (by have:=HLI.out;omega)
        clear hlt hp hbv
        go_wp2_with fail
        go_roundw
        case rel => exact ⟨i + 1,by have:=HLT.out;omega,by go_num,⟨_,_,_,_,HI.out.later HBV.out⟩,HLO.out.trans (HBV.out.mono (Nat.le_trans HN0.out.2 HLO.out.size))⟩
        case measure => simp [intOf];have:=HLT.out;omega
     ·have HRV:Hid (rings c a.x = 0):=hid (by unfold rings;rw [if_neg hpb])
      have HRM:Calls Tryz.prog 15 #[.pointer (some ⟨Z.b,0,none⟩),.agg (cCells a.x).toArray] w4 fun e w' => e = .returned (.bool false) ∧ Turn8 w4 own n0 c M Z w':=by
       cases hp2:portB c a.x.port with
       | false => exact ringM_no HA4.out.mat HWX.out HLX.out a.x HWF.out hp2
       | true => exact ringM_op HA4.out.mat HWX.out HLX.out a.x HWF.out hp2 (fun ho => hpb ⟨hp2,ho⟩)
      rw [HA4.out.mb] at HRM
      have HRM:=hid HRM
      rw [HRV.out]
      clear hpb
      go_wp2_with (first | (with_reducible refine wpList_loadC (by with_unfolding_all rfl) _ rfl _ _ _ (by with_unfolding_all rfl) hC4 ?_))
      refine HRM.out.mono ?_
      rintro e6 w6 ⟨rfl,hT6⟩
      obtain ⟨own',Z',emb,hM6,hP6,hoff6,hlow6,hown6,honly6⟩:=HA4.out.turn hT6
      have HI:Hid (ActI w n0 c (i + 1) mb (.slice Ap past.length kp) w6 own' M Z' past):=hid ⟨emb,hM6,hP6,hoff6,HA.out.fine,HA.out.sim,Nat.le_succ_of_le HA.out.len,Nat.le_succ_of_le HA.out.tk,HA4.out.bel.trans (hlow6.mono HA.out.low),HA.out.low⟩
      have HLO:=hid (HLX4.out.trans hlow6)
      clear hT6 emb hM6 hP6 hoff6 hlow6 hown6 honly6 hC4
      obtain ⟨d0,d1,d2,d3,d4,d5⟩:=HBX.out w6 (HBW.out.trans (HLO.out.mono HBWN.out))
      go_wp2_with fail
      clear d0 d1 d2 d3 d4 d5
      obtain ⟨wo,rfl⟩:∃ wo,wo = w6:=⟨_,rfl⟩
      go_loopw [117] (fun ix wv => ∃ p:Nat,p ≤ c.parts.length ∧ ix = .int .i64 p ∧ Below wo.heap.size wo wv) (fun ix _ => c.parts.length - (intOf ix).toNat)
      case atStart => exact ⟨0,Nat.zero_le _,rfl,Below.refl _ _⟩
      case round =>
       obtain ⟨p,hp,rfl,hbv⟩:=hrel
       have HBV:=hid hbv
       by_cases hlt:p < c.parts.length
       ·have s1:(p:Int) < (c.parts.length:Int):=by omega
        have hIV:=HI.out.later hbv
        have HSG:=standing_b hIV.mat (by have:=hIV.tk;have:=HLI.out;omega) p hlt
        rw [hIV.mb] at HSG
        have HSG:=hid HSG
        obtain ⟨Aq,kq,hpv,hvr⟩:=hIV.pst.row hIV.fine hIV.bel
        injection hpv with hq1 hq2 hq3
        subst hq1 hq3
        have HSI:=hIV.sim.st (p:Int)
        obtain ⟨s,hs⟩:∃ s,st8 M (p:Int) = s:=⟨_,rfl⟩
        rw [hs] at HSG HSI
        have HRS:=fun (V:World) (hV:Below wr.heap.size wr V) => standing20_b _ kp _ (p:Int) V (hvr.later hV) hIV.fine.non (by have:=hIV.len;have:=HLI.out;omega)
        simp only [HSI] at HRS
        skip
        have HRS:=hid HRS
        have HSL:=hid (show s.made.length ≤ 1000000 ∧ s.valid.length ≤ 1000000 from by
         have h1:=dSt_len (p:Int) (past) (past).length
         rw [List.take_length,HSI] at h1
         have:=hIV.len;have:=HLI.out
         omega)
        have HLP:=hid hlt
        clear hIV hvr HSI hs hbv hlt hp
        go_wp2_with fail
        refine HSG.out.mono ?_
        rintro e5 w5 ⟨A1,k1,A2,k2,rfl,hm5,hv5,hb5⟩
        obtain ⟨W6,HW6,hB6,hs6,x6⟩:=box_new w5 #[.int .i64 (p:Int),.bool s.sn,.slice A1 s.made.length k1,.slice A2 s.valid.length k2] 59
        obtain ⟨xb,hxb⟩:∃ k,k = w5.heap.size:=⟨_,rfl⟩
        have hX6:=x6 W6 (Below.refl _ _)
        rw [← hxb] at hX6
        have EX:=hid hxb
        have x0:W6.cell? ⟨xb,0,none⟩ = some (.int .i64 (p:Int)):=blk_at hX6 (i:=0) rfl
        have x1:W6.cell? ⟨xb,1,none⟩ = some (.bool s.sn):=blk_at hX6 (i:=1) rfl
        have x2:W6.cell? ⟨xb,2,none⟩ = some (.slice A1 s.made.length k1):=blk_at hX6 (i:=2) rfl
        have x3:W6.cell? ⟨xb,3,none⟩ = some (.slice A2 s.valid.length k2):=blk_at hX6 (i:=3) rfl
        have HXL:=hid (Array.getElem?_eq_some_iff.1 hX6).1
        have HM6:=hid ((hm5.below hB6).more hB6.size)
        have HV6:=hid ((hv5.below hB6).more hB6.size)
        have HB6:=hid (hb5.trans (hB6.mono hb5.size))
        have HBV6:=hid (HBV.out.trans (HB6.out.mono HBV.out.size))
        clear hm5 hv5 hb5 hB6 hs6 x6 hxb hX6
        go_wp2_with (rw [← HW6.out];(try simp only [← EX.out]))
        refine wp_region_held_drew (S:=(fun W' => Below W6.heap.size W6 W')) (by kernel_rfl) (by exact (Below.refl _ _).drew) (fun hHeld => ?_)
        first
         | (refine wpAnyH_take (i:=0) rfl (by kernel_rfl) (by kernel_rfl) (by kernel_rfl) (fun _ _ _ h => h) (Or.inl ⟨by rfl,by intro w hSw;(go_simp <;> with_reducible rfl)⟩) (by assumption) ?_)
         | (refine wpAnyH_take (i:=0) rfl (by kernel_rfl) (by kernel_rfl) (by kernel_rfl) (fun _ _ _ h => h) (Or.inr ⟨by rfl,rfl⟩) (by assumption) ?_)
        (try simp only [Zc])
        first
         | (refine wpAnyH_take (i:=1) rfl (by kernel_rfl) (by kernel_rfl) (by kernel_rfl) (fun _ _ _ h => h) (Or.inl ⟨by rfl,by intro w hSw;(go_simp <;> with_reducible rfl)⟩) (by assumption) ?_)
         | (refine wpAnyH_take (i:=1) rfl (by kernel_rfl) (by kernel_rfl) (by kernel_rfl) (fun _ _ _ h => h) (Or.inr ⟨by rfl,rfl⟩) (by assumption) ?_)
        (try simp only [Zc])
        first
         | (refine wpAnyH_take (i:=2) rfl (by kernel_rfl) (by kernel_rfl) (by kernel_rfl) (fun _ _ _ h => h) (Or.inl ⟨by rfl,by intro w hSw;(go_simp <;> with_reducible rfl)⟩) (by assumption) ?_)
         | (refine wpAnyH_take (i:=2) rfl (by kernel_rfl) (by kernel_rfl) (by kernel_rfl) (fun _ _ _ h => h) (Or.inr ⟨by rfl,rfl⟩) (by assumption) ?_)
        (try simp only [Zc])
        first
         | (refine Tk0 3 rfl ?_)
         | (refine wpAnyH_take (i:=3) rfl (by kernel_rfl) (by kernel_rfl) (by kernel_rfl) (fun _ _ _ h => h) (Or.inr ⟨by rfl,rfl⟩) (by assumption) ?_)
        (try simp only [Zc])
        first
         | (refine wpAnyH_take (i:=4) rfl (by kernel_rfl) (by kernel_rfl) (by kernel_rfl) (fun _ _ _ h => h) (Or.inl ⟨by rfl,by intro w hSw;(go_simp <;> with_reducible rfl)⟩) (by assumption) ?_)
         | (refine wpAnyH_take (i:=4) rfl (by kernel_rfl) (by kernel_rfl) (by kernel_rfl) (fun _ _ _ h => h) (Or.inr ⟨by rfl,rfl⟩) (by assumption) ?_)
        (try simp only [Zc])
        first
         | (refine wpAnyH_take (i:=5) rfl (by kernel_rfl) (by kernel_rfl) (by kernel_rfl) (fun _ _ _ h => h) (Or.inl ⟨by rfl,by intro w hSw;(go_simp <;> with_reducible rfl)⟩) (by assumption) ?_)
         | (refine wpAnyH_take (i:=5) rfl (by kernel_rfl) (by kernel_rfl) (by kernel_rfl) (fun _ _ _ h => h) (Or.inr ⟨by rfl,rfl⟩) (by assumption) ?_)
        (try simp only [Zc])
        refine wpAnyH_ready (rs:=[6]) (by kernel_rfl) (by simp) (AllReadyH.cons rfl (fun K hK => ?_) AllReadyH.nil)
        go_simp
        refine (HRS.out W6.drew (HB6.out.trans ((Below.refl _ _).drew.mono HB6.out.size))).mono ?_
        rintro e7 w7 ⟨A3,k3,A4,k4,rfl,hm7,hv7,hb7o⟩
        (try go_wp2_with fail)
        have hb7:=(Below.refl W6.heap.size W6).drew.trans hb7o
        have HB7:=hid hb7
        have HSS:=hid (sameStand_eq (p:Int) s.sn s.made s.valid A1 A3 A2 A4 k1 k3 k2 k4 w7 ((HM6.out.below hb7).more hb7.size) hm7 ((HV6.out.below hb7).more hb7.size) hv7 HSL.out.1 HSL.out.2)
        clear hm7 hv7 hb7 hb7o hHeld
        refine hK.out _ _ (by exact HB7.out) (fun hHeld => ?_)
        clear hK K
        (try simp only [Zc])
        refine wpAnyH_ready (rs:=[7]) (by kernel_rfl) (by simp) (AllReadyH.cons rfl (fun K hK => ?_) AllReadyH.nil)
        go_simp
        refine HSS.out.mono ?_
        rintro e8 w8 ⟨rfl,hb8⟩
        (try go_wp2_with fail)
        have HB8:=hid (HB7.out.trans (hb8.mono HB7.out.size))
        clear hb8 hHeld
        refine hK.out _ _ (by exact HB8.out) (fun hHeld => ?_)
        clear hK K
        (try simp only [Zc])
        first
         | (refine wpAnyH_take (i:=8) rfl (by kernel_rfl) (by kernel_rfl) (by kernel_rfl) (fun _ _ _ h => h) (Or.inl ⟨by rfl,by intro w hSw;(go_simp <;> with_reducible rfl)⟩) (by assumption) ?_)
         | (refine wpAnyH_take (i:=8) rfl (by kernel_rfl) (by kernel_rfl) (by kernel_rfl) (fun _ _ _ h => h) (Or.inr ⟨by rfl,rfl⟩) (by assumption) ?_)
        (try simp only [Zc])
        first
         | (refine wpAnyH_take (i:=9) rfl (by kernel_rfl) (by kernel_rfl) (by kernel_rfl) (fun _ _ _ h => h) (Or.inl ⟨by rfl,by intro w hSw;(go_simp <;> with_reducible rfl)⟩) (by assumption) ?_)
         | (refine wpAnyH_take (i:=9) rfl (by kernel_rfl) (by kernel_rfl) (by kernel_rfl) (fun _ _ _ h => h) (Or.inr ⟨by rfl,rfl⟩) (by assumption) ?_)
        (try simp only [Zc])
        refine wpAnyH_done (by kernel_rfl) ?_ _
        clear hHeld
        have HBE:=hid (HBV6.out.trans (HB8.out.mono HBV6.out.size))
        have hwp:IntKind.i64.wrap ((p:Int) + 1) = (p:Int) + 1:=IntWalk.i64_in _ (by have:=HLP.out;have:=HLX.out.1;omega)
        clear x0 x1 x2 x3
        go_wp2_with fail
        go_roundw
        case rel => exact ⟨p + 1,by have:=HLP.out;omega,by go_num,HBE.out⟩
        case measure => simp [intOf];have:=HLP.out;omega
       ·have s1:¬ ((p:Int) < (c.parts.length:Int)):=by omega
        have hwi:IntKind.i64.wrap ((i:Int) + 1) = (i:Int) + 1:=IntWalk.i64_in _ (by have:=HLI.out;omega)
        clear hlt hp hbv
        go_wp2_with fail
        go_roundw
        case rel => exact ⟨i + 1,by have:=HLT.out;omega,by go_num,⟨_,_,_,_,HI.out.later HBV.out⟩,HLO.out.trans (HBV.out.mono (Nat.le_trans HN0.out.2 HLO.out.size))⟩
        case measure => simp [intOf];have:=HLT.out;omega
    by_cases h2:a.kind = 2
    ·rw [h2] at y0
     have hbX:=HA.out.bel.trans (HXB.out.mono HA.out.bel.size)
     have HXD:=hid (HAX.out.later (Below.refl _ _).drew)
     have HDV:=deliverM_b HXD.out.mat HWX.out HLX.out a.x.part
     rw [HXD.out.mb] at HDV
     have HDV:Calls Tryz.prog 17 #[.pointer (some ⟨mb,0,none⟩),.int .i64 a.x.part] X2.drew (GivesDv X2.drew own n0 c M Z a.x.part):=HDV
     obtain ⟨ds,hds⟩:∃ ds,dDel c past a.x.part = ds:=⟨_,rfl⟩
     unfold GivesDv at HDV
     rw [HA.out.sim.deliver a.x.part,hds] at HDV
     have HDV:=hid HDV
     have HDR:=fun (V:World) (hV:Below w.heap.size w V) (hP:PastAt V n0 (.slice Ap past.length kp) past) => deliver20_b c ⟨pa,pc,ca,cc,aa,ac,ba,bc⟩ Ap kp past a.x.part V (HX.out.later hV) HWX.out HLX.out (by obtain ⟨A',k',e1,h⟩:=OwnsOff.slice hP |> fun _ => PastAt.row hP HA.out.fine hV;injection e1 with e2 e3 e4;subst e2;exact h) (by have:=HA.out.len;have:=HLI.out;omega) (fun k hk => by have:=toOk HAC.out k hk;have:=HLX.out.1;omega)
     simp only [cfgCells,hds] at HDR
     have HDR:=hid HDR
     have HDL:=hid (show ds.length ≤ 1000000000 from by rw [← hds];have:=dDelN_len c past a.x.part c.chans.length;have:=HLX.out.2.1;show (dDelN c past a.x.part c.chans.length).length ≤ _;omega)
     have HLS:=hid (show w.heap.size < X2.heap.size ∧ wr.heap.size < X2.heap.size from ⟨by have:=HXV.out.lt;have:=HA.out.bel.size;omega,HXV.out.lt⟩)
     have HFQ:=hid (show own w.heap.size = .free ∧ own wr.heap.size = .free from ⟨HA.out.mat.low_free (by have:=HBWN.out;have:=HW1S.out;omega),HA.out.mat.free _ (Nat.le_refl _)⟩)
     obtain ⟨d0,d1,d2,d3,d4,d5⟩:=HBX.out X2 (HBW.out.trans (HLX2.out.mono HBWN.out))
     have p1:X2.cell? ⟨wr.heap.size,1,none⟩ = some (.int .i64 a.x.part):=HXV.out.call.part
     have HZ:=hid (fun (V:World) (hS:V.heap[w.heap.size]? = X2.heap[w.heap.size]? ∧ V.heap[wr.heap.size]? = X2.heap[wr.heap.size]?) => And.intro ((cell_same hS.1 0).trans d0) (And.intro ((cell_same hS.1 1).trans d1) (And.intro ((cell_same hS.1 2).trans d2) (And.intro ((cell_same hS.1 3).trans d3) (And.intro ((cell_same hS.1 4).trans d4) (And.intro ((cell_same hS.1 5).trans d5) ((cell_same hS.2 1).trans p1)))))))
     clear h0 h1 h2 hbX hds d0 d1 d2 d3 d4 d5 p1
     go_wp2_with (first | (rw [← HX1.out]) | (with_reducible refine wpList_store_mid (by kernel_rfl) _ _ _ rfl wr.heap.size 0 (aC a).toArray (by kernel_rfl) (by kernel_rfl) HTH.out (aC_infoA a) (aC_one a) ?_) | (rw [← HX2.out]) | (with_reducible refine wpList_loadA (by with_unfolding_all rfl) _ rfl _ _ _ (by with_unfolding_all rfl) HXR.out ?_))
     refine wp_region_held_drew (S:=(fun W' => W'.heap[w.heap.size]? = X2.heap[w.heap.size]? ∧ W'.heap[wr.heap.size]? = X2.heap[wr.heap.size]?)) (by kernel_rfl) (by exact ⟨rfl,rfl⟩) (fun hHeld => ?_)
     refine wpAnyH_take (i:=0) rfl (by kernel_rfl) (by kernel_rfl) (by kernel_rfl) (fun _ _ _ h => h) (Or.inl ⟨by rfl,by intro w hSw;(go_simp <;> with_reducible rfl)⟩) (by assumption) ?_
     (try simp only [Zc])
     refine wpAnyH_take (i:=1) rfl (by kernel_rfl) (by kernel_rfl) (by kernel_rfl) (fun _ _ _ h => h) (Or.inl ⟨by rfl,by intro w hSw;(go_simp <;> with_reducible rfl)⟩) (by assumption) ?_
     (try simp only [Zc])
     refine wpAnyH_take (i:=2) rfl (by kernel_rfl) (by kernel_rfl) (by kernel_rfl) (fun _ _ _ h => h) (Or.inl ⟨by rfl,by intro w hSw;(go_simp <;> with_reducible rfl)⟩) (by assumption) ?_
     (try simp only [Zc])
     refine Tk2 3 rfl ?_
     (try simp only [Zc])
     refine Tk2 5 rfl ?_
     (try simp only [Zc])
     refine wpAnyH_take (i:=6) rfl (by kernel_rfl) (by kernel_rfl) (by kernel_rfl) (fun _ _ _ h => h) (Or.inl ⟨by rfl,by intro w hSw;(go_simp <;> with_reducible rfl)⟩) (by assumption) ?_
     (try simp only [Zc])
     refine wpAnyH_take (i:=7) rfl (by kernel_rfl) (by kernel_rfl) (by kernel_rfl) (fun _ _ _ h => h) (Or.inl ⟨by rfl,by intro w hSw;(go_simp <;> with_reducible rfl)⟩) (by assumption) ?_
     (try simp only [Zc])
     refine wpAnyH_take (i:=8) rfl (by kernel_rfl) (by kernel_rfl) (by kernel_rfl) (fun _ _ _ h => h) (Or.inl ⟨by rfl,by intro w hSw;(go_simp <;> with_reducible rfl)⟩) (by assumption) ?_
     (try simp only [Zc])
     refine Tk2 9 rfl ?_
     (try simp only [Zc])
     refine wpAnyH_ready (rs:=[4]) (by kernel_rfl) (by simp) (AllReadyH.cons rfl (fun K hK => ?_) AllReadyH.nil)
     go_simp
     refine HDV.out.mono ?_
     rintro e5 w5 ⟨v5,rfl,hown5,hT5⟩
     (try go_wp2_with fail)
     obtain ⟨A5,k5,rfl,-,-⟩:=hown5.slice
     obtain ⟨own',Z',emb,hM5,hP5,hoff5,hlow5,hown5',honly5⟩:=HXD.out.turn hT5
     have HS5:=hid (And.intro (honly5.block w.heap.size HLS.out.1 (by rw [HFQ.out.1];exact fun h => h)) (honly5.block wr.heap.size HLS.out.2 (by rw [HFQ.out.2];exact fun h => h)))
     have HM5:=hid hM5;have HP5:=hid hP5;have HOFF5:=hid hoff5;have HEMB:=hid emb;have HLOW5:=hid hlow5
     have HW5:=hid hown5
     have HBW5:=hid (HXD.out.bel.trans (hlow5.mono HA.out.low))
     have HZ5:=hid honly5.size
     clear hT5 emb hM5 hP5 hoff5 hlow5 hown5' honly5 hown5 hHeld
     refine hK.out _ _ (by exact HS5.out) (fun hHeld => ?_)
     clear hK K
     (try simp only [Zc])
     refine wpAnyH_ready (rs:=[10]) (by kernel_rfl) (by simp) (AllReadyH.cons rfl (fun K hK => ?_) AllReadyH.nil)
     go_simp
     refine (HDR.out w5 HBW5.out HP5.out).mono ?_
     rintro e7 w7 ⟨v7,rfl,hown7,hb7⟩
     (try go_wp2_with fail)
     obtain ⟨A7,k7,rfl,-,-⟩:=hown7.slice
     have HB7:=hid hb7
     have HS7:=hid (And.intro ((hb7.block w.heap.size (Nat.lt_of_lt_of_le HLS.out.1 HZ5.out)).trans HS5.out.1) ((hb7.block wr.heap.size (Nat.lt_of_lt_of_le HLS.out.2 HZ5.out)).trans HS5.out.2))
     have HSM:=hid (same20_b ds ds A5 A7 k5 k7 w7 ((own_row8 HW5.out).later8 hb7) (own_row8 hown7) HDL.out)
     clear hb7 hown7 hHeld
     refine hK.out _ _ (by exact HS7.out) (fun hHeld => ?_)
     clear hK K
     (try simp only [Zc])
     refine wpAnyH_ready (rs:=[11]) (by kernel_rfl) (by simp) (AllReadyH.cons rfl (fun K hK => ?_) AllReadyH.nil)
     go_simp
     refine HSM.out.mono ?_
     rintro e8 w8 ⟨rfl,hb8⟩
     (try go_wp2_with fail)
     have HB8:=hid (HB7.out.trans (hb8.mono HB7.out.size))
     have HS8:=hid (And.intro ((hb8.block w.heap.size (Nat.lt_of_lt_of_le HLS.out.1 (Nat.le_trans HZ5.out HB7.out.size))).trans HS7.out.1) ((hb8.block wr.heap.size (Nat.lt_of_lt_of_le HLS.out.2 (Nat.le_trans HZ5.out HB7.out.size))).trans HS7.out.2))
     clear hb8 hHeld
     refine hK.out _ _ (by exact HS8.out) (fun hHeld => ?_)
     clear hK K
     (try simp only [Zc])
     refine wpAnyH_take (i:=12) rfl (by kernel_rfl) (by kernel_rfl) (by kernel_rfl) (fun _ _ _ h => h) (Or.inl ⟨by rfl,by intro w hSw;(go_simp <;> with_reducible rfl)⟩) (by assumption) ?_
     (try simp only [Zc])
     refine wpAnyH_done (by kernel_rfl) ?_ _
     clear hHeld
     have HM8:=hid (MAt.still HM5.out HB8.out).1
     have HP8:Hid (PastAt w8 n0 (.slice Ap past.length kp) past):=hid (OwnsOff.keptB HP5.out HB8.out)
     have HBW8:=hid (HBW5.out.trans (HB8.out.mono HBW5.out.size))
     have HLO8:=hid (((HLX2.out.trans ((Below.refl _ _).drew.mono (Nat.le_trans HN0.out.2 HLX2.out.size))).trans HLOW5.out).trans (HB8.out.mono (Nat.le_trans (Nat.le_trans HN0.out.2 HLX2.out.size) HZ5.out)))
     obtain ⟨z0,z1,z2,z3,z4,z5,hp8⟩:=HZ.out w8 HS8.out
     clear y0 z1 z2 z3 z4 z5
     have hdd:decide (ds = ds) = true:=by simp
     by_cases hr1:a.x.part ≥ 0
     ·by_cases hr2:a.x.part < (c.parts.length:Int)
      ·have hwq:IntKind.i64.wrap (a.x.part + 1) = a.x.part + 1:=IntWalk.i64_in _ (by have:=HLX.out.1;omega)
       have HBU:=hid (built_took (a.x.part + 1))
       have HPL:=hid (show past.length ≤ 1000 from by have:=HA.out.len;have:=HLI.out;omega)
       have HPR:=hid hr1
       have HSZ:=hid (show n0 ≤ w8.heap.size from (HM8.out).n0le)
       obtain ⟨iP,hiP,hzP,hsP,hbP⟩:=info_parts infoP26
       have hownP:=HP8.out
       go_wp2_with (first | (with_reducible refine wpList_builtY (by kernel_rfl) _ _ rfl _ _ HBU.out (by kernel_rfl) ?_) | (with_reducible refine wpList_sliceP (by kernel_rfl) _ rfl ((⟨zcv,0,none,0,0,false,0,0,a.x.part + 1⟩:Pv)) (by kernel_rfl) ?_) | (at_builtin;refine wpList_append_off _ rfl _ _ 35 rfl n0 51 iP (.agg #[.int .i64 0,.int .i64 0,.int .i64 0,.int .u64 0,.slice none 0 0,.int .i64 0,.slice none 0 0,.bool false,.int .i64 0,.bool false,.int .i64 0,.int .i64 0,.int .i64 0,.int .i64 0,.int .i64 0,.int .i64 0,.int .i64 0,.int .i64 0,.int .i64 0,.int .i64 0,.int .i64 0,.slice none 0 0,.bool false,.int .i64 0,.int .i64 0,.int .i64 0]) 26 256 Tryz.underlying35 hiP hzP hsP hbP rfl (by decide) _ _ _ rfl ((show OwnsOff _ _ _ _ _ _ _ from hownP).keptB ((Below.refl _ _).alloc (Nat.le_refl _) _)) ⟨w8.heap.size,0,none⟩ 1 1 (pC (⟨zcv,0,none,0,0,false,0,0,a.x.part + 1⟩:Pv)) rfl (by rw [pC_len]) (news_new _ _ _) (pC_one _) (by have:=HPL.out;unfold maxLen;omega) (by have:=HPL.out;omega) (by simp;have:=HSZ.out;omega) ?_))
       intro v' w9 hown' hgrow hfr
       obtain ⟨hM9,hoff9,hlow9⟩:=past_grown HM8.out (v':=v') (past':=past ++ [(⟨zcv,0,none,0,0,false,0,0,a.x.part + 1⟩:Pv)]) HP8.out HOFF5.out (by unfold PastAt;rw [List.length_append,psC_app,psC_one];exact hown') hgrow hfr
       obtain ⟨A9,k9,rfl,-,-⟩:=hown'.slice
       have HI:Hid (ActI w n0 c (i + 1) mb (.slice A9 (past.length + 1) k9) w9 own' (tick8 (take8 c M a.x.part)) Z' (past ++ [(⟨zcv,0,none,0,0,false,0,0,a.x.part + 1⟩:Pv)])):=hid
        ⟨HEMB.out,hM9,by unfold PastAt;rw [List.length_append,psC_app,psC_one];exact hown',hoff9,
        PFine.zero HA.out.fine _ rfl ⟨by show (0:Int) ≤ 0;omega,by show (0:Int) ≤ a.x.part + 1;have:=HPR.out;omega⟩,(HA.out.sim.take _ a.x.part rfl rfl (.inr rfl)).tick,
        by rw [List.length_append];exact Nat.succ_le_succ HA.out.len,by have:=HA.out.tk;show M.t + 1 ≤ i + 1;omega,
        HBW8.out.trans (hlow9.mono HA.out.low),HA.out.low⟩
       have HLO:=hid (HLO8.out.trans hlow9)
       clear hown' hgrow hfr hM9 hoff9 hlow9
       clear hownP hwq hr1 hr2 hp8 z0
       obtain ⟨d0,d1,d2,d3,d4,d5⟩:=HBX.out w9 (HBW.out.trans (HLO.out.mono HBWN.out))
       go_wp2_with fail
       clear d0 d1 d2 d3 d4 d5
       obtain ⟨wo,rfl⟩:∃ wo,wo = w9:=⟨_,rfl⟩
       go_loopw [117] (fun ix wv => ∃ p:Nat,p ≤ c.parts.length ∧ ix = .int .i64 p ∧ Below wo.heap.size wo wv) (fun ix _ => c.parts.length - (intOf ix).toNat)
       case atStart => exact ⟨0,Nat.zero_le _,rfl,Below.refl _ _⟩
       case round =>
        obtain ⟨p,hp,rfl,hbv⟩:=hrel
        have HBV:=hid hbv
        by_cases hlt:p < c.parts.length
        ·have s1:(p:Int) < (c.parts.length:Int):=by omega
         have hIV:=HI.out.later hbv
         have HSG:=standing_b hIV.mat (by have:=hIV.tk;have:=HLI.out;omega) p hlt
         rw [hIV.mb] at HSG
         have HSG:=hid HSG
         obtain ⟨Aq,kq,hpv,hvr⟩:=hIV.pst.row hIV.fine hIV.bel
         injection hpv with hq1 hq2 hq3
         subst hq1 hq3
         have HSI:=hIV.sim.st (p:Int)
         obtain ⟨s,hs⟩:∃ s,st8 (tick8 (take8 c M a.x.part)) (p:Int) = s:=⟨_,rfl⟩
         rw [hs] at HSG HSI
         have HRS:=fun (V:World) (hV:Below wr.heap.size wr V) => standing20_b _ k9 _ (p:Int) V (hvr.later hV) hIV.fine.non (by have:=hIV.len;have:=HLI.out;omega)
         simp only [HSI] at HRS
         simp only [show (past ++ [(⟨zcv,0,none,0,0,false,0,0,a.x.part + 1⟩:Pv)]).length = past.length + 1 from by simp] at HRS
         clear hq2
         have HRS:=hid HRS
         have HSL:=hid (show s.made.length ≤ 1000000 ∧ s.valid.length ≤ 1000000 from by
          have h1:=dSt_len (p:Int) (past ++ [(⟨zcv,0,none,0,0,false,0,0,a.x.part + 1⟩:Pv)]) (past ++ [(⟨zcv,0,none,0,0,false,0,0,a.x.part + 1⟩:Pv)]).length
          rw [List.take_length,HSI] at h1
          have:=hIV.len;have:=HLI.out
          omega)
         have HLP:=hid hlt
         clear hIV hvr HSI hs hbv hlt hp
         go_wp2_with fail
         refine HSG.out.mono ?_
         rintro e5 w5 ⟨A1,k1,A2,k2,rfl,hm5,hv5,hb5⟩
         obtain ⟨W6,HW6,hB6,hs6,x6⟩:=box_new w5 #[.int .i64 (p:Int),.bool s.sn,.slice A1 s.made.length k1,.slice A2 s.valid.length k2] 59
         obtain ⟨xb,hxb⟩:∃ k,k = w5.heap.size:=⟨_,rfl⟩
         have hX6:=x6 W6 (Below.refl _ _)
         rw [← hxb] at hX6
         have EX:=hid hxb
         have x0:W6.cell? ⟨xb,0,none⟩ = some (.int .i64 (p:Int)):=blk_at hX6 (i:=0) rfl
         have x1:W6.cell? ⟨xb,1,none⟩ = some (.bool s.sn):=blk_at hX6 (i:=1) rfl
         have x2:W6.cell? ⟨xb,2,none⟩ = some (.slice A1 s.made.length k1):=blk_at hX6 (i:=2) rfl
         have x3:W6.cell? ⟨xb,3,none⟩ = some (.slice A2 s.valid.length k2):=blk_at hX6 (i:=3) rfl
         have HXL:=hid (Array.getElem?_eq_some_iff.1 hX6).1
         have HM6:=hid ((hm5.below hB6).more hB6.size)
         have HV6:=hid ((hv5.below hB6).more hB6.size)
         have HB6:=hid (hb5.trans (hB6.mono hb5.size))
         have HBV6:=hid (HBV.out.trans (HB6.out.mono HBV.out.size))
         clear hm5 hv5 hb5 hB6 hs6 x6 hxb hX6
         go_wp2_with (rw [← HW6.out];(try simp only [← EX.out]))
         refine wp_region_held_drew (S:=(fun W' => Below W6.heap.size W6 W')) (by kernel_rfl) (by exact (Below.refl _ _).drew) (fun hHeld => ?_)
         first
          | (refine wpAnyH_take (i:=0) rfl (by kernel_rfl) (by kernel_rfl) (by kernel_rfl) (fun _ _ _ h => h) (Or.inl ⟨by rfl,by intro w hSw;(go_simp <;> with_reducible rfl)⟩) (by assumption) ?_)
          | (refine wpAnyH_take (i:=0) rfl (by kernel_rfl) (by kernel_rfl) (by kernel_rfl) (fun _ _ _ h => h) (Or.inr ⟨by rfl,rfl⟩) (by assumption) ?_)
         (try simp only [Zc])
         first
          | (refine wpAnyH_take (i:=1) rfl (by kernel_rfl) (by kernel_rfl) (by kernel_rfl) (fun _ _ _ h => h) (Or.inl ⟨by rfl,by intro w hSw;(go_simp <;> with_reducible rfl)⟩) (by assumption) ?_)
          | (refine wpAnyH_take (i:=1) rfl (by kernel_rfl) (by kernel_rfl) (by kernel_rfl) (fun _ _ _ h => h) (Or.inr ⟨by rfl,rfl⟩) (by assumption) ?_)
         (try simp only [Zc])
         first
          | (refine wpAnyH_take (i:=2) rfl (by kernel_rfl) (by kernel_rfl) (by kernel_rfl) (fun _ _ _ h => h) (Or.inl ⟨by rfl,by intro w hSw;(go_simp <;> with_reducible rfl)⟩) (by assumption) ?_)
          | (refine wpAnyH_take (i:=2) rfl (by kernel_rfl) (by kernel_rfl) (by kernel_rfl) (fun _ _ _ h => h) (Or.inr ⟨by rfl,rfl⟩) (by assumption) ?_)
         (try simp only [Zc])
         first
          | (refine Tk0 3 rfl ?_)
          | (refine wpAnyH_take (i:=3) rfl (by kernel_rfl) (by kernel_rfl) (by kernel_rfl) (fun _ _ _ h => h) (Or.inr ⟨by rfl,rfl⟩) (by assumption) ?_)
         (try simp only [Zc])
         first
          | (refine wpAnyH_take (i:=4) rfl (by kernel_rfl) (by kernel_rfl) (by kernel_rfl) (fun _ _ _ h => h) (Or.inl ⟨by rfl,by intro w hSw;(go_simp <;> with_reducible rfl)⟩) (by assumption) ?_)
          | (refine wpAnyH_take (i:=4) rfl (by kernel_rfl) (by kernel_rfl) (by kernel_rfl) (fun _ _ _ h => h) (Or.inr ⟨by rfl,rfl⟩) (by assumption) ?_)
         (try simp only [Zc])
         first
          | (refine wpAnyH_take (i:=5) rfl (by kernel_rfl) (by kernel_rfl) (by kernel_rfl) (fun _ _ _ h => h) (Or.inl ⟨by rfl,by intro w hSw;(go_simp <;> with_reducible rfl)⟩) (by assumption) ?_)
          | (refine wpAnyH_take (i:=5) rfl (by kernel_rfl) (by kernel_rfl) (by kernel_rfl) (fun _ _ _ h => h) (Or.inr ⟨by rfl,rfl⟩) (by assumption) ?_)
         (try simp only [Zc])
         refine wpAnyH_ready (rs:=[6]) (by kernel_rfl) (by simp) (AllReadyH.cons rfl (fun K hK => ?_) AllReadyH.nil)
         go_simp
         refine (HRS.out W6.drew (HB6.out.trans ((Below.refl _ _).drew.mono HB6.out.size))).mono ?_
         rintro e7 w7 ⟨A3,k3,A4,k4,rfl,hm7,hv7,hb7o⟩
         (try go_wp2_with fail)
         have hb7:=(Below.refl W6.heap.size W6).drew.trans hb7o
         have HB7:=hid hb7
         have HSS:=hid (sameStand_eq (p:Int) s.sn s.made s.valid A1 A3 A2 A4 k1 k3 k2 k4 w7 ((HM6.out.below hb7).more hb7.size) hm7 ((HV6.out.below hb7).more hb7.size) hv7 HSL.out.1 HSL.out.2)
         clear hm7 hv7 hb7 hb7o hHeld
         refine hK.out _ _ (by exact HB7.out) (fun hHeld => ?_)
         clear hK K
         (try simp only [Zc])
         refine wpAnyH_ready (rs:=[7]) (by kernel_rfl) (by simp) (AllReadyH.cons rfl (fun K hK => ?_) AllReadyH.nil)
         go_simp
         refine HSS.out.mono ?_
         rintro e8 w8 ⟨rfl,hb8⟩
         (try go_wp2_with fail)
         have HB8:=hid (HB7.out.trans (hb8.mono HB7.out.size))
         clear hb8 hHeld
         refine hK.out _ _ (by exact HB8.out) (fun hHeld => ?_)
         clear hK K
         (try simp only [Zc])
         first
          | (refine wpAnyH_take (i:=8) rfl (by kernel_rfl) (by kernel_rfl) (by kernel_rfl) (fun _ _ _ h => h) (Or.inl ⟨by rfl,by intro w hSw;(go_simp <;> with_reducible rfl)⟩) (by assumption) ?_)
          | (refine wpAnyH_take (i:=8) rfl (by kernel_rfl) (by kernel_rfl) (by kernel_rfl) (fun _ _ _ h => h) (Or.inr ⟨by rfl,rfl⟩) (by assumption) ?_)
         (try simp only [Zc])
         first
          | (refine wpAnyH_take (i:=9) rfl (by kernel_rfl) (by kernel_rfl) (by kernel_rfl) (fun _ _ _ h => h) (Or.inl ⟨by rfl,by intro w hSw;(go_simp <;> with_reducible rfl)⟩) (by assumption) ?_)
          | (refine wpAnyH_take (i:=9) rfl (by kernel_rfl) (by kernel_rfl) (by kernel_rfl) (fun _ _ _ h => h) (Or.inr ⟨by rfl,rfl⟩) (by assumption) ?_)
         (try simp only [Zc])
         refine wpAnyH_done (by kernel_rfl) ?_ _
         clear hHeld
         have HBE:=hid (HBV6.out.trans (HB8.out.mono HBV6.out.size))
         have hwp:IntKind.i64.wrap ((p:Int) + 1) = (p:Int) + 1:=IntWalk.i64_in _ (by have:=HLP.out;have:=HLX.out.1;omega)
         clear x0 x1 x2 x3
         go_wp2_with fail
         go_roundw
         case rel => exact ⟨p + 1,by have:=HLP.out;omega,by go_num,HBE.out⟩
         case measure => simp [intOf];have:=HLP.out;omega
        ·have s1:¬ ((p:Int) < (c.parts.length:Int)):=by omega
         have hwi:IntKind.i64.wrap ((i:Int) + 1) = (i:Int) + 1:=IntWalk.i64_in _ (by have:=HLI.out;omega)
         clear hlt hp hbv
         go_wp2_with fail
         go_roundw
         case rel => exact ⟨i + 1,by have:=HLT.out;omega,by go_num,⟨_,_,_,_,HI.out.later HBV.out⟩,HLO.out.trans (HBV.out.mono (Nat.le_trans HN0.out.2 HLO.out.size))⟩
         case measure => simp [intOf];have:=HLT.out;omega
      ·have HI:Hid (ActI w n0 c (i + 1) mb (.slice Ap past.length kp) w8 own' (tick8 (take8 c M a.x.part)) Z' past):=hid ⟨HEMB.out,HM8.out,HP8.out,HOFF5.out,HA.out.fine,by rw [take8_out (fun k hk e => by have:=toOk HAC.out k hk;omega)];exact HA.out.sim.tick,Nat.le_succ_of_le HA.out.len,by have:=HA.out.tk;show M.t + 1 ≤ i + 1;omega,HBW8.out,HA.out.low⟩
       have HLO:=HLO8
       obtain ⟨d0,d1,d2,d3,d4,d5⟩:=HBX.out w8 (HBW.out.trans (HLO.out.mono HBWN.out))
       go_wp2_with fail
       clear d0 d1 d2 d3 d4 d5 hp8
       obtain ⟨wo,rfl⟩:∃ wo,wo = w8:=⟨_,rfl⟩
       go_loopw [117] (fun ix wv => ∃ p:Nat,p ≤ c.parts.length ∧ ix = .int .i64 p ∧ Below wo.heap.size wo wv) (fun ix _ => c.parts.length - (intOf ix).toNat)
       case atStart => exact ⟨0,Nat.zero_le _,rfl,Below.refl _ _⟩
       case round =>
        obtain ⟨p,hp,rfl,hbv⟩:=hrel
        have HBV:=hid hbv
        by_cases hlt:p < c.parts.length
        ·have s1:(p:Int) < (c.parts.length:Int):=by omega
         have hIV:=HI.out.later hbv
         have HSG:=standing_b hIV.mat (by have:=hIV.tk;have:=HLI.out;omega) p hlt
         rw [hIV.mb] at HSG
         have HSG:=hid HSG
         obtain ⟨Aq,kq,hpv,hvr⟩:=hIV.pst.row hIV.fine hIV.bel
         injection hpv with hq1 hq2 hq3
         subst hq1 hq3
         have HSI:=hIV.sim.st (p:Int)
         obtain ⟨s,hs⟩:∃ s,st8 (tick8 (take8 c M a.x.part)) (p:Int) = s:=⟨_,rfl⟩
         rw [hs] at HSG HSI
         have HRS:=fun (V:World) (hV:Below wr.heap.size wr V) => standing20_b _ kp _ (p:Int) V (hvr.later hV) hIV.fine.non (by have:=hIV.len;have:=HLI.out;omega)
         simp only [HSI] at HRS
         skip
         have HRS:=hid HRS
         have HSL:=hid (show s.made.length ≤ 1000000 ∧ s.valid.length ≤ 1000000 from by
          have h1:=dSt_len (p:Int) (past) (past).length
          rw [List.take_length,HSI] at h1
          have:=hIV.len;have:=HLI.out
          omega)
         have HLP:=hid hlt
         clear hIV hvr HSI hs hbv hlt hp
         go_wp2_with fail
         refine HSG.out.mono ?_
         rintro e5 w5 ⟨A1,k1,A2,k2,rfl,hm5,hv5,hb5⟩
         obtain ⟨W6,HW6,hB6,hs6,x6⟩:=box_new w5 #[.int .i64 (p:Int),.bool s.sn,.slice A1 s.made.length k1,.slice A2 s.valid.length k2] 59
         obtain ⟨xb,hxb⟩:∃ k,k = w5.heap.size:=⟨_,rfl⟩
         have hX6:=x6 W6 (Below.refl _ _)
         rw [← hxb] at hX6
         have EX:=hid hxb
         have x0:W6.cell? ⟨xb,0,none⟩ = some (.int .i64 (p:Int)):=blk_at hX6 (i:=0) rfl
         have x1:W6.cell? ⟨xb,1,none⟩ = some (.bool s.sn):=blk_at hX6 (i:=1) rfl
         have x2:W6.cell? ⟨xb,2,none⟩ = some (.slice A1 s.made.length k1):=blk_at hX6 (i:=2) rfl
         have x3:W6.cell? ⟨xb,3,none⟩ = some (.slice A2 s.valid.length k2):=blk_at hX6 (i:=3) rfl
         have HXL:=hid (Array.getElem?_eq_some_iff.1 hX6).1
         have HM6:=hid ((hm5.below hB6).more hB6.size)
         have HV6:=hid ((hv5.below hB6).more hB6.size)
         have HB6:=hid (hb5.trans (hB6.mono hb5.size))
         have HBV6:=hid (HBV.out.trans (HB6.out.mono HBV.out.size))
         clear hm5 hv5 hb5 hB6 hs6 x6 hxb hX6
         go_wp2_with (rw [← HW6.out];(try simp only [← EX.out]))
         refine wp_region_held_drew (S:=(fun W' => Below W6.heap.size W6 W')) (by kernel_rfl) (by exact (Below.refl _ _).drew) (fun hHeld => ?_)
         first
          | (refine wpAnyH_take (i:=0) rfl (by kernel_rfl) (by kernel_rfl) (by kernel_rfl) (fun _ _ _ h => h) (Or.inl ⟨by rfl,by intro w hSw;(go_simp <;> with_reducible rfl)⟩) (by assumption) ?_)
          | (refine wpAnyH_take (i:=0) rfl (by kernel_rfl) (by kernel_rfl) (by kernel_rfl) (fun _ _ _ h => h) (Or.inr ⟨by rfl,rfl⟩) (by assumption) ?_)
         (try simp only [Zc])
         first
          | (refine wpAnyH_take (i:=1) rfl (by kernel_rfl) (by kernel_rfl) (by kernel_rfl) (fun _ _ _ h => h) (Or.inl ⟨by rfl,by intro w hSw;(go_simp <;> with_reducible rfl)⟩) (by assumption) ?_)
          | (refine wpAnyH_take (i:=1) rfl (by kernel_rfl) (by kernel_rfl) (by kernel_rfl) (fun _ _ _ h => h) (Or.inr ⟨by rfl,rfl⟩) (by assumption) ?_)
         (try simp only [Zc])
         first
          | (refine wpAnyH_take (i:=2) rfl (by kernel_rfl) (by kernel_rfl) (by kernel_rfl) (fun _ _ _ h => h) (Or.inl ⟨by rfl,by intro w hSw;(go_simp <;> with_reducible rfl)⟩) (by assumption) ?_)
          | (refine wpAnyH_take (i:=2) rfl (by kernel_rfl) (by kernel_rfl) (by kernel_rfl) (fun _ _ _ h => h) (Or.inr ⟨by rfl,rfl⟩) (by assumption) ?_)
         (try simp only [Zc])
         first
          | (refine Tk0 3 rfl ?_)
          | (refine wpAnyH_take (i:=3) rfl (by kernel_rfl) (by kernel_rfl) (by kernel_rfl) (fun _ _ _ h => h) (Or.inr ⟨by rfl,rfl⟩) (by assumption) ?_)
         (try simp only [Zc])
         first
          | (refine wpAnyH_take (i:=4) rfl (by kernel_rfl) (by kernel_rfl) (by kernel_rfl) (fun _ _ _ h => h) (Or.inl ⟨by rfl,by intro w hSw;(go_simp <;> with_reducible rfl)⟩) (by assumption) ?_)
          | (refine wpAnyH_take (i:=4) rfl (by kernel_rfl) (by kernel_rfl) (by kernel_rfl) (fun _ _ _ h => h) (Or.inr ⟨by rfl,rfl⟩) (by assumption) ?_)
         (try simp only [Zc])
         first
          | (refine wpAnyH_take (i:=5) rfl (by kernel_rfl) (by kernel_rfl) (by kernel_rfl) (fun _ _ _ h => h) (Or.inl ⟨by rfl,by intro w hSw;(go_simp <;> with_reducible rfl)⟩) (by assumption) ?_)
          | (refine wpAnyH_take (i:=5) rfl (by kernel_rfl) (by kernel_rfl) (by kernel_rfl) (fun _ _ _ h => h) (Or.inr ⟨by rfl,rfl⟩) (by assumption) ?_)
         (try simp only [Zc])
         refine wpAnyH_ready (rs:=[6]) (by kernel_rfl) (by simp) (AllReadyH.cons rfl (fun K hK => ?_) AllReadyH.nil)
         go_simp
         refine (HRS.out W6.drew (HB6.out.trans ((Below.refl _ _).drew.mono HB6.out.size))).mono ?_
         rintro e7 w7 ⟨A3,k3,A4,k4,rfl,hm7,hv7,hb7o⟩
         (try go_wp2_with fail)
         have hb7:=(Below.refl W6.heap.size W6).drew.trans hb7o
         have HB7:=hid hb7
         have HSS:=hid (sameStand_eq (p:Int) s.sn s.made s.valid A1 A3 A2 A4 k1 k3 k2 k4 w7 ((HM6.out.below hb7).more hb7.size) hm7 ((HV6.out.below hb7).more hb7.size) hv7 HSL.out.1 HSL.out.2)
         clear hm7 hv7 hb7 hb7o hHeld
         refine hK.out _ _ (by exact HB7.out) (fun hHeld => ?_)
         clear hK K
         (try simp only [Zc])
         refine wpAnyH_ready (rs:=[7]) (by kernel_rfl) (by simp) (AllReadyH.cons rfl (fun K hK => ?_) AllReadyH.nil)
         go_simp
         refine HSS.out.mono ?_
         rintro e8 w8 ⟨rfl,hb8⟩
         (try go_wp2_with fail)
         have HB8:=hid (HB7.out.trans (hb8.mono HB7.out.size))
         clear hb8 hHeld
         refine hK.out _ _ (by exact HB8.out) (fun hHeld => ?_)
         clear hK K
         (try simp only [Zc])
         first
          | (refine wpAnyH_take (i:=8) rfl (by kernel_rfl) (by kernel_rfl) (by kernel_rfl) (fun _ _ _ h => h) (Or.inl ⟨by rfl,by intro w hSw;(go_simp <;> with_reducible rfl)⟩) (by assumption) ?_)
          | (refine wpAnyH_take (i:=8) rfl (by kernel_rfl) (by kernel_rfl) (by kernel_rfl) (fun _ _ _ h => h) (Or.inr ⟨by rfl,rfl⟩) (by assumption) ?_)
         (try simp only [Zc])
         first
          | (refine wpAnyH_take (i:=9) rfl (by kernel_rfl) (by kernel_rfl) (by kernel_rfl) (fun _ _ _ h => h) (Or.inl ⟨by rfl,by intro w hSw;(go_simp <;> with_reducible rfl)⟩) (by assumption) ?_)
          | (refine wpAnyH_take (i:=9) rfl (by kernel_rfl) (by kernel_rfl) (by kernel_rfl) (fun _ _ _ h => h) (Or.inr ⟨by rfl,rfl⟩) (by assumption) ?_)
         (try simp only [Zc])
         refine wpAnyH_done (by kernel_rfl) ?_ _
         clear hHeld
         have HBE:=hid (HBV6.out.trans (HB8.out.mono HBV6.out.size))
         have hwp:IntKind.i64.wrap ((p:Int) + 1) = (p:Int) + 1:=IntWalk.i64_in _ (by have:=HLP.out;have:=HLX.out.1;omega)
         clear x0 x1 x2 x3
         go_wp2_with fail
         go_roundw
         case rel => exact ⟨p + 1,by have:=HLP.out;omega,by go_num,HBE.out⟩
         case measure => simp [intOf];have:=HLP.out;omega
        ·have s1:¬ ((p:Int) < (c.parts.length:Int)):=by omega
         have hwi:IntKind.i64.wrap ((i:Int) + 1) = (i:Int) + 1:=IntWalk.i64_in _ (by have:=HLI.out;omega)
         clear hlt hp hbv
         go_wp2_with fail
         go_roundw
         case rel => exact ⟨i + 1,by have:=HLT.out;omega,by go_num,⟨_,_,_,_,HI.out.later HBV.out⟩,HLO.out.trans (HBV.out.mono (Nat.le_trans HN0.out.2 HLO.out.size))⟩
         case measure => simp [intOf];have:=HLT.out;omega
     ·have HI:Hid (ActI w n0 c (i + 1) mb (.slice Ap past.length kp) w8 own' (tick8 (take8 c M a.x.part)) Z' past):=hid ⟨HEMB.out,HM8.out,HP8.out,HOFF5.out,HA.out.fine,by rw [take8_out (fun k hk e => by have:=toOk HAC.out k hk;omega)];exact HA.out.sim.tick,Nat.le_succ_of_le HA.out.len,by have:=HA.out.tk;show M.t + 1 ≤ i + 1;omega,HBW8.out,HA.out.low⟩
      have HLO:=HLO8
      obtain ⟨d0,d1,d2,d3,d4,d5⟩:=HBX.out w8 (HBW.out.trans (HLO.out.mono HBWN.out))
      go_wp2_with fail
      clear d0 d1 d2 d3 d4 d5 hp8
      obtain ⟨wo,rfl⟩:∃ wo,wo = w8:=⟨_,rfl⟩
      go_loopw [117] (fun ix wv => ∃ p:Nat,p ≤ c.parts.length ∧ ix = .int .i64 p ∧ Below wo.heap.size wo wv) (fun ix _ => c.parts.length - (intOf ix).toNat)
      case atStart => exact ⟨0,Nat.zero_le _,rfl,Below.refl _ _⟩
      case round =>
       obtain ⟨p,hp,rfl,hbv⟩:=hrel
       have HBV:=hid hbv
       by_cases hlt:p < c.parts.length
       ·have s1:(p:Int) < (c.parts.length:Int):=by omega
        have hIV:=HI.out.later hbv
        have HSG:=standing_b hIV.mat (by have:=hIV.tk;have:=HLI.out;omega) p hlt
        rw [hIV.mb] at HSG
        have HSG:=hid HSG
        obtain ⟨Aq,kq,hpv,hvr⟩:=hIV.pst.row hIV.fine hIV.bel
        injection hpv with hq1 hq2 hq3
        subst hq1 hq3
        have HSI:=hIV.sim.st (p:Int)
        obtain ⟨s,hs⟩:∃ s,st8 (tick8 (take8 c M a.x.part)) (p:Int) = s:=⟨_,rfl⟩
        rw [hs] at HSG HSI
        have HRS:=fun (V:World) (hV:Below wr.heap.size wr V) => standing20_b _ kp _ (p:Int) V (hvr.later hV) hIV.fine.non (by have:=hIV.len;have:=HLI.out;omega)
        simp only [HSI] at HRS
        skip
        have HRS:=hid HRS
        have HSL:=hid (show s.made.length ≤ 1000000 ∧ s.valid.length ≤ 1000000 from by
         have h1:=dSt_len (p:Int) (past) (past).length
         rw [List.take_length,HSI] at h1
         have:=hIV.len;have:=HLI.out
         omega)
        have HLP:=hid hlt
        clear hIV hvr HSI hs hbv hlt hp
        go_wp2_with fail
        refine HSG.out.mono ?_
        rintro e5 w5 ⟨A1,k1,A2,k2,rfl,hm5,hv5,hb5⟩
        obtain ⟨W6,HW6,hB6,hs6,x6⟩:=box_new w5 #[.int .i64 (p:Int),.bool s.sn,.slice A1 s.made.length k1,.slice A2 s.valid.length k2] 59
        obtain ⟨xb,hxb⟩:∃ k,k = w5.heap.size:=⟨_,rfl⟩
        have hX6:=x6 W6 (Below.refl _ _)
        rw [← hxb] at hX6
        have EX:=hid hxb
        have x0:W6.cell? ⟨xb,0,none⟩ = some (.int .i64 (p:Int)):=blk_at hX6 (i:=0) rfl
        have x1:W6.cell? ⟨xb,1,none⟩ = some (.bool s.sn):=blk_at hX6 (i:=1) rfl
        have x2:W6.cell? ⟨xb,2,none⟩ = some (.slice A1 s.made.length k1):=blk_at hX6 (i:=2) rfl
        have x3:W6.cell? ⟨xb,3,none⟩ = some (.slice A2 s.valid.length k2):=blk_at hX6 (i:=3) rfl
        have HXL:=hid (Array.getElem?_eq_some_iff.1 hX6).1
        have HM6:=hid ((hm5.below hB6).more hB6.size)
        have HV6:=hid ((hv5.below hB6).more hB6.size)
        have HB6:=hid (hb5.trans (hB6.mono hb5.size))
        have HBV6:=hid (HBV.out.trans (HB6.out.mono HBV.out.size))
        clear hm5 hv5 hb5 hB6 hs6 x6 hxb hX6
        go_wp2_with (rw [← HW6.out];(try simp only [← EX.out]))
        refine wp_region_held_drew (S:=(fun W' => Below W6.heap.size W6 W')) (by kernel_rfl) (by exact (Below.refl _ _).drew) (fun hHeld => ?_)
        first
         | (refine wpAnyH_take (i:=0) rfl (by kernel_rfl) (by kernel_rfl) (by kernel_rfl) (fun _ _ _ h => h) (Or.inl ⟨by rfl,by intro w hSw;(go_simp <;> with_reducible rfl)⟩) (by assumption) ?_)
         | (refine wpAnyH_take (i:=0) rfl (by kernel_rfl) (by kernel_rfl) (by kernel_rfl) (fun _ _ _ h => h) (Or.inr ⟨by rfl,rfl⟩) (by assumption) ?_)
        (try simp only [Zc])
        first
         | (refine wpAnyH_take (i:=1) rfl (by kernel_rfl) (by kernel_rfl) (by kernel_rfl) (fun _ _ _ h => h) (Or.inl ⟨by rfl,by intro w hSw;(go_simp <;> with_reducible rfl)⟩) (by assumption) ?_)
         | (refine wpAnyH_take (i:=1) rfl (by kernel_rfl) (by kernel_rfl) (by kernel_rfl) (fun _ _ _ h => h) (Or.inr ⟨by rfl,rfl⟩) (by assumption) ?_)
        (try simp only [Zc])
        first
         | (refine wpAnyH_take (i:=2) rfl (by kernel_rfl) (by kernel_rfl) (by kernel_rfl) (fun _ _ _ h => h) (Or.inl ⟨by rfl,by intro w hSw;(go_simp <;> with_reducible rfl)⟩) (by assumption) ?_)
         | (refine wpAnyH_take (i:=2) rfl (by kernel_rfl) (by kernel_rfl) (by kernel_rfl) (fun _ _ _ h => h) (Or.inr ⟨by rfl,rfl⟩) (by assumption) ?_)
        (try simp only [Zc])
        first
         | (refine Tk0 3 rfl ?_)
         | (refine wpAnyH_take (i:=3) rfl (by kernel_rfl) (by kernel_rfl) (by kernel_rfl) (fun _ _ _ h => h) (Or.inr ⟨by rfl,rfl⟩) (by assumption) ?_)
        (try simp only [Zc])
        first
         | (refine wpAnyH_take (i:=4) rfl (by kernel_rfl) (by kernel_rfl) (by kernel_rfl) (fun _ _ _ h => h) (Or.inl ⟨by rfl,by intro w hSw;(go_simp <;> with_reducible rfl)⟩) (by assumption) ?_)
         | (refine wpAnyH_take (i:=4) rfl (by kernel_rfl) (by kernel_rfl) (by kernel_rfl) (fun _ _ _ h => h) (Or.inr ⟨by rfl,rfl⟩) (by assumption) ?_)
        (try simp only [Zc])
        first
         | (refine wpAnyH_take (i:=5) rfl (by kernel_rfl) (by kernel_rfl) (by kernel_rfl) (fun _ _ _ h => h) (Or.inl ⟨by rfl,by intro w hSw;(go_simp <;> with_reducible rfl)⟩) (by assumption) ?_)
         | (refine wpAnyH_take (i:=5) rfl (by kernel_rfl) (by kernel_rfl) (by kernel_rfl) (fun _ _ _ h => h) (Or.inr ⟨by rfl,rfl⟩) (by assumption) ?_)
        (try simp only [Zc])
        refine wpAnyH_ready (rs:=[6]) (by kernel_rfl) (by simp) (AllReadyH.cons rfl (fun K hK => ?_) AllReadyH.nil)
        go_simp
        refine (HRS.out W6.drew (HB6.out.trans ((Below.refl _ _).drew.mono HB6.out.size))).mono ?_
        rintro e7 w7 ⟨A3,k3,A4,k4,rfl,hm7,hv7,hb7o⟩
        (try go_wp2_with fail)
        have hb7:=(Below.refl W6.heap.size W6).drew.trans hb7o
        have HB7:=hid hb7
        have HSS:=hid (sameStand_eq (p:Int) s.sn s.made s.valid A1 A3 A2 A4 k1 k3 k2 k4 w7 ((HM6.out.below hb7).more hb7.size) hm7 ((HV6.out.below hb7).more hb7.size) hv7 HSL.out.1 HSL.out.2)
        clear hm7 hv7 hb7 hb7o hHeld
        refine hK.out _ _ (by exact HB7.out) (fun hHeld => ?_)
        clear hK K
        (try simp only [Zc])
        refine wpAnyH_ready (rs:=[7]) (by kernel_rfl) (by simp) (AllReadyH.cons rfl (fun K hK => ?_) AllReadyH.nil)
        go_simp
        refine HSS.out.mono ?_
        rintro e8 w8 ⟨rfl,hb8⟩
        (try go_wp2_with fail)
        have HB8:=hid (HB7.out.trans (hb8.mono HB7.out.size))
        clear hb8 hHeld
        refine hK.out _ _ (by exact HB8.out) (fun hHeld => ?_)
        clear hK K
        (try simp only [Zc])
        first
         | (refine wpAnyH_take (i:=8) rfl (by kernel_rfl) (by kernel_rfl) (by kernel_rfl) (fun _ _ _ h => h) (Or.inl ⟨by rfl,by intro w hSw;(go_simp <;> with_reducible rfl)⟩) (by assumption) ?_)
         | (refine wpAnyH_take (i:=8) rfl (by kernel_rfl) (by kernel_rfl) (by kernel_rfl) (fun _ _ _ h => h) (Or.inr ⟨by rfl,rfl⟩) (by assumption) ?_)
        (try simp only [Zc])
        first
         | (refine wpAnyH_take (i:=9) rfl (by kernel_rfl) (by kernel_rfl) (by kernel_rfl) (fun _ _ _ h => h) (Or.inl ⟨by rfl,by intro w hSw;(go_simp <;> with_reducible rfl)⟩) (by assumption) ?_)
         | (refine wpAnyH_take (i:=9) rfl (by kernel_rfl) (by kernel_rfl) (by kernel_rfl) (fun _ _ _ h => h) (Or.inr ⟨by rfl,rfl⟩) (by assumption) ?_)
        (try simp only [Zc])
        refine wpAnyH_done (by kernel_rfl) ?_ _
        clear hHeld
        have HBE:=hid (HBV6.out.trans (HB8.out.mono HBV6.out.size))
        have hwp:IntKind.i64.wrap ((p:Int) + 1) = (p:Int) + 1:=IntWalk.i64_in _ (by have:=HLP.out;have:=HLX.out.1;omega)
        clear x0 x1 x2 x3
        go_wp2_with fail
        go_roundw
        case rel => exact ⟨p + 1,by have:=HLP.out;omega,by go_num,HBE.out⟩
        case measure => simp [intOf];have:=HLP.out;omega
       ·have s1:¬ ((p:Int) < (c.parts.length:Int)):=by omega
        have hwi:IntKind.i64.wrap ((i:Int) + 1) = (i:Int) + 1:=IntWalk.i64_in _ (by have:=HLI.out;omega)
        clear hlt hp hbv
        go_wp2_with fail
        go_roundw
        case rel => exact ⟨i + 1,by have:=HLT.out;omega,by go_num,⟨_,_,_,_,HI.out.later HBV.out⟩,HLO.out.trans (HBV.out.mono (Nat.le_trans HN0.out.2 HLO.out.size))⟩
        case measure => simp [intOf];have:=HLT.out;omega
    have q0:(a.kind == 0) = false:=by simp [h0]
    have q1:(a.kind == 1) = false:=by simp [h1]
    have q2:(a.kind == 2) = false:=by simp [h2]
    have HI:=hid (HAX.out.more (Nat.le_succ i))
    have HLO:=HLX2
    clear h0 h1 h2
    obtain ⟨d0,d1,d2,d3,d4,d5⟩:=HBX.out X2 (HBW.out.trans (HLX2.out.mono HBWN.out))
    go_wp2_with (first | (rw [← HX1.out]) | (with_reducible refine wpList_store_mid (by kernel_rfl) _ _ _ rfl wr.heap.size 0 (aC a).toArray (by kernel_rfl) (by kernel_rfl) HTH.out (aC_infoA a) (aC_one a) ?_) | (rw [← HX2.out]) | (with_reducible refine wpList_loadA (by with_unfolding_all rfl) _ rfl _ _ _ (by with_unfolding_all rfl) HXR.out ?_))
    clear y0 q0 q1 q2 d0 d1 d2 d3 d4 d5
    obtain ⟨wo,rfl⟩:∃ wo,wo = X2:=⟨_,rfl⟩
    go_loopw [117] (fun ix wv => ∃ p:Nat,p ≤ c.parts.length ∧ ix = .int .i64 p ∧ Below wo.heap.size wo wv) (fun ix _ => c.parts.length - (intOf ix).toNat)
    case atStart => exact ⟨0,Nat.zero_le _,rfl,Below.refl _ _⟩
    case round =>
     obtain ⟨p,hp,rfl,hbv⟩:=hrel
     have HBV:=hid hbv
     by_cases hlt:p < c.parts.length
     ·have s1:(p:Int) < (c.parts.length:Int):=by omega
      have hIV:=HI.out.later hbv
      have HSG:=standing_b hIV.mat (by have:=hIV.tk;have:=HLI.out;omega) p hlt
      rw [hIV.mb] at HSG
      have HSG:=hid HSG
      obtain ⟨Aq,kq,hpv,hvr⟩:=hIV.pst.row hIV.fine hIV.bel
      injection hpv with hq1 hq2 hq3
      subst hq1 hq3
      have HSI:=hIV.sim.st (p:Int)
      obtain ⟨s,hs⟩:∃ s,st8 M (p:Int) = s:=⟨_,rfl⟩
      rw [hs] at HSG HSI
      have HRS:=fun (V:World) (hV:Below wr.heap.size wr V) => standing20_b _ kp _ (p:Int) V (hvr.later hV) hIV.fine.non (by have:=hIV.len;have:=HLI.out;omega)
      simp only [HSI] at HRS
      skip
      have HRS:=hid HRS
      have HSL:=hid (show s.made.length ≤ 1000000 ∧ s.valid.length ≤ 1000000 from by
       have h1:=dSt_len (p:Int) (past) (past).length
       rw [List.take_length,HSI] at h1
       have:=hIV.len;have:=HLI.out
       omega)
      have HLP:=hid hlt
      clear hIV hvr HSI hs hbv hlt hp
      go_wp2_with fail
      refine HSG.out.mono ?_
      rintro e5 w5 ⟨A1,k1,A2,k2,rfl,hm5,hv5,hb5⟩
      obtain ⟨W6,HW6,hB6,hs6,x6⟩:=box_new w5 #[.int .i64 (p:Int),.bool s.sn,.slice A1 s.made.length k1,.slice A2 s.valid.length k2] 59
      obtain ⟨xb,hxb⟩:∃ k,k = w5.heap.size:=⟨_,rfl⟩
      have hX6:=x6 W6 (Below.refl _ _)
      rw [← hxb] at hX6
      have EX:=hid hxb
      have x0:W6.cell? ⟨xb,0,none⟩ = some (.int .i64 (p:Int)):=blk_at hX6 (i:=0) rfl
      have x1:W6.cell? ⟨xb,1,none⟩ = some (.bool s.sn):=blk_at hX6 (i:=1) rfl
      have x2:W6.cell? ⟨xb,2,none⟩ = some (.slice A1 s.made.length k1):=blk_at hX6 (i:=2) rfl
      have x3:W6.cell? ⟨xb,3,none⟩ = some (.slice A2 s.valid.length k2):=blk_at hX6 (i:=3) rfl
      have HXL:=hid (Array.getElem?_eq_some_iff.1 hX6).1
      have HM6:=hid ((hm5.below hB6).more hB6.size)
      have HV6:=hid ((hv5.below hB6).more hB6.size)
      have HB6:=hid (hb5.trans (hB6.mono hb5.size))
      have HBV6:=hid (HBV.out.trans (HB6.out.mono HBV.out.size))
      clear hm5 hv5 hb5 hB6 hs6 x6 hxb hX6
      go_wp2_with (rw [← HW6.out];(try simp only [← EX.out]))
      refine wp_region_held_drew (S:=(fun W' => Below W6.heap.size W6 W')) (by kernel_rfl) (by exact (Below.refl _ _).drew) (fun hHeld => ?_)
      first
       | (refine wpAnyH_take (i:=0) rfl (by kernel_rfl) (by kernel_rfl) (by kernel_rfl) (fun _ _ _ h => h) (Or.inl ⟨by rfl,by intro w hSw;(go_simp <;> with_reducible rfl)⟩) (by assumption) ?_)
       | (refine wpAnyH_take (i:=0) rfl (by kernel_rfl) (by kernel_rfl) (by kernel_rfl) (fun _ _ _ h => h) (Or.inr ⟨by rfl,rfl⟩) (by assumption) ?_)
      (try simp only [Zc])
      first
       | (refine wpAnyH_take (i:=1) rfl (by kernel_rfl) (by kernel_rfl) (by kernel_rfl) (fun _ _ _ h => h) (Or.inl ⟨by rfl,by intro w hSw;(go_simp <;> with_reducible rfl)⟩) (by assumption) ?_)
       | (refine wpAnyH_take (i:=1) rfl (by kernel_rfl) (by kernel_rfl) (by kernel_rfl) (fun _ _ _ h => h) (Or.inr ⟨by rfl,rfl⟩) (by assumption) ?_)
      (try simp only [Zc])
      first
       | (refine wpAnyH_take (i:=2) rfl (by kernel_rfl) (by kernel_rfl) (by kernel_rfl) (fun _ _ _ h => h) (Or.inl ⟨by rfl,by intro w hSw;(go_simp <;> with_reducible rfl)⟩) (by assumption) ?_)
       | (refine wpAnyH_take (i:=2) rfl (by kernel_rfl) (by kernel_rfl) (by kernel_rfl) (fun _ _ _ h => h) (Or.inr ⟨by rfl,rfl⟩) (by assumption) ?_)
      (try simp only [Zc])
      first
       | (refine Tk0 3 rfl ?_)
       | (refine wpAnyH_take (i:=3) rfl (by kernel_rfl) (by kernel_rfl) (by kernel_rfl) (fun _ _ _ h => h) (Or.inr ⟨by rfl,rfl⟩) (by assumption) ?_)
      (try simp only [Zc])
      first
       | (refine wpAnyH_take (i:=4) rfl (by kernel_rfl) (by kernel_rfl) (by kernel_rfl) (fun _ _ _ h => h) (Or.inl ⟨by rfl,by intro w hSw;(go_simp <;> with_reducible rfl)⟩) (by assumption) ?_)
       | (refine wpAnyH_take (i:=4) rfl (by kernel_rfl) (by kernel_rfl) (by kernel_rfl) (fun _ _ _ h => h) (Or.inr ⟨by rfl,rfl⟩) (by assumption) ?_)
      (try simp only [Zc])
      first
       | (refine wpAnyH_take (i:=5) rfl (by kernel_rfl) (by kernel_rfl) (by kernel_rfl) (fun _ _ _ h => h) (Or.inl ⟨by rfl,by intro w hSw;(go_simp <;> with_reducible rfl)⟩) (by assumption) ?_)
       | (refine wpAnyH_take (i:=5) rfl (by kernel_rfl) (by kernel_rfl) (by kernel_rfl) (fun _ _ _ h => h) (Or.inr ⟨by rfl,rfl⟩) (by assumption) ?_)
      (try simp only [Zc])
      refine wpAnyH_ready (rs:=[6]) (by kernel_rfl) (by simp) (AllReadyH.cons rfl (fun K hK => ?_) AllReadyH.nil)
      go_simp
      refine (HRS.out W6.drew (HB6.out.trans ((Below.refl _ _).drew.mono HB6.out.size))).mono ?_
      rintro e7 w7 ⟨A3,k3,A4,k4,rfl,hm7,hv7,hb7o⟩
      (try go_wp2_with fail)
      have hb7:=(Below.refl W6.heap.size W6).drew.trans hb7o
      have HB7:=hid hb7
      have HSS:=hid (sameStand_eq (p:Int) s.sn s.made s.valid A1 A3 A2 A4 k1 k3 k2 k4 w7 ((HM6.out.below hb7).more hb7.size) hm7 ((HV6.out.below hb7).more hb7.size) hv7 HSL.out.1 HSL.out.2)
      clear hm7 hv7 hb7 hb7o hHeld
      refine hK.out _ _ (by exact HB7.out) (fun hHeld => ?_)
      clear hK K
      (try simp only [Zc])
      refine wpAnyH_ready (rs:=[7]) (by kernel_rfl) (by simp) (AllReadyH.cons rfl (fun K hK => ?_) AllReadyH.nil)
      go_simp
      refine HSS.out.mono ?_
      rintro e8 w8 ⟨rfl,hb8⟩
      (try go_wp2_with fail)
      have HB8:=hid (HB7.out.trans (hb8.mono HB7.out.size))
      clear hb8 hHeld
      refine hK.out _ _ (by exact HB8.out) (fun hHeld => ?_)
      clear hK K
      (try simp only [Zc])
      first
       | (refine wpAnyH_take (i:=8) rfl (by kernel_rfl) (by kernel_rfl) (by kernel_rfl) (fun _ _ _ h => h) (Or.inl ⟨by rfl,by intro w hSw;(go_simp <;> with_reducible rfl)⟩) (by assumption) ?_)
       | (refine wpAnyH_take (i:=8) rfl (by kernel_rfl) (by kernel_rfl) (by kernel_rfl) (fun _ _ _ h => h) (Or.inr ⟨by rfl,rfl⟩) (by assumption) ?_)
      (try simp only [Zc])
      first
       | (refine wpAnyH_take (i:=9) rfl (by kernel_rfl) (by kernel_rfl) (by kernel_rfl) (fun _ _ _ h => h) (Or.inl ⟨by rfl,by intro w hSw;(go_simp <;> with_reducible rfl)⟩) (by assumption) ?_)
       | (refine wpAnyH_take (i:=9) rfl (by kernel_rfl) (by kernel_rfl) (by kernel_rfl) (fun _ _ _ h => h) (Or.inr ⟨by rfl,rfl⟩) (by assumption) ?_)
      (try simp only [Zc])
      refine wpAnyH_done (by kernel_rfl) ?_ _
      clear hHeld
      have HBE:=hid (HBV6.out.trans (HB8.out.mono HBV6.out.size))
      have hwp:IntKind.i64.wrap ((p:Int) + 1) = (p:Int) + 1:=IntWalk.i64_in _ (by have:=HLP.out;have:=HLX.out.1;omega)
      clear x0 x1 x2 x3
      go_wp2_with fail
      go_roundw
      case rel => exact ⟨p + 1,by have:=HLP.out;omega,by go_num,HBE.out⟩
      case measure => simp [intOf];have:=HLP.out;omega
     ·have s1:¬ ((p:Int) < (c.parts.length:Int)):=by omega
      have hwi:IntKind.i64.wrap ((i:Int) + 1) = (i:Int) + 1:=IntWalk.i64_in _ (by have:=HLI.out;omega)
      clear hlt hp hbv
      go_wp2_with fail
      go_roundw
      case rel => exact ⟨i + 1,by have:=HLT.out;omega,by go_num,⟨_,_,_,_,HI.out.later HBV.out⟩,HLO.out.trans (HBV.out.mono (Nat.le_trans HN0.out.2 HLO.out.size))⟩
      case measure => simp [intOf];have:=HLT.out;omega
   ·have s1:¬ ((i:Int) < (l.length:Int)):=by omega
    have HIL:=hid (show i ≤ 100 from by have:=HLL.out;omega)
    clear hlt hi
    have HA':=HA
    by_cases hin:0 ≤ other ∧ other < (c.parts.length:Int)
    ·obtain ⟨p,rfl⟩:=Int.eq_ofNat_of_zero_le hin.1
     have hp:p < c.parts.length:=by omega
     have HSG:=standing_b HA.out.mat (by have:=HA.out.tk;have:=HIL.out;omega) p hp
     rw [HA.out.mb] at HSG
     have HSG:=hid HSG
     have hq1:((p:Nat):Int) ≥ 0:=by omega
     have hq2:((p:Nat):Int) < (c.parts.length:Int):=by omega
     clear hin hp
     go_wp2_with fail
     refine HSG.out.mono ?_
     rintro e5 w5 ⟨A1,k1,A2,k2,rfl,-,-,hb5⟩
     obtain ⟨W6,HW6,hB6,hs6,x6⟩:=box_new w5 #[.int .i64 (p:Int),.bool (st8 M (p:Int)).sn,.slice A1 (st8 M (p:Int)).made.length k1,.slice A2 (st8 M (p:Int)).valid.length k2] 59
     have HBE:=hid (hb5.trans (hB6.mono hb5.size))
     obtain ⟨d0,d1,d2,d3,d4,d5⟩:=HBX.out W6 (HBW.out.trans ((HLO0.out.trans (HBE.out.mono (Nat.le_trans HN0.out.2 HLO0.out.size))).mono HBWN.out))
     clear hb5 hB6 hs6 x6
     go_wp2_with (rw [← HW6.out])
     go_ret
     exact ⟨rfl,HA.out.bel.trans (HBE.out.mono HA.out.bel.size)⟩
    ·have HSO:=standing_out HA.out.mat other (by omega)
     rw [HA.out.mb] at HSO
     have HSO:=hid HSO
     go_wp2_with fail
     refine HSO.out.mono ?_
     rintro e5 w5 ⟨rfl,hb5⟩
     obtain ⟨W6,HW6,hB6,hs6,x6⟩:=box_new w5 #[.int .i64 0,.bool false,.slice none 0 0,.slice none 0 0] 59
     obtain ⟨xb,hxb⟩:∃ k,k = w5.heap.size:=⟨_,rfl⟩
     have hX6:=x6 W6 (Below.refl _ _)
     rw [← hxb] at hX6
     have EX:=hid hxb
     have x0:W6.cell? ⟨xb,0,none⟩ = some (.int .i64 0):=blk_at hX6 (i:=0) rfl
     have x1:W6.cell? ⟨xb,1,none⟩ = some (.bool false):=blk_at hX6 (i:=1) rfl
     have x2:W6.cell? ⟨xb,2,none⟩ = some (.slice none 0 0):=blk_at hX6 (i:=2) rfl
     have x3:W6.cell? ⟨xb,3,none⟩ = some (.slice none 0 0):=blk_at hX6 (i:=3) rfl
     have f0:W6.frozen? ⟨xb,0,none⟩ = false:=by simp [World.frozen?,hX6]
     have f1:W6.frozen? ⟨xb,1,none⟩ = false:=by simp [World.frozen?,hX6]
     have f2:W6.frozen? ⟨xb,2,none⟩ = false:=by simp [World.frozen?,hX6]
     have f3:W6.frozen? ⟨xb,3,none⟩ = false:=by simp [World.frozen?,hX6]
     obtain ⟨W7,hW7⟩:∃ u,Hid (u = (((W6.setCell ⟨xb,0,none⟩ (.int .i64 0)).setCell ⟨xb,1,none⟩ (.bool false)).setCell ⟨xb,2,none⟩ (.slice none 0 0)).setCell ⟨xb,3,none⟩ (.slice none 0 0)):=⟨_,rfl⟩
     have hX7:W7.heap[xb]? = some (.cells #[.int .i64 0,.bool false,.slice none 0 0,.slice none 0 0] 59 (0,0)):=by rw [hW7.out];exact blk_put (blk_put (blk_put (blk_put hX6 rfl) rfl) rfl) rfl
     have v0:W7.cell? ⟨xb,0,none⟩ = some (.int .i64 0):=blk_at hX7 (i:=0) rfl
     have v1:W7.cell? ⟨xb,1,none⟩ = some (.bool false):=blk_at hX7 (i:=1) rfl
     have v2:W7.cell? ⟨xb,2,none⟩ = some (.slice none 0 0):=blk_at hX7 (i:=2) rfl
     have v3:W7.cell? ⟨xb,3,none⟩ = some (.slice none 0 0):=blk_at hX7 (i:=3) rfl
     have hB67:Below wr.heap.size wr W7:=by
      have h1:=hb5.trans (hB6.mono hb5.size)
      have ho:Only (fun k => k = xb) W6 W7:=by rw [hW7.out];exact (((Only.setCell W6 ⟨xb,0,none⟩ _).trans (Only.setCell _ ⟨xb,1,none⟩ _)).trans (Only.setCell _ ⟨xb,2,none⟩ _)).trans (Only.setCell _ ⟨xb,3,none⟩ _)
      exact h1.trans (ho.below h1.size (fun k e => by have:=hb5.size;omega))
     have HBE:=hid hB67
     obtain ⟨d0,d1,d2,d3,d4,d5⟩:=HBX.out W7 (HBW.out.trans ((HLO0.out.trans (HBE.out.mono (Nat.le_trans HN0.out.2 HLO0.out.size))).mono HBWN.out))
     have hnil:∀ (V:World),IntRowK .i64 V V.heap.size none []:=fun V h => absurd h (by simp)
     have HSS:Calls Tryz.prog 20 #[.agg #[.int .i64 0,.bool false,.slice none 0 0,.slice none 0 0],.agg #[.int .i64 0,.bool false,.slice none 0 0,.slice none 0 0]] W7 (fun e w' => e = .returned (.bool true) ∧ Below W7.heap.size W7 w'):=sameStand_eq 0 false [] [] none none none none 0 0 0 0 W7 (hnil W7) (hnil W7) (hnil W7) (hnil W7) (by simp) (by simp)
     have HSS:=hid HSS
     clear hb5 hB6 hs6 x6 hxb hX6 hX7 hB67 hnil
     by_cases ho1:other ≥ 0
     ·have ho2:¬ (other < (c.parts.length:Int)):=by omega
      have HD2:=hid (decide_eq_false ho2)
      clear hin
      go_wp2_with (first | (rw [← HW6.out];(try simp only [← EX.out])) | (rw [← hW7.out]))
      refine HSS.out.mono ?_
      rintro e8 w8 ⟨rfl,hb8⟩
      have HBF:=hid (HBE.out.trans (hb8.mono HBE.out.size))
      clear hb8 d0 d1 d2 d3 d4 d5 x0 x1 x2 x3 v0 v1 v2 v3 f0 f1 f2 f3
      go_wp2_with fail
      go_ret
      exact ⟨by first | rfl | (show Ending.returned (Value.bool (!decide (other < (c.parts.length:Int)))) = _;rw [HD2.out];rfl),HA.out.bel.trans (HBF.out.mono HA.out.bel.size)⟩
     ·clear hin
      go_wp2_with (first | (rw [← HW6.out];(try simp only [← EX.out])) | (rw [← hW7.out]))
      refine HSS.out.mono ?_
      rintro e8 w8 ⟨rfl,hb8⟩
      have HBF:=hid (HBE.out.trans (hb8.mono HBE.out.size))
      clear hb8 d0 d1 d2 d3 d4 d5 x0 x1 x2 x3 v0 v1 v2 v3 f0 f1 f2 f3
      go_wp2_with fail
      go_ret
      exact ⟨rfl,HA.out.bel.trans (HBF.out.mono HA.out.bel.size)⟩
end Go.Proofs.YtheeiklgblcjfaaGreatDoor
