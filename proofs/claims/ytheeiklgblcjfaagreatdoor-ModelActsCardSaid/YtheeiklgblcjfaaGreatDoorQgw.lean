/- Texts of the ring, joined, what is used of them. No condition but those in the statements. -/
import Derived.BigQuiet
import Derived.BigRegion
import Derived.Deep.MidRow
import Derived.Deep.RegionHeld3
import Derived.Deep.Upon
import Derived.Great.BuildSlice
import Derived.IntWalk
import Derived.Test.YtheeiklgblcjfaaGreatDoorQPkX
import Derived.Test.YtheeiklgblcjfaaGreatDoorQga
import Derived.Test.YtheeiklgblcjfaaGreatDoorQgb
import Derived.Test.YtheeiklgblcjfaaGreatDoorQgf
import Derived.Test.YtheeiklgblcjfaaGreatDoorQgv
set_option linter.unusedVariables false
set_option linter.unusedSimpArgs false
section
namespace Go.Proofs.YtheeiklgblcjfaaGreatDoor
open Go.Lib (hid)
open Go.RowKit Go.Sort
set_option maxRecDepth 100000
/-- What is delivered,of the first n channels. -/
def dDelN (c:Cfg) (l:List Pv) (p:Int) (n:Nat):List Int:=((List.range n).filter (fun k => decide (to8 c k = p) && dPd l (k:Int) p)).map (fun k:Nat => 2 * (k:Int) + 1)
theorem dDelN_next (c:Cfg) (l:List Pv) (p:Int) (n:Nat):dDelN c l p (n + 1) = dDelN c l p n ++ (if (decide (to8 c n = p) && dPd l (n:Int) p) = true then [2 * (n:Int) + 1] else []):=by
 unfold dDelN
 rw [List.range_succ,List.filter_append,List.map_append]
 congr 1
 by_cases h:(decide (to8 c n = p) && dPd l (n:Int) p) = true
 ·rw [if_pos h];simp [List.filter_cons,h]
 ·rw [if_neg h];simp [List.filter_cons,h]
theorem dDelN_len (c:Cfg) (l:List Pv) (p:Int) (n:Nat):(dDelN c l p n).length ≤ n:=by
 unfold dDelN
 rw [List.length_map]
 exact Nat.le_trans (List.length_filter_le _ _) (by simp)
theorem dPd_take {l:List Pv} {i:Nat} {e:Pv} (h:l[i]? = some e) (k p:Int):dPd (l.take (i + 1)) k p = pStep k p (dPd (l.take i) k p) e:=by rw [take_succ20 h,dPd_app]
set_option maxHeartbeats 12800000 in
theorem deliver20_b (c:Cfg) (x:CfgAt) (A:Option Addr) (ak:Nat) (l:List Pv) (p:Int) (w:World) (hx:CfgIn w w.heap.size c x) (wx:CfgWf c) (lx:CfgFew c) (hr:VRow w w.heap.size A l) (hl:l.length ≤ 1000) (hto:∀ k:Nat,k < c.chans.length → 0 ≤ to8 c k ∧ to8 c k < 1000000):Calls Tryz.prog 18 #[.agg (cfgCells c x),.slice A l.length ak,.int .i64 p] w (GivesNums w (dDel c l p)):=by
 obtain ⟨W,HW,hB0,hWs,bx⟩:=one_cbox w c x 29
 have HR:=hid (hr.below hB0)
 have HRC:=hid hx.rc;have HWC:=hid wx.wc
 have HB0:=hid hB0;have HBX:=hid bx;have HTO:=hid hto
 have hcn:=lx.2.1
 obtain ⟨i0,hi0,hz0,hz1,hz2⟩:=info_parts Tryz.infoI
 obtain ⟨pa,pc,ca,cc,aa,ac,ba,bc⟩:=x
 have HRC:Hid (RowN [.i64,.i64,.i64,.i64,.i64,.i64,.u32] w w.heap.size ca c.chans):=HRC
 simp only [cfgCells] at HW ⊢
 clear hx hB0 hWs bx wx lx hr hto
 go_enter Tryz.func18,Tryz.ntmps18
 go_wp2_with (first | (rw [← HW.out]))
 go_loopw [7,8,9,10] (fun v ix _ _ wr => ∃ k:Nat,k ≤ c.chans.length ∧ ix = .int .i64 k ∧ OwnsOff wr W.heap.size 3 1 v (dDelN c l p k).length (icells (dDelN c l p k)) ∧ Below W.heap.size W wr) (fun _ ix _ _ _ => c.chans.length - (intOf ix).toNat)
 case atStart => exact ⟨0,Nat.zero_le _,rfl,OwnsOff.nil _ _ _ _,Below.refl _ _⟩
 case round =>
  obtain ⟨k,hk,rfl,hown,hbr⟩:=hrel
  obtain ⟨c0,c1,c2,c3,c4,c5⟩:=HBX.out wr hbr
  have HB:=hid hbr
  by_cases hlt:k < c.chans.length
  ·obtain ⟨cb,co,x0,x1,x2,x3,x4,x5,x6,eca,hcb,hx7,-,hcell⟩:=HRC.out.at7 HWC.out hlt
   subst eca
   have hk2:(k:Int) < (c.chans.length:Int):=by omega
   have hwk:IntKind.i64.wrap ((k:Int) + 1) = (k:Int) + 1:=IntWalk.i64_in _ (by omega)
   have q2:wr.cell? ⟨cb,co + k * 7 + 2,none⟩ = some (.int .i64 x2):=(hcell wr (HB0.out.trans (hbr.mono HB0.out.size))).2.2.1
   have ht2:to8 c k = x2:=by unfold to8;rw [row_at hx7];rfl
   have hbt:=HTO.out k hlt
   rw [ht2] at hbt
   have HT2:=hid ht2
   have HNX:=hid (dDelN_next c l p k)
   have HLK:=hid hlt
   obtain ⟨xs,hxs⟩:∃ xs,dDelN c l p k = xs:=⟨_,rfl⟩
   rw [hxs] at hown HNX
   have HXL:=hid (show xs.length ≤ 1000000 by rw [← hxs];have:=dDelN_len c l p k;omega)
   clear ht2 hcell hx7 hcb hlt hxs
   by_cases ho:x2 = p
   ·subst ho
    have qn:(x2 != x2) = false:=by simp
    have hwp:IntKind.i64.wrap (x2 + 1) = x2 + 1:=IntWalk.i64_in _ (by omega)
    have HOW:=hid hown
    clear hown
    obtain ⟨wo,rfl⟩:∃ wo,wo = wr:=⟨_,rfl⟩
    clear hbr hk hbt
    go_wp2
    go_loopw [9,10] (fun pv ix wv => ∃ i:Nat,i ≤ l.length ∧ ix = .int .i64 i ∧ pv = .bool (dPd (l.take i) (k:Int) x2) ∧ wo = wv) (fun _ ix _ => l.length - (intOf ix).toNat)
    case atStart => exact ⟨0,Nat.zero_le _,rfl,rfl,rfl⟩
    case round =>
     obtain ⟨i,hi,rfl,rfl,hwv⟩:=hrel
     subst hwv
     by_cases hlt:i < l.length
     ·obtain ⟨b,o,e,rfl,hbl,he,-,hxc⟩:=HR.out.at_ hlt
      have hbe:=(hxc wo (HB.out.mono HB0.out.size)).1
      have k24:wo.cell? ⟨b,o + i * 26 + 24,none⟩ = some (.int .i64 e.rang):=hbe.rang
      have k25:wo.cell? ⟨b,o + i * 26 + 25,none⟩ = some (.int .i64 e.took):=hbe.took
      have hi2:(i:Int) < (l.length:Int):=by omega
      have HLT:=hid hlt
      have HPS:=hid (dPd_take he (k:Int) x2)
      obtain ⟨q,hq⟩:∃ q,dPd (l.take i) (k:Int) x2 = q:=⟨_,rfl⟩
      rw [hq] at HPS ⊢
      clear hbe hxc he hbl hlt hq
      by_cases g1:e.rang = (k:Int) + 1
      ·have p1:(e.rang == (k:Int) + 1) = true:=by simp [g1]
       by_cases g2:e.took = x2 + 1
       ·have p2:(e.took == x2 + 1) = true:=by simp [g2]
        have HPS:=hid (HPS.out.trans (show pStep (k:Int) x2 q e = false by unfold pStep;rw [if_pos g2]))
        clear g1 g2
        go_wp2
        go_roundw
        case rel => exact ⟨i + 1,by have:=HLT.out;omega,by go_num,by rw [HPS.out],by trivial⟩
        case measure => simp [intOf];have:=HLT.out;omega
       ·have p2:(e.took == x2 + 1) = false:=by simp [g2]
        have HPS:=hid (HPS.out.trans (show pStep (k:Int) x2 q e = true by unfold pStep;rw [if_neg g2,if_pos g1]))
        clear g1 g2
        go_wp2
        go_roundw
        case rel => exact ⟨i + 1,by have:=HLT.out;omega,by go_num,by rw [HPS.out],by trivial⟩
        case measure => simp [intOf];have:=HLT.out;omega
      ·have p1:(e.rang == (k:Int) + 1) = false:=by simp [g1]
       by_cases g2:e.took = x2 + 1
       ·have p2:(e.took == x2 + 1) = true:=by simp [g2]
        have HPS:=hid (HPS.out.trans (show pStep (k:Int) x2 q e = false by unfold pStep;rw [if_pos g2]))
        clear g1 g2
        go_wp2
        go_roundw
        case rel => exact ⟨i + 1,by have:=HLT.out;omega,by go_num,by rw [HPS.out],by trivial⟩
        case measure => simp [intOf];have:=HLT.out;omega
       ·have p2:(e.took == x2 + 1) = false:=by simp [g2]
        have HPS:=hid (HPS.out.trans (show pStep (k:Int) x2 q e = q by unfold pStep;rw [if_neg g2,if_neg g1]))
        clear g1 g2
        go_wp2
        go_roundw
        case rel => exact ⟨i + 1,by have:=HLT.out;omega,by go_num,by rw [HPS.out],by trivial⟩
        case measure => simp [intOf];have:=HLT.out;omega
     ·have hil:i = l.length:=by omega
      have hi2:¬ ((i:Int) < (l.length:Int)):=by omega
      obtain ⟨q,hq⟩:∃ q,dPd (l.take i) (k:Int) x2 = q:=⟨_,rfl⟩
      have HQ:=hid (show dPd l (k:Int) x2 = q by rw [← hq,hil,List.take_length])
      rw [hq]
      obtain ⟨wr,rfl⟩:∃ wr,wr = wo:=⟨_,rfl⟩
      have hown:=HOW.out
      have hbo:=HB.out
      have HLC:=hid hcn
      clear hlt hi hil hq
      cases q with
      | true =>
       have HN:=hid (HNX.out.trans (show xs ++ (if (decide (to8 c k = x2) && dPd l (k:Int) x2) = true then [2 * (k:Int) + 1] else []) = xs ++ [2 * (k:Int) + 1] by rw [HQ.out,HT2.out];simp))
       have hw2:IntKind.i64.wrap (2 * (k:Int)) = 2 * (k:Int):=IntWalk.i64_in _ (by omega)
       have hw3:IntKind.i64.wrap (2 * (k:Int) + 1) = 2 * (k:Int) + 1:=IntWalk.i64_in _ (by omega)
       go_wp2_with (at_builtin;refine wpList_append_off _ rfl _ _ 55 rfl W.heap.size 3 i0 (.int .i64 0) 1 8 Tryz.underlying55 hi0 hz0 hz1 hz2 rfl (by decide) _ _ _ rfl (hown.keptB ((Below.refl _ _).alloc (Nat.le_refl _) _)) ⟨wr.heap.size,0,none⟩ 1 1 [.int .i64 (2 * (k:Int) + 1)] rfl rfl (news_new _ _ _) (by simp [Value.oneCell']) (by have:=HXL.out;unfold maxLen;omega) (by have:=HXL.out;omega) (by have:=hbo.size;simp;omega) ?_)
       intro v' w6 hown' hgrow _
       have hb6:=hid ((hbo.alloc hbo.size _).grown hgrow (by have:=hbo.size;simp;omega) (fun i e => (hown.lt i e).1))
       have H3:Hid (OwnsOff w6 W.heap.size 3 1 v' (xs ++ [2 * (k:Int) + 1]).length (icells (xs ++ [2 * (k:Int) + 1]))):=hid (by rw [List.length_append,icells_app];exact hown')
       clear hown' hgrow hown hbo hw2 hw3
       go_wp2
       go_roundw
       case rel => exact ⟨k + 1,by have:=HLK.out;omega,by go_num,by rw [HN.out];exact H3.out,hb6.out⟩
       case measure => simp [intOf];have:=HLK.out;omega
      | false =>
       have HN:=hid (HNX.out.trans (show xs ++ (if (decide (to8 c k = x2) && dPd l (k:Int) x2) = true then [2 * (k:Int) + 1] else []) = xs by rw [HQ.out];simp))
       clear hown hbo
       go_wp2
       go_roundw
       case rel => exact ⟨k + 1,by have:=HLK.out;omega,by go_num,by rw [HN.out];exact HOW.out,HB.out⟩
       case measure => simp [intOf];have:=HLK.out;omega
   ·have qn:(x2 != p) = true:=by simp [ho]
    have HN:=hid (HNX.out.trans (show xs ++ (if (decide (to8 c k = p) && dPd l (k:Int) p) = true then [2 * (k:Int) + 1] else []) = xs by rw [HT2.out,decide_eq_false ho];simp))
    have HOW:=hid hown
    clear hown hbr ho hbt
    go_wp2
    go_roundw
    case rel => exact ⟨k + 1,by have:=HLK.out;omega,by go_num,by rw [HN.out];exact HOW.out,HB.out⟩
    case measure => simp [intOf];have:=HLK.out;omega
  ·have hil:k = c.chans.length:=by omega
   have hk2:¬ ((k:Int) < (c.chans.length:Int)):=by omega
   have HF:Hid (OwnsOff wr W.heap.size 3 1 u7 (dDel c l p).length (icells (dDel c l p))):=hid (by rw [hil] at hown;exact hown)
   clear hown hbr hlt hil
   go_wp2
   go_ret
   exact ⟨_,rfl,HF.out.mono HB0.out.size,HB0.out.trans (HB.out.mono HB0.out.size)⟩
end Go.Proofs.YtheeiklgblcjfaaGreatDoor
end
section
namespace Go.Proofs.YtheeiklgblcjfaaGreatDoor
open Go.Lib (hid)
open Go.RowKit Go.Sort
set_option maxRecDepth 100000
theorem ref_port {c:Cfg} {sp:Int} {sn:Bool} {made:List Int} {op port ad:Int} {n:Nat} (h:refusedN c sp sn made op port ad n = 0) (h3:3 ≤ op ∧ op ≤ 7):portB c port = true:=by
 obtain ⟨h0,h1⟩:=ref_in h
 unfold refusedN at h
 split at h
 ·cases h
 simp only [if_neg (show ¬ op = 1 by omega),if_neg (show ¬ op = 2 by omega),if_pos h3] at h
 unfold talkN at h
 cases hb:portB c port with
 | true => rfl
 | false =>
  rw [if_pos (by unfold hasB;rw [hb];rfl)] at h
  cases h
theorem qStep_mem {c:Cfg} {k:Int} {o:List CV} {e:Pv} {y:CV} (h:y ∈ qStep c k o e):y ∈ o ∨ y = e.x:=by
 unfold qStep at h
 split at h
 ·split at h
  ·rcases List.mem_append.1 h with h | h
   ·exact .inl h
   ·simp at h;exact .inr h
  ·exact .inl (List.mem_of_mem_tail h)
 ·exact .inl h
theorem dQv_mem (c:Cfg) (k:Int):∀ (l:List Pv) (o:List CV) (y:CV),y ∈ l.foldl (qStep c k) o → y ∈ o ∨ ∃ (i:Nat) (e:Pv),l[i]? = some e ∧ e.x = y
 | [],o,y,h => .inl h
 | e :: r,o,y,h => by
  rw [List.foldl_cons] at h
  rcases dQv_mem c k r _ y h with h | ⟨i,e',h1,h2⟩
  ·rcases qStep_mem h with h | h
   ·exact .inl h
   ·exact .inr ⟨0,e,rfl,h.symm⟩
  ·exact .inr ⟨i + 1,e',by simpa using h1,h2⟩
set_option maxHeartbeats 12800000 in
theorem do20_b (c:Cfg) (x:CfgAt) (A:Option Addr) (ak:Nat) (l:List Pv) (y:CV) (w:World) (hx:CfgIn w w.heap.size c x) (wx:CfgWf c) (lx:CfgFew c) (hr:VRow w w.heap.size A l) (hn:PNon l) (hs:VSt l) (hk:VPk l) (hqk:∀ k:Nat,QOk c l (k:Int)) (hl:l.length ≤ 1000) (hy:CWf y) (hyl:y.rd.length ≤ 1000000) (ht1:-1 ≤ y.t1 ∧ y.t1 ≤ 1099511627776) :Calls Tryz.prog 11 #[.agg (cfgCells c x),.slice A l.length ak,.agg (cCells y).toArray] w (GivesDo w l (dDo c l y)):=by
 obtain ⟨z,hz⟩:∃ z,refusedN c y.part (dSt l y.part).sn (dSt l y.part).made y.op y.port y.addr y.rd.length = z:=⟨_,rfl⟩
 obtain ⟨W,HW,hB0,hWs,bx⟩:=one_cbox w c x 29
 obtain ⟨W2,HW2,hB2,hs2,yv⟩:=box17 W y
 obtain ⟨W3,HW3,hB3,hs3,ax⟩:=box_new W2 #[.int .i64 0,.slice none 0 0,.bool false,.int .i64 0] 42
 have hBW2:=hB0.trans (hB2.mono hB0.size)
 have hBW3:=hBW2.trans (hB3.mono hBW2.size)
 obtain ⟨ab,hab⟩:∃ k,k = W2.heap.size:=⟨_,rfl⟩
 have hA3:=ax W3 (Below.refl _ _)
 rw [← hab] at hA3
 have HA3:=hid hA3
 have HAL:=hid (show w.heap.size < W.heap.size ∧ W.heap.size < ab ∧ ab < W3.heap.size from by omega)
 have HST:=hid (standing20_b A ak l y.part W3 (hr.later hBW3) hn hl)
 have hml:=(dSt_len y.part l l.length).1
 rw [List.take_length] at hml
 have HRF:=hid (fun (V:World) (hV:Below w.heap.size w V) (A1 A2:Option Addr) (k1 k2:Nat) (hm:IntRowK .i64 V V.heap.size A1 (dSt l y.part).made) => rrefused_is c x y.part (dSt l y.part).sn (dSt l y.part).made A1 k1 A2 (dSt l y.part).valid.length k2 y.op y.port y.addr y.ra y.rd.length y.rc z V (hx.later hV) wx lx ⟨hm,by omega⟩ hy.port hy.addr hyl hz)
 have HCH:=hid (fun (V:World) (hV:Below w.heap.size w V) => channel_b c x y V (hx.later hV) wx lx hy)
 have HB3:=hid hBW3;have HBX:=hid bx;have HBX3:=hid (hB2.trans (hB3.mono hB2.size))
 have HY3:=hid (yv.later hB3 (by omega))
 have y0:W3.cell? ⟨W.heap.size,0,none⟩ = some (.int .i64 y.part):=HY3.out.b_part
 have E3:=hid hab
 have HZ:=hid hz;have HX:=hid hx;have HWX:=hid wx;have HLX:=hid lx;have HR:=hid hr;have HN:=hid hn;have HS:=hid hs;have HK:=hid hk;have HQK:=hid hqk;have HL:=hid hl;have HY:=hid hy;have HT1:=hid ht1
 obtain ⟨pa,pc,ca,cc,aa,ac,ba,bc⟩:=x
 simp only [cfgCells] at HW HRF HCH ⊢
 clear hx hB0 hWs bx wx lx hr hn hs hk hqk hB2 hs2 yv hB3 hs3 ax hBW2 hBW3 hab hA3 hy hyl ht1 hml hz hl
 go_enter Tryz.func11,Tryz.ntmps11
 go_wp2_with (first | (rw [← HW.out]) | (rw [← HW2.out]) | (rw [← HW3.out];(try simp only [← E3.out])))
 refine HST.out.mono ?_
 rintro e4 w4 ⟨A1,k1,A2,k2,rfl,hm4,hv4,hb4⟩
 obtain ⟨W5,HW5,hB5,hs5,sx⟩:=box_new w4 #[.int .i64 y.part,.bool (dSt l y.part).sn,.slice A1 (dSt l y.part).made.length k1,.slice A2 (dSt l y.part).valid.length k2] 59
 obtain ⟨sb,hsb⟩:∃ k,k = w4.heap.size:=⟨_,rfl⟩
 have hS5:=sx W5 (Below.refl _ _)
 rw [← hsb] at hS5
 have E5:=hid hsb
 have HS5:=hid hS5
 have s0:W5.cell? ⟨sb,0,none⟩ = some (.int .i64 y.part):=blk_at hS5 (i:=0) rfl
 have s1:W5.cell? ⟨sb,1,none⟩ = some (.bool (dSt l y.part).sn):=blk_at hS5 (i:=1) rfl
 have s2:W5.cell? ⟨sb,2,none⟩ = some (.slice A1 (dSt l y.part).made.length k1):=blk_at hS5 (i:=2) rfl
 have s3:W5.cell? ⟨sb,3,none⟩ = some (.slice A2 (dSt l y.part).valid.length k2):=blk_at hS5 (i:=3) rfl
 have hb35:=hb4.trans (hB5.mono hb4.size)
 have HBW5:=hid (HB3.out.trans (hb35.mono HB3.out.size))
 have HB35:=hid hb35
 have HM5:=hid ((hm4.below hB5).more hB5.size)
 have HV5:=hid ((hv4.below hB5).more hB5.size)
 have hY5:=HY3.out.later hb35 (by have:=HAL.out;omega)
 have y1:W5.cell? ⟨W.heap.size,1,none⟩ = some (.int .i64 y.op):=hY5.b_op
 have y2:W5.cell? ⟨W.heap.size,2,none⟩ = some (.int .i64 y.port):=hY5.b_port
 have y3:W5.cell? ⟨W.heap.size,3,none⟩ = some (.int .u64 y.addr):=hY5.b_addr
 have y4:W5.cell? ⟨W.heap.size,4,none⟩ = some (.slice y.ra y.rd.length y.rc):=hY5.b_rd
 obtain ⟨c0,c1,c2,c3,c4,c5⟩:=HBX.out W5 (HBX3.out.trans (hb35.mono HBX3.out.size))
 clear hb4 hB5 hs5 sx hsb hS5 hm4 hv4 hb35 hY5 y0
 go_wp2_with (rw [← HW5.out];(try simp only [← E5.out]))
 refine (HRF.out W5 HBW5.out A1 A2 k1 k2 HM5.out).mono ?_
 rintro e6 w6 ⟨rfl,hb6⟩
 have HB6:=hid (HBW5.out.trans (hb6.mono HBW5.out.size))
 have HB36:=hid (HB35.out.trans (hb6.mono HB35.out.size))
 have HS6:=hid ((hb6.block sb (Array.getElem?_eq_some_iff.1 HS5.out).1).trans HS5.out)
 have HV6:=hid ((HV5.out.below hb6).more hb6.size)
 have HA6:=hid ((HB36.out.block ab HAL.out.2.2).trans HA3.out)
 clear hb6 s0 s1 s2 s3 y1 y2 y3 y4 c0 c1 c2 c3 c4 c5
 by_cases hz0:z = 0
 ·subst hz0
  have HO19:=hid (op_in HZ.out)
  have hY6:=HY3.out.later HB36.out (by have:=HAL.out;omega)
  obtain ⟨c0,c1,c2,c3,c4,c5⟩:=HBX.out w6 (HBX3.out.trans (HB36.out.mono HBX3.out.size))
  go_wp2_with (first | (with_reducible refine wpList_loadC (by with_unfolding_all rfl) _ rfl _ _ _ (by with_unfolding_all rfl) hY6 ?_))
  refine (HCH.out w6 HB6.out).mono ?_
  rintro e7 w7 ⟨rfl,hb7⟩
  have HBV:=hid (HB6.out.trans (hb7.mono HB6.out.size))
  have HB37:=hid (HB36.out.trans (hb7.mono HB36.out.size))
  have HY7:=hid (hY6.later hb7 (by have:=HAL.out;have:=HB36.out.size;omega))
  have HS7:=hid ((hb7.block sb (Array.getElem?_eq_some_iff.1 HS6.out).1).trans HS6.out)
  have HV7:=hid ((HV6.out.below hb7).more hb7.size)
  have hA7:=(HB37.out.block ab HAL.out.2.2).trans HA3.out
  have y1:w7.cell? ⟨W.heap.size,1,none⟩ = some (.int .i64 y.op):=HY7.out.b_op
  obtain ⟨K,hK⟩:∃ K,portK c y.port = K:=⟨_,rfl⟩
  rw [hK]
  have HKE:=hid hK
  clear hb7 hY6 c0 c1 c2 c3 c4 c5 hK
  by_cases ho:y.op = 1
  ·have HO:=hid ho
   clear ho
   have HD:=hid (show dDo c l y = ok8 from by unfold dDo dRef;rw [HZ.out,if_neg (by decide)];simp [HO.out])
   rw [HO.out] at y1
   have hth:=there_blk (W:=w7) hA7 (n:=(#[.int .i64 0,.slice none 0 0,.bool false,.int .i64 0]:Array Value).size) rfl
   have hsz4:(Tryz.prog.info? 42).map (·.size) = some (#[.int .i64 0,.slice none 0 0,.bool false,.int .i64 0]:Array Value).size:=ans8_size
   go_wp2_with (with_reducible refine wpList_store_mid (by kernel_rfl) _ _ _ rfl ab 0 #[.int .i64 0,.slice none 0 0,.bool false,.int .i64 0] (by kernel_rfl) (by kernel_rfl) hth hsz4 (by kernel_rfl) ?_)
   have hrg:=World.rangeAt_setCells_same (w7) (ab) 0 (#[.int .i64 0,.slice none 0 0,.bool false,.int .i64 0]:Array Value).toList (by simpa using hth)
   (try simp only [Exit.inBlock,Exit.then])
   refine bodyPost_ret (results_cell_mid rfl _ _ (ab) (#[.int .i64 0,.slice none 0 0,.bool false,.int .i64 0]:Array Value).toList _ rfl hrg Tryz.underlying42 rfl ans8_size) rfl ?_
   exact ⟨none,0,by rw [HD.out] <;> rfl,(fun h => by rw [HD.out] at h;simp [code8,ok8] at h),by rw [HD.out];exact ⟨by simp [code8,ok8],by simp [maxLen],fun _ => rfl⟩,below_put4 HBV.out (by have:=HAL.out;omega) _,fun _ q hq => by cases hq⟩
  have n1:=ho
  clear ho
  by_cases ho:y.op = 2
  ·have HO:=hid ho
   clear ho
   have HD:=hid (show dDo c l y = ok8 from by unfold dDo dRef;rw [HZ.out,if_neg (by decide)];simp [HO.out])
   rw [HO.out] at y1
   have hth:=there_blk (W:=w7) hA7 (n:=(#[.int .i64 0,.slice none 0 0,.bool false,.int .i64 0]:Array Value).size) rfl
   have hsz4:(Tryz.prog.info? 42).map (·.size) = some (#[.int .i64 0,.slice none 0 0,.bool false,.int .i64 0]:Array Value).size:=ans8_size
   go_wp2_with (with_reducible refine wpList_store_mid (by kernel_rfl) _ _ _ rfl ab 0 #[.int .i64 0,.slice none 0 0,.bool false,.int .i64 0] (by kernel_rfl) (by kernel_rfl) hth hsz4 (by kernel_rfl) ?_)
   have hrg:=World.rangeAt_setCells_same (w7) (ab) 0 (#[.int .i64 0,.slice none 0 0,.bool false,.int .i64 0]:Array Value).toList (by simpa using hth)
   (try simp only [Exit.inBlock,Exit.then])
   refine bodyPost_ret (results_cell_mid rfl _ _ (ab) (#[.int .i64 0,.slice none 0 0,.bool false,.int .i64 0]:Array Value).toList _ rfl hrg Tryz.underlying42 rfl ans8_size) rfl ?_
   exact ⟨none,0,by rw [HD.out] <;> rfl,(fun h => by rw [HD.out] at h;simp [code8,ok8] at h),by rw [HD.out];exact ⟨by simp [code8,ok8],by simp [maxLen],fun _ => rfl⟩,below_put4 HBV.out (by have:=HAL.out;omega) _,fun _ q hq => by cases hq⟩
  have n2:=ho
  clear ho
  by_cases ho:y.op = 3
  ·have HO:=hid ho
   clear ho
   have HD:=hid (show dDo c l y = ok8 from by unfold dDo dRef;rw [HZ.out,if_neg (by decide)];simp [HO.out])
   rw [HO.out] at y1
   have hth:=there_blk (W:=w7) hA7 (n:=(#[.int .i64 0,.slice none 0 0,.bool false,.int .i64 0]:Array Value).size) rfl
   have hsz4:(Tryz.prog.info? 42).map (·.size) = some (#[.int .i64 0,.slice none 0 0,.bool false,.int .i64 0]:Array Value).size:=ans8_size
   go_wp2_with (with_reducible refine wpList_store_mid (by kernel_rfl) _ _ _ rfl ab 0 #[.int .i64 0,.slice none 0 0,.bool false,.int .i64 0] (by kernel_rfl) (by kernel_rfl) hth hsz4 (by kernel_rfl) ?_)
   have hrg:=World.rangeAt_setCells_same (w7) (ab) 0 (#[.int .i64 0,.slice none 0 0,.bool false,.int .i64 0]:Array Value).toList (by simpa using hth)
   (try simp only [Exit.inBlock,Exit.then])
   refine bodyPost_ret (results_cell_mid rfl _ _ (ab) (#[.int .i64 0,.slice none 0 0,.bool false,.int .i64 0]:Array Value).toList _ rfl hrg Tryz.underlying42 rfl ans8_size) rfl ?_
   exact ⟨none,0,by rw [HD.out] <;> rfl,(fun h => by rw [HD.out] at h;simp [code8,ok8] at h),by rw [HD.out];exact ⟨by simp [code8,ok8],by simp [maxLen],fun _ => rfl⟩,below_put4 HBV.out (by have:=HAL.out;omega) _,fun _ q hq => by cases hq⟩
  have n3:=ho
  clear ho
  by_cases ho:y.op = 4
  ·have HO:=hid ho
   clear ho
   obtain ⟨r,hr4⟩:∃ r,dRead c l y = r:=⟨_,rfl⟩
   have HD:=hid (show dDo c l y = r from by rw [← hr4];unfold dDo dRef dRead;rw [HZ.out,if_neg (by decide),if_pos HO.out];cases dWr c l (portK c y.port) <;> rfl)
   have HRD:=hid (fun (V:World) (hV:Below w.heap.size w V) => read20_b c ⟨pa,pc,ca,cc,aa,ac,ba,bc⟩ A ak l y V (HX.out.later hV) HWX.out HLX.out (HR.out.later hV) HN.out HS.out HL.out HY.out (ref_port HZ.out (by rw [HO.out];decide)) HT1.out)
   rw [hr4] at HRD
   simp only [cfgCells] at HRD
   have hY7:=HY7.out
   obtain ⟨c0,c1,c2,c3,c4,c5⟩:=HBX.out w7 (HBX3.out.trans (HB37.out.mono HBX3.out.size))
   rw [HO.out] at y1
   clear hr4
   go_wp2_with (first | (with_reducible refine wpList_loadC (by with_unfolding_all rfl) _ rfl _ _ _ (by with_unfolding_all rfl) hY7 ?_))
   refine (HRD.out w7 HBV.out).mono ?_
   rintro e9 w9 ⟨A9,k9,rfl,hr9,hc9,hb9,hp9⟩
   have HP9:=hid hp9;have HW7:=hid HBV.out.size
   have HB9:=hid (HBV.out.trans (hb9.mono HBV.out.size))
   have hA9:=(hb9.block ab (by have:=HAL.out;have:=HB37.out.size;omega)).trans hA7
   have HR9:=hid hr9;have HC9:=hid hc9
   have hne9:Hid (∀ a,0 < r.data.length → A9 = some a → a.block ≠ ab):=hid (fun a hp ha e => by
    obtain ⟨b,o,e2,hb,hcc⟩:=HR9.out hp
    rw [e2] at ha;cases ha
    have e:b = ab:=e
    have h0:=hcc 0 hp
    rw [e] at h0
    simp [World.cell?,hA9] at h0
    have hm:=List.mem_of_getElem? h0
    simp at hm)
   clear hb9 hr9 hc9 hp9 hA7 hY7 y1 c0 c1 c2 c3 c4 c5
   have hth:=there_blk (W:=w9) hA9 (n:=(#[.int .i64 r.code,.slice A9 r.data.length k9,.bool r.valid,.int .i64 r.count]:Array Value).size) rfl
   have hsz4:(Tryz.prog.info? 42).map (·.size) = some (#[.int .i64 r.code,.slice A9 r.data.length k9,.bool r.valid,.int .i64 r.count]:Array Value).size:=ans8_size
   go_wp2_with (with_reducible refine wpList_store_mid (by kernel_rfl) _ _ _ rfl ab 0 #[.int .i64 r.code,.slice A9 r.data.length k9,.bool r.valid,.int .i64 r.count] (by kernel_rfl) (by kernel_rfl) hth hsz4 (by kernel_rfl) ?_)
   have hrg:=World.rangeAt_setCells_same (w9) (ab) 0 (#[.int .i64 r.code,.slice A9 r.data.length k9,.bool r.valid,.int .i64 r.count]:Array Value).toList (by simpa using hth)
   (try simp only [Exit.inBlock,Exit.then])
   refine bodyPost_ret (results_cell_mid rfl _ _ (ab) (#[.int .i64 r.code,.slice A9 r.data.length k9,.bool r.valid,.int .i64 r.count]:Array Value).toList _ rfl hrg Tryz.underlying42 rfl ans8_size) rfl ?_
   exact ⟨A9,k9,by rw [HD.out] <;> rfl,by rw [HD.out];exact (HR9.out.only8 (Nat.le_refl _) (Only.sets (S:=fun k => k = ab) rfl _ 0 (Only.refl _ _)) (fun hp a ha e => hne9.out a hp ha e)).more (by rw [set4_size];exact Nat.le_refl _),by rw [HD.out];exact HC9.out,below_put4 HB9.out (by have:=HAL.out;omega) _,by rw [HD.out];exact fun hp q hq => (HP9.out hp q hq).imp (fun h => Nat.le_trans HW7.out h) id⟩
  have n4:=ho
  clear ho
  by_cases ho:y.op = 5
  ·have HO:=hid ho
   clear ho
   obtain ⟨kk,hkk,hKk⟩:=portK_of (ref_port HZ.out (by rw [HO.out];decide))
   obtain ⟨cb,co,x0,x1,x2,x3,x4,x5,x6,eca,hcb,hx7,-,hcell⟩:=HX.out.rc.at7 HWX.out.wc hkk
   have HKN:=hid (show ch8 c y = kk from by unfold ch8;rw [hKk,Int.toNat_natCast])
   have HCELL:=hid hcell
   have HDEP:=hid (show dep8 c (ch8 c y) = x4 from by rw [HKN.out];unfold dep8;rw [row_at hx7];rfl)
   have HKIN:=hid (show kind8 c (ch8 c y) = x0 from by rw [HKN.out];unfold kind8;rw [row_at hx7];rfl)
   have hkl:(kk:Int) < (c.chans.length:Int):=by omega
   have HKK:=hid (show K = (kk:Int) from by rw [← HKE.out];exact hKk)
   have HCB:=hid hcb
   have HWT:=hid (fun (V:World) (hV:Below w.heap.size w V) => waits_b c ⟨pa,pc,ca,cc,aa,ac,ba,bc⟩ A ak l (kk:Int) V (HX.out.later hV) HWX.out HLX.out (HR.out.later hV) HN.out (HQK.out kk) HL.out)
   obtain ⟨qv,hqv⟩:∃ qv,dQv c l (kk:Int) = qv:=⟨_,rfl⟩
   rw [hqv] at HWT
   have HQV:=hid (show dQv c l (portK c y.port) = qv from by rw [hKk];exact hqv)
   have eca:ca = some ⟨cb,co,none⟩:=eca
   subst eca
   simp only [cfgCells] at HWT
   clear hcell hx7 hcb hqv hkk hKk
   obtain ⟨c0,c1,c2,c3,c4,c5⟩:=HBX.out w7 (HBX3.out.trans (HB37.out.mono HBX3.out.size))
   obtain ⟨g0,g1,g2,g3,g4,g5,g6⟩:=HCELL.out w7 HBV.out
   rw [HO.out] at y1
   go_wp2_with fail
   obtain ⟨qb,hqb⟩:∃ k,k = w.heap.size:=⟨_,rfl⟩
   have EQB:=hid hqb
   clear hqb
   have HQL:=hid (show qb < w7.heap.size from by have:=EQB.out;have:=HAL.out;have:=HB37.out.size;omega)
   have HCBL:=hid (show cb < w7.heap.size from by have:=HCB.out;have:=HBV.out.size;omega)
   rw [← EQB.out] at c0 c1 c2 c3 c4 c5
   rw [HKK.out,← EQB.out]
   refine wp_region_held_drew (S:=(fun W' => Below w7.heap.size w7 W')) (by kernel_rfl) (by exact (Below.refl _ _).drew) (fun hHeld => ?_)
   refine wpAnyH_take (i:=0) rfl (by kernel_rfl) (by kernel_rfl) (by kernel_rfl) (fun _ _ _ h => h) (Or.inl ⟨by rfl,by intro w hSw;have z0:=(hSw.cell (p:=⟨qb,0,none⟩) HQL.out).trans c0;have z1:=(hSw.cell (p:=⟨qb,1,none⟩) HQL.out).trans c1;have z2:=(hSw.cell (p:=⟨qb,2,none⟩) HQL.out).trans c2;have z3:=(hSw.cell (p:=⟨qb,3,none⟩) HQL.out).trans c3;have z4:=(hSw.cell (p:=⟨qb,4,none⟩) HQL.out).trans c4;have z5:=(hSw.cell (p:=⟨qb,5,none⟩) HQL.out).trans c5;(go_simp <;> with_reducible rfl)⟩) (by assumption) ?_
   (try simp only [Zc])
   refine wpAnyH_take (i:=1) rfl (by kernel_rfl) (by kernel_rfl) (by kernel_rfl) (fun _ _ _ h => h) (Or.inl ⟨by rfl,by intro w hSw;(go_simp <;> with_reducible rfl)⟩) (by assumption) ?_
   (try simp only [Zc])
   refine wpAnyH_take (i:=2) rfl (by kernel_rfl) (by kernel_rfl) (by kernel_rfl) (fun _ _ _ h => h) (Or.inl ⟨by rfl,by intro w hSw;(go_simp <;> with_reducible rfl)⟩) (by assumption) ?_
   (try simp only [Zc])
   refine wpAnyH_take (i:=5) rfl (by kernel_rfl) (by kernel_rfl) (by kernel_rfl) (fun _ _ _ h => h) (Or.inl ⟨by rfl,by intro w hSw;(go_simp <;> with_reducible rfl)⟩) (by assumption) ?_
   (try simp only [Zc])
   refine wpAnyH_take (i:=6) rfl (by kernel_rfl) (by kernel_rfl) (by kernel_rfl) (fun _ _ _ h => h) (Or.inl ⟨by rfl,by intro w hSw;have z1:=(hSw.cell (p:=⟨qb,1,none⟩) HQL.out).trans c1;(go_simp <;> with_reducible rfl)⟩) (by assumption) ?_
   (try simp only [Zc])
   refine wpAnyH_take (i:=7) rfl (by kernel_rfl) (by kernel_rfl) (by kernel_rfl) (fun _ _ _ h => h) (Or.inl ⟨by rfl,by intro w hSw;(go_simp <;> with_reducible rfl)⟩) (by assumption) ?_
   (try simp only [Zc])
   refine wpAnyH_take (i:=8) rfl (by kernel_rfl) (by kernel_rfl) (by kernel_rfl) (fun _ _ _ h => h) (Or.inl ⟨by rfl,by intro w hSw;(go_simp <;> with_reducible rfl)⟩) (by assumption) ?_
   (try simp only [Zc])
   refine wpAnyH_take (i:=9) rfl (by kernel_rfl) (by kernel_rfl) (by kernel_rfl) (fun _ _ _ h => h) (Or.inl ⟨by rfl,by intro w hSw;(go_simp <;> with_reducible rfl)⟩) (by assumption) ?_
   (try simp only [Zc])
   refine wpAnyH_take (i:=10) rfl (by kernel_rfl) (by kernel_rfl) (by kernel_rfl) (fun _ _ _ h => h) (Or.inl ⟨by rfl,by intro w hSw;have z2:=(hSw.cell (p:=⟨cb,co + kk * 7 + 4,none⟩) HCBL.out).trans g4;(go_simp <;> with_reducible rfl)⟩) (by assumption) ?_
   (try simp only [Zc])
   refine wpAnyH_ready (rs:=[3]) (by kernel_rfl) (by simp) (AllReadyH.cons rfl (fun K hK => ?_) AllReadyH.nil)
   go_simp
   refine (HWT.out w7.drew (HBV.out.drew)).mono ?_
   rintro e9 w9 ⟨v9,rfl,hown9,hb9o⟩
   (try go_wp2_with fail)
   obtain ⟨A9,k9,rfl,-,-⟩:=hown9.slice
   have hb9:=(Below.refl w7.heap.size w7).drew.trans hb9o
   have HB9:=hid hb9
   clear hb9 hb9o hHeld
   refine hK.out _ _ (by exact HB9.out) (fun hHeld => ?_)
   clear hK K
   (try simp only [Zc])
   refine wpAnyH_take (i:=4) rfl (by kernel_rfl) (by kernel_rfl) (by kernel_rfl) (fun _ _ _ h => h) (Or.inl ⟨by rfl,by intro w hSw;(go_simp <;> with_reducible rfl)⟩) (by assumption) ?_
   (try simp only [Zc])
   refine wpAnyH_take (i:=11) rfl (by kernel_rfl) (by kernel_rfl) (by kernel_rfl) (fun _ _ _ h => h) (Or.inl ⟨by rfl,by intro w hSw;(go_simp <;> with_reducible rfl)⟩) (by assumption) ?_
   (try simp only [Zc])
   refine wpAnyH_done (by kernel_rfl) ?_ _
   clear hHeld
   have hA9:=(HB9.out.block ab (by have:=HAL.out;have:=HB37.out.size;omega)).trans hA7
   have HBF:=hid (HBV.out.trans (HB9.out.mono HBV.out.size))
   clear y1 c0 c1 c2 c3 c4 c5 g0 g1 g2 g3 g4 g5 g6 hA7
   by_cases hfu:x4 ≤ (qv.length:Int)
   ·have HFU:=hid hfu
    clear hfu
    have HD:=hid (show dDo c l y = code8 2 from by unfold dDo dRef;rw [HZ.out,if_neg (by decide),if_neg (by rw [HO.out];decide),if_pos HO.out,HQV.out,HDEP.out,if_pos HFU.out])
    have hfu:=HFU.out
    have hdep:(decide ((qv.length:Int) ≥ x4)) = true:=by simp;omega
    have hdep2:(decide (x4 ≤ (qv.length:Int))) = true:=by simp;omega
    have hfu2:¬ ((qv.length:Int) < x4):=by omega
    have hth:=there_blk (W:=w9) hA9 (n:=(#[.int .i64 2,.slice none 0 0,.bool false,.int .i64 0]:Array Value).size) rfl
    have hsz4:(Tryz.prog.info? 42).map (·.size) = some (#[.int .i64 2,.slice none 0 0,.bool false,.int .i64 0]:Array Value).size:=ans8_size
    go_wp2_with (with_reducible refine wpList_store_mid (by kernel_rfl) _ _ _ rfl ab 0 #[.int .i64 2,.slice none 0 0,.bool false,.int .i64 0] (by kernel_rfl) (by kernel_rfl) hth hsz4 (by kernel_rfl) ?_)
    have hrg:=World.rangeAt_setCells_same (w9) (ab) 0 (#[.int .i64 2,.slice none 0 0,.bool false,.int .i64 0]:Array Value).toList (by simpa using hth)
    (try simp only [Exit.inBlock,Exit.then])
    refine bodyPost_ret (results_cell_mid rfl _ _ (ab) (#[.int .i64 2,.slice none 0 0,.bool false,.int .i64 0]:Array Value).toList _ rfl hrg Tryz.underlying42 rfl ans8_size) rfl ?_
    exact ⟨none,0,by rw [HD.out] <;> rfl,(fun h => by rw [HD.out] at h;simp [code8,ok8] at h),by rw [HD.out];exact ⟨by simp [code8,ok8],by simp [maxLen],fun _ => rfl⟩,below_put4 HBF.out (by have:=HAL.out;omega) _,fun _ q hq => by cases hq⟩
   ·have HFU:=hid hfu
    clear hfu
    have HD:=hid (show dDo c l y = ok8 from by unfold dDo dRef;rw [HZ.out,if_neg (by decide),if_neg (by rw [HO.out];decide),if_pos HO.out,HQV.out,HDEP.out,if_neg HFU.out])
    have hfu:=HFU.out
    have hdep:(decide ((qv.length:Int) ≥ x4)) = false:=by simp;omega
    have hdep2:(decide (x4 ≤ (qv.length:Int))) = false:=by simp;omega
    have hfu2:(qv.length:Int) < x4:=by omega
    have hth:=there_blk (W:=w9) hA9 (n:=(#[.int .i64 0,.slice none 0 0,.bool false,.int .i64 0]:Array Value).size) rfl
    have hsz4:(Tryz.prog.info? 42).map (·.size) = some (#[.int .i64 0,.slice none 0 0,.bool false,.int .i64 0]:Array Value).size:=ans8_size
    go_wp2_with (with_reducible refine wpList_store_mid (by kernel_rfl) _ _ _ rfl ab 0 #[.int .i64 0,.slice none 0 0,.bool false,.int .i64 0] (by kernel_rfl) (by kernel_rfl) hth hsz4 (by kernel_rfl) ?_)
    have hrg:=World.rangeAt_setCells_same (w9) (ab) 0 (#[.int .i64 0,.slice none 0 0,.bool false,.int .i64 0]:Array Value).toList (by simpa using hth)
    (try simp only [Exit.inBlock,Exit.then])
    refine bodyPost_ret (results_cell_mid rfl _ _ (ab) (#[.int .i64 0,.slice none 0 0,.bool false,.int .i64 0]:Array Value).toList _ rfl hrg Tryz.underlying42 rfl ans8_size) rfl ?_
    exact ⟨none,0,by rw [HD.out] <;> rfl,(fun h => by rw [HD.out] at h;simp [code8,ok8] at h),by rw [HD.out];exact ⟨by simp [code8,ok8],by simp [maxLen],fun _ => rfl⟩,below_put4 HBF.out (by have:=HAL.out;omega) _,fun _ q hq => by cases hq⟩
  have n5:=ho
  clear ho
  by_cases ho:y.op = 6
  ·have HO:=hid ho
   clear ho
   obtain ⟨kk,hkk,hKk⟩:=portK_of (ref_port HZ.out (by rw [HO.out];decide))
   obtain ⟨cb,co,x0,x1,x2,x3,x4,x5,x6,eca,hcb,hx7,-,hcell⟩:=HX.out.rc.at7 HWX.out.wc hkk
   have HKN:=hid (show ch8 c y = kk from by unfold ch8;rw [hKk,Int.toNat_natCast])
   have HCELL:=hid hcell
   have HDEP:=hid (show dep8 c (ch8 c y) = x4 from by rw [HKN.out];unfold dep8;rw [row_at hx7];rfl)
   have HKIN:=hid (show kind8 c (ch8 c y) = x0 from by rw [HKN.out];unfold kind8;rw [row_at hx7];rfl)
   have hkl:(kk:Int) < (c.chans.length:Int):=by omega
   have HKK:=hid (show K = (kk:Int) from by rw [← HKE.out];exact hKk)
   have HCB:=hid hcb
   have HWT:=hid (fun (V:World) (hV:Below w.heap.size w V) => waits_b c ⟨pa,pc,ca,cc,aa,ac,ba,bc⟩ A ak l (kk:Int) V (HX.out.later hV) HWX.out HLX.out (HR.out.later hV) HN.out (HQK.out kk) HL.out)
   obtain ⟨qv,hqv⟩:∃ qv,dQv c l (kk:Int) = qv:=⟨_,rfl⟩
   rw [hqv] at HWT
   have HQV:=hid (show dQv c l (portK c y.port) = qv from by rw [hKk];exact hqv)
   have eca:ca = some ⟨cb,co,none⟩:=eca
   subst eca
   simp only [cfgCells] at HWT
   clear hcell hx7 hcb hqv hkk hKk
   obtain ⟨c0,c1,c2,c3,c4,c5⟩:=HBX.out w7 (HBX3.out.trans (HB37.out.mono HBX3.out.size))
   obtain ⟨g0,g1,g2,g3,g4,g5,g6⟩:=HCELL.out w7 HBV.out
   rw [HO.out] at y1
   go_wp2_with fail
   rw [HKK.out]
   refine (HWT.out w7 HBV.out).mono ?_
   rintro e9 w9 ⟨v9,rfl,hown9,hb9⟩
   obtain ⟨A9,k9,rfl,-,-⟩:=hown9.slice
   have HB9:=hid hb9
   have HBF:=hid (HBV.out.trans (hb9.mono HBV.out.size))
   have hA9:=(hb9.block ab (by have:=HAL.out;have:=HB37.out.size;omega)).trans hA7
   clear hb9 y1 c0 c1 c2 c3 c4 c5 g0 g1 g2 g3 g4 g5 g6 hA7
   cases qv with
   | nil =>
    have HD:=hid (show dDo c l y = code8 2 from by unfold dDo dRef;rw [HZ.out,if_neg (by decide),if_neg (by rw [HO.out];decide),if_neg (by rw [HO.out];decide),if_pos HO.out,HQV.out])
    clear hown9
    have hth:=there_blk (W:=w9) hA9 (n:=(#[.int .i64 2,.slice none 0 0,.bool false,.int .i64 0]:Array Value).size) rfl
    have hsz4:(Tryz.prog.info? 42).map (·.size) = some (#[.int .i64 2,.slice none 0 0,.bool false,.int .i64 0]:Array Value).size:=ans8_size
    go_wp2_with (with_reducible refine wpList_store_mid (by kernel_rfl) _ _ _ rfl ab 0 #[.int .i64 2,.slice none 0 0,.bool false,.int .i64 0] (by kernel_rfl) (by kernel_rfl) hth hsz4 (by kernel_rfl) ?_)
    have hrg:=World.rangeAt_setCells_same (w9) (ab) 0 (#[.int .i64 2,.slice none 0 0,.bool false,.int .i64 0]:Array Value).toList (by simpa using hth)
    (try simp only [Exit.inBlock,Exit.then])
    refine bodyPost_ret (results_cell_mid rfl _ _ (ab) (#[.int .i64 2,.slice none 0 0,.bool false,.int .i64 0]:Array Value).toList _ rfl hrg Tryz.underlying42 rfl ans8_size) rfl ?_
    exact ⟨none,0,by rw [HD.out] <;> rfl,(fun h => by rw [HD.out] at h;simp [code8,ok8] at h),by rw [HD.out];exact ⟨by simp [code8,ok8],by simp [maxLen],fun _ => rfl⟩,below_put4 HBF.out (by have:=HAL.out;omega) _,fun _ q hq => by cases hq⟩
   | cons u r =>
    have HD:=hid (show dDo c l y = ⟨0,u.rd,false,0⟩ from by unfold dDo dRef;rw [HZ.out,if_neg (by decide),if_neg (by rw [HO.out];decide),if_neg (by rw [HO.out];decide),if_pos HO.out,HQV.out])
    have HUI:Hid (∃ (i:Nat) (e:Pv),l[i]? = some e ∧ e.x = u):=hid (by
     rcases dQv_mem c (portK c y.port) l [] u (by rw [show l.foldl (qStep c (portK c y.port)) [] = u :: r from HQV.out];simp) with h | h
     ·cases h
     ·exact h)
    have HUR:Hid (CRows w9 w.heap.size u):=hid (by
     obtain ⟨i,e,h1,h2⟩:=HUI.out
     obtain ⟨b,o,e',hA,hb,he,hwf,hxc⟩:=HR.out.at_ (show i < l.length from (List.getElem?_eq_some_iff.1 h1).1)
     rw [h1] at he;cases he
     rw [← h2];exact (hxc w9 HBF.out).2)
    obtain ⟨g9,o9,n9,hv9,hg9,hgl9,hn9,hm9,-,hc9⟩:=OwnsOff.lies hown9 (by simp)
    cases hv9
    have u0:w9.cell? ⟨g9,o9,none⟩ = some (.slice u.ra u.rd.length u.rc):=hc9 0 _ rfl
    have hlen:(0:Int) < ((u :: r).length:Int):=by simp <;> omega
    have hl2:(((u :: r).length:Int) == 0) = false:=by simp <;> omega
    clear hown9 hc9 hn9 hm9
    obtain ⟨nq,hnq⟩:∃ n,(u :: r).length = n:=⟨_,rfl⟩
    rw [hnq] at hlen hl2 ⊢
    clear hnq
    have hth:=there_blk (W:=w9) hA9 (n:=(#[.int .i64 0,.slice u.ra u.rd.length u.rc,.bool false,.int .i64 0]:Array Value).size) rfl
    have hsz4:(Tryz.prog.info? 42).map (·.size) = some (#[.int .i64 0,.slice u.ra u.rd.length u.rc,.bool false,.int .i64 0]:Array Value).size:=ans8_size
    go_wp2_with (with_reducible refine wpList_store_mid (by kernel_rfl) _ _ _ rfl ab 0 #[.int .i64 0,.slice u.ra u.rd.length u.rc,.bool false,.int .i64 0] (by kernel_rfl) (by kernel_rfl) hth hsz4 (by kernel_rfl) ?_)
    have hrg:=World.rangeAt_setCells_same (w9) (ab) 0 (#[.int .i64 0,.slice u.ra u.rd.length u.rc,.bool false,.int .i64 0]:Array Value).toList (by simpa using hth)
    (try simp only [Exit.inBlock,Exit.then])
    refine bodyPost_ret (results_cell_mid rfl _ _ (ab) (#[.int .i64 0,.slice u.ra u.rd.length u.rc,.bool false,.int .i64 0]:Array Value).toList _ rfl hrg Tryz.underlying42 rfl ans8_size) rfl ?_
    exact ⟨u.ra,u.rc,by rw [HD.out] <;> rfl,by rw [HD.out];exact (HUR.out.rr.only8 HBF.out.size (Only.sets (S:=fun k => k = ab) rfl _ 0 (Only.refl _ _)) (fun hp a ha e2 => by have h1:=row8_lt HUR.out.rr hp a ha;have e2:a.block = ab:=e2;have:=HAL.out;omega)).more (by rw [set4_size];exact HBF.out.size),by rw [HD.out];exact HUR.out.rl,below_put4 HBF.out (by have:=HAL.out;omega) _,by rw [HD.out];exact fun _ q hq => by obtain ⟨i,e,h1,h2⟩:=HUI.out;exact .inr ⟨i,e,h1,by rw [h2],by rw [h2]⟩⟩
  have n6:=ho
  clear ho
  by_cases ho:y.op = 7
  ·have HO:=hid ho
   clear ho
   obtain ⟨kk,hkk,hKk⟩:=portK_of (ref_port HZ.out (by rw [HO.out];decide))
   obtain ⟨cb,co,x0,x1,x2,x3,x4,x5,x6,eca,hcb,hx7,-,hcell⟩:=HX.out.rc.at7 HWX.out.wc hkk
   have HKN:=hid (show ch8 c y = kk from by unfold ch8;rw [hKk,Int.toNat_natCast])
   have HCELL:=hid hcell
   have HDEP:=hid (show dep8 c (ch8 c y) = x4 from by rw [HKN.out];unfold dep8;rw [row_at hx7];rfl)
   have HKIN:=hid (show kind8 c (ch8 c y) = x0 from by rw [HKN.out];unfold kind8;rw [row_at hx7];rfl)
   have hkl:(kk:Int) < (c.chans.length:Int):=by omega
   have HKK:=hid (show K = (kk:Int) from by rw [← HKE.out];exact hKk)
   have HCB:=hid hcb
   have HWT:=hid (fun (V:World) (hV:Below w.heap.size w V) => waits_b c ⟨pa,pc,ca,cc,aa,ac,ba,bc⟩ A ak l (kk:Int) V (HX.out.later hV) HWX.out HLX.out (HR.out.later hV) HN.out (HQK.out kk) HL.out)
   obtain ⟨qv,hqv⟩:∃ qv,dQv c l (kk:Int) = qv:=⟨_,rfl⟩
   rw [hqv] at HWT
   have HQV:=hid (show dQv c l (portK c y.port) = qv from by rw [hKk];exact hqv)
   have eca:ca = some ⟨cb,co,none⟩:=eca
   subst eca
   simp only [cfgCells] at HWT
   clear hcell hx7 hcb hqv hkk hKk
   obtain ⟨c0,c1,c2,c3,c4,c5⟩:=HBX.out w7 (HBX3.out.trans (HB37.out.mono HBX3.out.size))
   obtain ⟨g0,g1,g2,g3,g4,g5,g6⟩:=HCELL.out w7 HBV.out
   rw [HO.out] at y1
   by_cases hki:x0 = 2
   ·have HD:=hid (show dDo c l y = ⟨0,[],false,(qv.length:Int)⟩ from by unfold dDo dRef;rw [HZ.out,if_neg (by decide),if_neg (by rw [HO.out];decide),if_neg (by rw [HO.out];decide),if_neg (by rw [HO.out];decide),if_pos HO.out,HKIN.out,if_pos hki,HQV.out])
    have hx2:(x0 == 2) = true:=by simp [hki]
    clear hki
    rw [HKK.out]
    go_wp2_with fail
    skip
    skip
    refine (HWT.out w7 HBV.out).mono ?_
    rintro e9 w9 ⟨v9,rfl,hown9,hb9⟩
    obtain ⟨A9,k9,rfl,-,-⟩:=hown9.slice
    have HB9:=hid hb9
    have HBF:=hid (HBV.out.trans (hb9.mono HBV.out.size))
    have hA9:=(hb9.block ab (by have:=HAL.out;have:=HB37.out.size;omega)).trans hA7
    clear hb9 y1 c0 c1 c2 c3 c4 c5 g0 g1 g2 g3 g4 g5 g6 hA7
    clear hown9
    have hth:=there_blk (W:=w9) hA9 (n:=(#[.int .i64 0,.slice none 0 0,.bool false,.int .i64 qv.length]:Array Value).size) rfl
    have hsz4:(Tryz.prog.info? 42).map (·.size) = some (#[.int .i64 0,.slice none 0 0,.bool false,.int .i64 qv.length]:Array Value).size:=ans8_size
    go_wp2_with (with_reducible refine wpList_store_mid (by kernel_rfl) _ _ _ rfl ab 0 #[.int .i64 0,.slice none 0 0,.bool false,.int .i64 qv.length] (by kernel_rfl) (by kernel_rfl) hth hsz4 (by kernel_rfl) ?_)
    have hrg:=World.rangeAt_setCells_same (w9) (ab) 0 (#[.int .i64 0,.slice none 0 0,.bool false,.int .i64 qv.length]:Array Value).toList (by simpa using hth)
    (try simp only [Exit.inBlock,Exit.then])
    refine bodyPost_ret (results_cell_mid rfl _ _ (ab) (#[.int .i64 0,.slice none 0 0,.bool false,.int .i64 qv.length]:Array Value).toList _ rfl hrg Tryz.underlying42 rfl ans8_size) rfl ?_
    exact ⟨none,0,by rw [HD.out] <;> rfl,(fun h => by rw [HD.out] at h;simp [code8,ok8] at h),by rw [HD.out];exact ⟨by simp [code8,ok8],by simp [maxLen],fun _ => rfl⟩,below_put4 HBF.out (by have:=HAL.out;omega) _,fun _ q hq => by cases hq⟩
   ·obtain ⟨q,hq⟩:∃ q,decide (y.port ∈ (dSt l y.part).valid) = q:=⟨_,rfl⟩
    have HD:=hid (show dDo c l y = ⟨0,[],q,0⟩ from by unfold dDo dRef;rw [HZ.out,if_neg (by decide),if_neg (by rw [HO.out];decide),if_neg (by rw [HO.out];decide),if_neg (by rw [HO.out];decide),if_pos HO.out,HKIN.out,if_neg hki,← hq])
    have hx2:(x0 == 2) = false:=by simp [hki]
    have s3:w7.cell? ⟨sb,3,none⟩ = some (.slice A2 (dSt l y.part).valid.length k2):=blk_at HS7.out (i:=3) rfl
    have y2:w7.cell? ⟨W.heap.size,2,none⟩ = some (.int .i64 y.port):=HY7.out.b_port
    have hvl:=(dSt_len y.part l l.length).2
    rw [List.take_length] at hvl
    have HHS:=has18_b A2 k2 (dSt l y.part).valid y.port w7 HV7.out (by have:=HL.out;omega)
    rw [hq] at HHS
    have HHS:=hid HHS
    rw [HKK.out]
    clear hvl hki hq
    go_wp2_with fail
    refine HHS.out.mono ?_
    rintro e9 w9 ⟨rfl,hw9⟩
    subst hw9
    clear y1 y2 s3 c0 c1 c2 c3 c4 c5 g0 g1 g2 g3 g4 g5 g6
    have hth:=there_blk (W:=w7) hA7 (n:=(#[.int .i64 0,.slice none 0 0,.bool q,.int .i64 0]:Array Value).size) rfl
    have hsz4:(Tryz.prog.info? 42).map (·.size) = some (#[.int .i64 0,.slice none 0 0,.bool q,.int .i64 0]:Array Value).size:=ans8_size
    go_wp2_with (with_reducible refine wpList_store_mid (by kernel_rfl) _ _ _ rfl ab 0 #[.int .i64 0,.slice none 0 0,.bool q,.int .i64 0] (by kernel_rfl) (by kernel_rfl) hth hsz4 (by kernel_rfl) ?_)
    have hrg:=World.rangeAt_setCells_same (w7) (ab) 0 (#[.int .i64 0,.slice none 0 0,.bool q,.int .i64 0]:Array Value).toList (by simpa using hth)
    (try simp only [Exit.inBlock,Exit.then])
    refine bodyPost_ret (results_cell_mid rfl _ _ (ab) (#[.int .i64 0,.slice none 0 0,.bool q,.int .i64 0]:Array Value).toList _ rfl hrg Tryz.underlying42 rfl ans8_size) rfl ?_
    exact ⟨none,0,by rw [HD.out] <;> rfl,(fun h => by rw [HD.out] at h;simp [code8,ok8] at h),by rw [HD.out];exact ⟨by simp [code8,ok8],by simp [maxLen],fun _ => rfl⟩,below_put4 HBV.out (by have:=HAL.out;omega) _,fun _ q hq => by cases hq⟩
  have n7:=ho
  clear ho
  by_cases ho:y.op = 8
  ·have HO:=hid ho
   clear ho
   obtain ⟨v,hv⟩:∃ v,dWd l y.addr = v:=⟨_,rfl⟩
   have HD:=hid (show dDo c l y = ⟨0,[v],false,0⟩ from by unfold dDo dRef;rw [HZ.out,if_neg (by decide),hv];simp [HO.out])
   have HCE:=hid (fun (V:World) (hV:Below w.heap.size w V) => cell20_b A ak l y.addr V (HR.out.later hV) HK.out HL.out)
   rw [hv] at HCE
   have y3:w7.cell? ⟨W.heap.size,3,none⟩ = some (.int .u64 y.addr):=HY7.out.b_addr
   rw [HO.out] at y1
   clear hv
   go_wp2_with fail
   refine (HCE.out w7 HBV.out).mono ?_
   rintro e8 w8 ⟨rfl,hb8⟩
   obtain ⟨w9,HW9,hb89,hs9,x9⟩:=box_new w8 #[.int .u32 v] 89
   have hX9:=x9 w9 (Below.refl _ _)
   have HB78:=hid hb8.size
   have hb79:=hb8.trans (hb89.mono hb8.size)
   have HBF:=hid (HBV.out.trans (hb79.mono HBV.out.size))
   have hA9:=(hb79.block ab (by have:=HAL.out;have:=HB37.out.size;omega)).trans hA7
   have HN9:=hid (show ab < w8.heap.size from by have:=HAL.out;have:=HB37.out.size;have:=hb8.size;omega)
   obtain ⟨vb,hvb⟩:∃ k,k = w8.heap.size:=⟨_,rfl⟩
   rw [← hvb] at hX9
   have EV:=hid hvb
   have HR9:Hid (IntRowK .u32 w9 w9.heap.size (some ⟨vb,0,none⟩) [v]):=hid (fun _ => ⟨vb,0,rfl,(Array.getElem?_eq_some_iff.1 hX9).1,fun i hi => by
    obtain rfl:i = 0:=by simpa using hi
    exact blk_at hX9 (i:=0) rfl⟩)
   clear hb8 hb89 hs9 x9 hX9 hb79 hvb y1 y3 hA7
   have hth:=there_blk (W:=w9) hA9 (n:=(#[.int .i64 0,.slice (some ⟨vb,0,none⟩) 1 1,.bool false,.int .i64 0]:Array Value).size) rfl
   have hsz4:(Tryz.prog.info? 42).map (·.size) = some (#[.int .i64 0,.slice (some ⟨vb,0,none⟩) 1 1,.bool false,.int .i64 0]:Array Value).size:=ans8_size
   go_wp2_with (first | (rw [← HW9.out];(try simp only [← EV.out])) | (with_reducible refine wpList_store_mid (by kernel_rfl) _ _ _ rfl ab 0 #[.int .i64 0,.slice (some ⟨vb,0,none⟩) 1 1,.bool false,.int .i64 0] (by kernel_rfl) (by kernel_rfl) hth hsz4 (by kernel_rfl) ?_))
   have hrg:=World.rangeAt_setCells_same (w9) (ab) 0 (#[.int .i64 0,.slice (some ⟨vb,0,none⟩) 1 1,.bool false,.int .i64 0]:Array Value).toList (by simpa using hth)
   (try simp only [Exit.inBlock,Exit.then])
   refine bodyPost_ret (results_cell_mid rfl _ _ (ab) (#[.int .i64 0,.slice (some ⟨vb,0,none⟩) 1 1,.bool false,.int .i64 0]:Array Value).toList _ rfl hrg Tryz.underlying42 rfl ans8_size) rfl ?_
   exact ⟨(some ⟨vb,0,none⟩),1,by rw [HD.out] <;> rfl,by rw [HD.out];exact (HR9.out.only8 (Nat.le_refl _) (Only.sets (S:=fun k => k = ab) rfl _ 0 (Only.refl _ _)) (fun hp a ha e => by cases ha;have e:vb = ab:=e;have:=EV.out;have:=HN9.out;omega)).more (by rw [set4_size];exact Nat.le_refl _),by rw [HD.out];exact ⟨by simp,by simp [maxLen],fun h => by cases h⟩,below_put4 HBF.out (by have:=HAL.out;omega) _,fun _ q hq => by cases hq;have:=EV.out;have:=HB78.out;have:=HBV.out.size;exact .inl (by show w.heap.size ≤ vb;omega)⟩
  have n8:=ho
  clear ho
  have HO:=hid (show y.op = 9 from by have:=HO19.out;omega)
  clear n1 n2 n3 n4 n5 n6 n7 n8
  have HD:=hid (show dDo c l y = ok8 from by unfold dDo dRef;rw [HZ.out,if_neg (by decide)];simp [HO.out])
  rw [HO.out] at y1
  have hth:=there_blk (W:=w7) hA7 (n:=(#[.int .i64 0,.slice none 0 0,.bool false,.int .i64 0]:Array Value).size) rfl
  have hsz4:(Tryz.prog.info? 42).map (·.size) = some (#[.int .i64 0,.slice none 0 0,.bool false,.int .i64 0]:Array Value).size:=ans8_size
  go_wp2_with (with_reducible refine wpList_store_mid (by kernel_rfl) _ _ _ rfl ab 0 #[.int .i64 0,.slice none 0 0,.bool false,.int .i64 0] (by kernel_rfl) (by kernel_rfl) hth hsz4 (by kernel_rfl) ?_)
  have hrg:=World.rangeAt_setCells_same (w7) (ab) 0 (#[.int .i64 0,.slice none 0 0,.bool false,.int .i64 0]:Array Value).toList (by simpa using hth)
  (try simp only [Exit.inBlock,Exit.then])
  refine bodyPost_ret (results_cell_mid rfl _ _ (ab) (#[.int .i64 0,.slice none 0 0,.bool false,.int .i64 0]:Array Value).toList _ rfl hrg Tryz.underlying42 rfl ans8_size) rfl ?_
  exact ⟨none,0,by rw [HD.out] <;> rfl,(fun h => by rw [HD.out] at h;simp [code8,ok8] at h),by rw [HD.out];exact ⟨by simp [code8,ok8],by simp [maxLen],fun _ => rfl⟩,below_put4 HBV.out (by have:=HAL.out;omega) _,fun _ q hq => by cases hq⟩
 ·have HD:=hid (show dDo c l y = code8 z from by unfold dDo dRef;rw [HZ.out,if_pos hz0])
  have hzb:(z != 0) = true:=by simp [hz0]
  clear hz0
  have hA6:=HA6.out
  have hth:=there_blk (W:=w6) hA6 (n:=(#[.int .i64 z,.slice none 0 0,.bool false,.int .i64 0]:Array Value).size) rfl
  have hsz4:(Tryz.prog.info? 42).map (·.size) = some (#[.int .i64 z,.slice none 0 0,.bool false,.int .i64 0]:Array Value).size:=ans8_size
  go_wp2_with (with_reducible refine wpList_store_mid (by kernel_rfl) _ _ _ rfl ab 0 #[.int .i64 z,.slice none 0 0,.bool false,.int .i64 0] (by kernel_rfl) (by kernel_rfl) hth hsz4 (by kernel_rfl) ?_)
  have hrg:=World.rangeAt_setCells_same (w6) (ab) 0 (#[.int .i64 z,.slice none 0 0,.bool false,.int .i64 0]:Array Value).toList (by simpa using hth)
  (try simp only [Exit.inBlock,Exit.then])
  refine bodyPost_ret (results_cell_mid rfl _ _ (ab) (#[.int .i64 z,.slice none 0 0,.bool false,.int .i64 0]:Array Value).toList _ rfl hrg Tryz.underlying42 rfl ans8_size) rfl ?_
  exact ⟨none,0,by rw [HD.out] <;> rfl,(fun h => by rw [HD.out] at h;simp [code8,ok8] at h),by rw [HD.out];exact ⟨by simp [code8,ok8],by simp [maxLen],fun _ => rfl⟩,below_put4 HB6.out (by have:=HAL.out;omega) _,fun _ q hq => by cases hq⟩
end Go.Proofs.YtheeiklgblcjfaaGreatDoor
end
section
namespace Go.Proofs.YtheeiklgblcjfaaGreatDoor
open Go.Lib (hid)
open Go.RowKit Go.Sort
set_option maxRecDepth 100000
/-- The cells of what was done. -/
@[irreducible] def pC (e:Pv):List Value:=cCells e.x ++ [.int .i64 e.code,.slice e.aa e.an e.ac,.bool e.valid,.int .i64 e.count,.int .i64 e.rang,.int .i64 e.took]
theorem pC_len (e:Pv):(pC e).length = 26:=by unfold pC;rw [List.length_append,cCells_len];rfl
theorem pC_one (e:Pv):∀ u ∈ pC e,u.oneCell' = true:=by
 unfold pC
 intro u hu
 rcases List.mem_append.1 hu with h | h
 ·have h1:=cCells_one e.x
  simp only [List.all_toArray] at h1
  exact List.all_eq_true.1 h1 u h
 ·simp at h
  rcases h with h | h | h | h | h | h <;> subst h <;> rfl
def psC (l:List Pv):List Value:=(l.map pC).flatten
theorem psC_app (a b:List Pv):psC (a ++ b) = psC a ++ psC b:=by simp [psC]
theorem psC_one (e:Pv):psC [e] = pC e:=by simp [psC]
theorem psC_at:∀ {l:List Pv} {i:Nat} {e:Pv},l[i]? = some e → ∀ j,j < 26 → (psC l)[i * 26 + j]? = (pC e)[j]?
 | [],i,e,h,_,_ => by simp at h
 | y :: l,0,e,h,j,hj => by
  simp at h;subst h
  rw [show psC (y :: l) = pC y ++ psC l from by simp [psC],Nat.zero_mul,Nat.zero_add,List.getElem?_append_left (by rw [pC_len];exact hj)]
 | y :: l,i + 1,e,h,j,hj => by
  have ih:=psC_at (l:=l) (i:=i) (e:=e) (by simpa using h) j hj
  rw [show psC (y :: l) = pC y ++ psC l from by simp [psC],List.getElem?_append_right (by rw [pC_len];omega),pC_len,show (i + 1) * 26 + j - 26 = i * 26 + j by omega]
  exact ih
theorem pC_x (e:Pv) (j:Nat) (hj:j < 20):(pC e)[j]? = (cCells e.x)[j]?:=by unfold pC;rw [List.getElem?_append_left (by rw [cCells_len];exact hj)]
theorem pC_r (e:Pv) (j:Nat):(pC e)[20 + j]? = ([.int .i64 e.code,.slice e.aa e.an e.ac,.bool e.valid,.int .i64 e.count,.int .i64 e.rang,.int .i64 e.took]:List Value)[j]?:=by
 unfold pC;rw [List.getElem?_append_right (by rw [cCells_len];omega),cCells_len,show 20 + j - 20 = j by omega]
/-- What was done keeps to its words: calls are sound data,numbers of bells and deliveries 0 or more,stamps no ticks behind the last one,what was poked one word. -/
structure PFine (w0:World) (l:List Pv):Prop where
 x:∀ (i:Nat) (e:Pv),l[i]? = some e → CWf e.x ∧ ∀ V,Below w0.heap.size w0 V → CRows V w0.heap.size e.x
 non:PNon l
 st:VSt l
 pk:VPk l
 len:∀ (i:Nat) (e:Pv),l[i]? = some e → e.x.rd.length ≤ 1000000
theorem PFine.nil (w0:World):PFine w0 []:=⟨fun i e h => by simp at h,fun i e h => by simp at h,fun i e h => by simp at h,fun i e h => by simp at h,fun i e h => by simp at h⟩
theorem app_at {α:Type} {l:List α} {e e':α} {i:Nat} (h:(l ++ [e])[i]? = some e'):l[i]? = some e' ∨ e' = e:=by
 by_cases hi:i < l.length
 ·rw [List.getElem?_append_left hi] at h;exact .inl h
 ·have hil:i = l.length:=by have:=(List.getElem?_eq_some_iff.1 h).1;simp at this;omega
  subst hil;simp at h;exact .inr h.symm
theorem PFine.app {w0:World} {l:List Pv} (h:PFine w0 l) (e:Pv) (h1:CWf e.x ∧ ∀ V,Below w0.heap.size w0 V → CRows V w0.heap.size e.x) (h2:0 ≤ e.rang ∧ 0 ≤ e.took) (h3:-1 ≤ e.x.stamp ∧ e.x.stamp ≤ 1099511627776) (h4:e.code = 0 → e.x.op = 9 → 0 < e.x.rd.length) (h5:e.x.rd.length ≤ 1000000):PFine w0 (l ++ [e]):=
 ⟨fun i e' hi => (app_at hi).elim (h.x i e') (fun q => by rw [q];exact h1),fun i e' hi => (app_at hi).elim (h.non i e') (fun q => by rw [q];exact h2),fun i e' hi => (app_at hi).elim (h.st i e') (fun q => by rw [q];exact h3),fun i e' hi => (app_at hi).elim (h.pk i e') (fun q => by rw [q];exact h4),fun i e' hi => (app_at hi).elim (h.len i e') (fun q => by rw [q];exact h5)⟩
/-- A list of what was done,in a block of the caller's own. -/
def PastAt (w:World) (n0:Nat) (v:Value) (l:List Pv):Prop:=OwnsOff w n0 51 26 v l.length (psC l)
theorem PastAt.nil (w:World) (n0:Nat):PastAt w n0 (.slice none 0 0) []:=OwnsOff.nil _ _ _ _
theorem PastAt.row {w w0:World} {n0:Nat} {v:Value} {l:List Pv} (h:PastAt w n0 v l) (hf:PFine w0 l) (hb:Below w0.heap.size w0 w):∃ A k,v = .slice A l.length k ∧ VRow w w.heap.size A l:=by
 obtain ⟨A,k,rfl,-,-⟩:=OwnsOff.slice h
 refine ⟨A,k,rfl,fun hn => ?_⟩
 obtain ⟨g,off,cap,hv,_,hg,_,_,_,hc⟩:=OwnsOff.lies h hn
 cases hv
 refine ⟨g,off,rfl,hg,fun i e he => ?_⟩
 obtain ⟨h1,h2⟩:=hf.x i e he
 have hcell:∀ j v,j < 26 → (pC e)[j]? = some v → w.cell? ⟨g,off + i * 26 + j,none⟩ = some v:=fun j v hj hv => by
  rw [Nat.add_assoc];exact hc _ v ((psC_at he j hj).trans hv)
 refine ⟨⟨fun j v hv => hcell j v (by have:=(List.getElem?_eq_some_iff.1 hv).1;rw [cCells_len] at this;omega) (by rw [pC_x e j (by have:=(List.getElem?_eq_some_iff.1 hv).1;rw [cCells_len] at this;exact this)];exact hv),?_,?_,?_,?_,?_,?_⟩,(h2 w hb).more hb.size,h1⟩
 ·exact hcell 20 _ (by omega) (pC_r e 0)
 ·exact hcell 21 _ (by omega) (pC_r e 1)
 ·exact hcell 22 _ (by omega) (pC_r e 2)
 ·exact hcell 23 _ (by omega) (pC_r e 3)
 ·exact hcell 24 _ (by omega) (pC_r e 4)
 ·exact hcell 25 _ (by omega) (pC_r e 5)
theorem infoP26:(Tryz.prog.info? 51).map (fun i => (i.zero,i.size,i.bytes)) = some (some (.agg #[.int .i64 0,.int .i64 0,.int .i64 0,.int .u64 0,.slice none 0 0,.int .i64 0,.slice none 0 0,.bool false,.int .i64 0,.bool false,.int .i64 0,.int .i64 0,.int .i64 0,.int .i64 0,.int .i64 0,.int .i64 0,.int .i64 0,.int .i64 0,.int .i64 0,.int .i64 0,.int .i64 0,.slice none 0 0,.bool false,.int .i64 0,.int .i64 0,.int .i64 0]),26,256):=by kernel_rfl
section
variable {ops:Array Oper} {rest:List Oper} {o:Oper} {a:Act} {w:World} {Q:Exit → Act → World → Prop} {P:Program}
theorem wpList_builtX (hg:o.guard = none) (t:TypeId) (parts:Array (Nat × Operand)) (ho:o.op = .build t parts) (cells:Array Value) (hf:P.built t (parts.map fun (i,x) => (i,a.eval x)).toList = some cells)
  (h:wpList P ops Q rest (a.put o.dst (.agg cells)) w):wpList P ops Q (o :: rest) a w:=
 wpList_build hg t parts ho (by rw [hf];rfl) (by rw [hf];exact h)
end
theorem built_eff (y:CV) (code:Int) (aa:Option Addr) (an ac:Nat) (va:Bool) (ct:Int):Tryz.prog.built 51 [(0,.agg (cCells y).toArray),(1,.agg #[.int .i64 code,.slice aa an ac,.bool va,.int .i64 ct])] = some (pC ⟨y,code,aa,an,ac,va,ct,0,0⟩).toArray:=by
 unfold pC cCells;kernel_rfl
theorem built_rang (k:Int):Tryz.prog.built 51 [(2,.int .i64 k)] = some (pC ⟨zcv,0,none,0,0,false,0,k,0⟩).toArray:=by
 unfold pC cCells zcv;kernel_rfl
theorem built_took (k:Int):Tryz.prog.built 51 [(3,.int .i64 k)] = some (pC ⟨zcv,0,none,0,0,false,0,0,k⟩).toArray:=by
 unfold pC cCells zcv;kernel_rfl
theorem fill_past (e:Pv):Instr.fill (fun i => some (i * 26,26)) ((Array.range (1 * 26)).map ((Value.agg #[.int .i64 0,.int .i64 0,.int .i64 0,.int .u64 0,.slice none 0 0,.int .i64 0,.slice none 0 0,.bool false,.int .i64 0,.bool false,.int .i64 0,.int .i64 0,.int .i64 0,.int .i64 0,.int .i64 0,.int .i64 0,.int .i64 0,.int .i64 0,.int .i64 0,.int .i64 0,.int .i64 0,.slice none 0 0,.bool false,.int .i64 0,.int .i64 0,.int .i64 0]).cells[· % (Value.agg #[.int .i64 0,.int .i64 0,.int .i64 0,.int .u64 0,.slice none 0 0,.int .i64 0,.slice none 0 0,.bool false,.int .i64 0,.bool false,.int .i64 0,.int .i64 0,.int .i64 0,.int .i64 0,.int .i64 0,.int .i64 0,.int .i64 0,.int .i64 0,.int .i64 0,.int .i64 0,.int .i64 0,.slice none 0 0,.bool false,.int .i64 0,.int .i64 0,.int .i64 0]).cells.size]!)) [(0,.agg (pC e).toArray)] = some (pC e).toArray:=by
 unfold pC cCells;kernel_rfl
section
variable {ops:Array Oper} {rest:List Oper} {o:Oper} {a:Act} {w:World} {Q:Exit → Act → World → Prop} {P:Program}
theorem wpList_builtY (hg:o.guard = none) (t:TypeId) (parts:Array (Nat × Operand)) (ho:o.op = .build t parts) (ps:List (Nat × Value)) (cells:Array Value) (hb:P.built t ps = some cells) (hp:(parts.map fun (i,x) => (i,a.eval x)).toList = ps)
  (h:wpList P ops Q rest (a.put o.dst (.agg cells)) w):wpList P ops Q (o :: rest) a w:=
 wpList_builtX hg t parts ho cells (by rw [hp];exact hb) h
theorem wpList_sliceP (hg:o.guard = none) (parts:Array (Nat × Operand)) (ho:o.op = .buildSlice 35 1 parts) (e:Pv) (hp:(parts.map fun (i,x) => (i,a.eval x)).toList = [(0,.agg (pC e).toArray)])
  (h:wpList Tryz.prog ops Q rest (a.put o.dst (.slice (some ⟨w.heap.size,0,none⟩) 1 1)) (w.alloc (.cells (pC e).toArray 51))):wpList Tryz.prog ops Q (o :: rest) a w:=by
 obtain ⟨iP,hiP,hzP,hsP,hbP⟩:=info_parts infoP26
 refine wpList_buildSlice hg 35 51 1 parts ho (pC e).toArray iP (.agg #[.int .i64 0,.int .i64 0,.int .i64 0,.int .u64 0,.slice none 0 0,.int .i64 0,.slice none 0 0,.bool false,.int .i64 0,.bool false,.int .i64 0,.int .i64 0,.int .i64 0,.int .i64 0,.int .i64 0,.int .i64 0,.int .i64 0,.int .i64 0,.int .i64 0,.int .i64 0,.int .i64 0,.slice none 0 0,.bool false,.int .i64 0,.int .i64 0,.int .i64 0]) Tryz.underlying35 hiP hzP (by rw [hsP];decide) (by rw [hsP];decide) ?_ h
 rw [hp,hsP]
 exact fill_past e
end
end Go.Proofs.YtheeiklgblcjfaaGreatDoor
end
section
namespace Go.Proofs.YtheeiklgblcjfaaGreatDoor
open Go.Lib (hid)
open Go.RowKit Go.Sort
set_option maxRecDepth 100000
theorem take_same20 (xs ys:List Int) (k:Nat) (hx:k < xs.length) (hy:k < ys.length) (h:xs.take k = ys.take k) (he:xs.getD k 0 = ys.getD k 0):xs.take (k + 1) = ys.take (k + 1):=by
 rw [List.take_succ_eq_append_getElem hx,List.take_succ_eq_append_getElem hy,h]
 simp [List.getD_eq_getElem?_getD,hx,hy] at he
 rw [he]
theorem IntRowK.atR20 {K:IntKind} {w:World} {B:Nat} {A:Option Addr} {xs:List Int} (h:IntRowK K w B A xs) {k:Nat} (hk:k < xs.length) :
  ∃ b o,A = some ⟨b,o,none⟩ ∧ ∀ p:Regrown,(grow (redrawn w p.d) p.os).cell? ⟨b,o + k,none⟩ = some (.int K (xs.getD k 0)):=by
 obtain ⟨b,o,rfl,hb,hc⟩:=h (by omega)
 exact ⟨b,o,rfl,fun p => cell_regrown (hc k hk) p.d p.os⟩
set_option maxHeartbeats 1600000 in
theorem same20_b (xs ys:List Int) (A A':Option Addr) (c c':Nat) (w:World) (hx:IntRowK .i64 w w.heap.size A xs) (hy:IntRowK .i64 w w.heap.size A' ys) (hlx:xs.length ≤ 1000000000) :
  Calls Tryz.prog 16 #[.slice A xs.length c,.slice A' ys.length c'] w fun e w' => e = .returned (.bool (decide (xs = ys))) ∧ Below w.heap.size w w':=by
 by_cases hlen:xs.length = ys.length
 ·have hL:=hid hlen
  have hne:((xs.length:Int) != (ys.length:Int)) = false:=by simp [hlen]
  clear hlen
  go_enter Tryz.func16,Tryz.ntmps16
  go_wp2
  go_loopw [5] (fun ix wr => ∃ k:Nat,k ≤ xs.length ∧ ix = .int .i64 k ∧ xs.take k = ys.take k ∧ Below w.heap.size w wr) (fun ix _ => xs.length - (intOf ix).toNat)
  case atStart => exact ⟨0,Nat.zero_le _,rfl,rfl,Below.refl _ _⟩
  case round =>
   obtain ⟨k,hk,rfl,htk,hbc⟩:=hrel
   have HT:=hid htk
   clear htk
   by_cases hlt:k < xs.length
   ·have hlt2:k < ys.length:=by have:=hL.out;omega
    obtain ⟨b,o,rfl,k0⟩:=hx.atR20 hlt
    obtain ⟨b',o',rfl,k1⟩:=hy.atR20 hlt2
    obtain ⟨x,hxx⟩:∃ x,x = xs.getD k 0:=⟨_,rfl⟩
    obtain ⟨y,hyy⟩:∃ y,y = ys.getD k 0:=⟨_,rfl⟩
    rw [← hxx] at k0
    rw [← hyy] at k1
    have HX:=hid hxx;have HY:=hid hyy
    clear hxx hyy hx hy
    by_cases he:x = y
    ·have he1:(x != y) = false:=by simp [he]
     have HE:=hid he
     clear he
     go_wp2_with ((first | with_reducible refine wpList_on hbc ?_ | with_reducible refine wp_on hbc (by kernel_rfl) (by kernel_rfl) ?_);(repeat (go_big_quiet_step (fail)));with_reducible refine wpQuiet_nil ?_;intro wc hbc)
     go_roundw
     case rel => exact ⟨k + 1,by omega,by go_num,take_same20 _ _ _ hlt hlt2 HT.out (by rw [← HX.out,← HY.out,HE.out]),hbc⟩
     case measure => simp [intOf];omega
    ·have he1:(x != y) = true:=by simp [he]
     have HE:=hid he
     clear he
     go_wp2_with ((first | with_reducible refine wpList_on hbc ?_ | with_reducible refine wp_on hbc (by kernel_rfl) (by kernel_rfl) ?_);(repeat (go_big_quiet_step (fail)));with_reducible refine wpQuiet_nil ?_;intro wc hbc)
     go_ret
     exact ⟨by
      have:xs ≠ ys:=fun h => HE.out (by rw [HX.out,HY.out,h])
      simp [this],hbc⟩
   ·have hkk:k = xs.length:=by omega
    have HS:=hid (show xs = ys by have h:=HT.out;rw [hkk,List.take_length,List.take_of_length_le (by have:=hL.out;omega)] at h;exact h)
    clear hkk
    go_wp2
    go_ret
    exact ⟨by simp [HS.out],hbc⟩
 ·have hne:((xs.length:Int) != (ys.length:Int)) = true:=by simp;omega
  have HE:=hid hlen
  clear hlen
  go_enter Tryz.func16,Tryz.ntmps16
  go_wp2
  go_ret
  exact ⟨by
   have:xs ≠ ys:=fun h => HE.out (by rw [h])
   simp [this],Below.refl _ _⟩
end Go.Proofs.YtheeiklgblcjfaaGreatDoor
end
