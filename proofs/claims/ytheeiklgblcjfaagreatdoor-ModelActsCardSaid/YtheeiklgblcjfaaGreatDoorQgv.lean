/- Texts of the ring, joined, what is used of them. No condition but those in the statements. -/
import Derived.BigQuiet
import Derived.BigRegion
import Derived.Deep.MidRow
import Derived.Deep.RegionHeld3
import Derived.Deep.Upon
import Derived.IntWalk
import Derived.Test.YtheeiklgblcjfaaGreatDoorQPkX
import Derived.Test.YtheeiklgblcjfaaGreatDoorQgf
import Derived.Test.YtheeiklgblcjfaaGreatDoorQgu
set_option linter.unusedVariables false
set_option linter.unusedSimpArgs false
section
namespace Go.Proofs.YtheeiklgblcjfaaGreatDoor
open Go.Lib (hid)
open Go.RowKit Go.Sort
set_option maxRecDepth 100000
theorem Tryz.infoW37:(Tryz.prog.info? 37).map (fun i => (i.zero,i.size,i.bytes)) = some (some (.slice none 0 0),1,24):=by kernel_rfl
/-- Rows of words as cells. -/
def wcs (l:List CV):List Value:=l.map (fun y => .slice y.ra y.rd.length y.rc)
theorem wcs_app (a b:List CV):wcs (a ++ b) = wcs a ++ wcs b:=by simp [wcs]
theorem dQv_take {c:Cfg} {l:List Pv} {i:Nat} {e:Pv} (h:l[i]? = some e) (k:Int):dQv c (l.take (i + 1)) k = qStep c k (dQv c (l.take i) k) e:=by rw [take_succ20 h,dQv_app]
theorem dQv_skip (c:Cfg) (k:Int) {l:List Pv} {i:Nat} {e:Pv} (h:l[i]? = some e) (hs:e.rang > 0 ∨ e.took > 0 ∨ e.code ≠ 0 ∨ (e.x.op ≠ 5 ∧ e.x.op ≠ 6) ∨ portK c e.x.port ≠ k):dQv c (l.take (i + 1)) k = dQv c (l.take i) k:=by
 rw [dQv_take h]
 unfold qStep
 rw [if_neg]
 unfold isQ
 intro hh
 simp only [Bool.and_eq_true,Bool.or_eq_true,decide_eq_true_eq] at hh
 obtain ⟨⟨⟨g1,g2⟩,g3⟩,g4⟩:=hh
 rcases hs with hs | hs | hs | hs | hs
 ·rw [eff_no (.inl hs)] at g1;exact absurd g1 (by decide)
 ·rw [eff_no (.inr hs)] at g1;exact absurd g1 (by decide)
 ·exact hs g2
 ·omega
 ·exact hs g4
theorem isQ_yes (c:Cfg) (k:Int) {e:Pv} (hn:0 ≤ e.rang ∧ 0 ≤ e.took) (h1:¬ e.rang > 0) (h2:¬ e.took > 0) (h3:e.code = 0) (h4:e.x.op = 5 ∨ e.x.op = 6) (h5:portK c e.x.port = k):isQ c k e = true:=by
 unfold isQ
 simp only [Bool.and_eq_true,Bool.or_eq_true,decide_eq_true_eq]
 exact ⟨⟨⟨eff_yes hn h1 h2,h3⟩,h4⟩,h5⟩
theorem dQv_put (c:Cfg) (k:Int) {l:List Pv} {i:Nat} {e:Pv} (h:l[i]? = some e) (hq:isQ c k e = true) (ho:e.x.op = 5):dQv c (l.take (i + 1)) k = dQv c (l.take i) k ++ [e.x]:=by
 rw [dQv_take h];unfold qStep;rw [if_pos hq,if_pos ho]
theorem dQv_get (c:Cfg) (k:Int) {l:List Pv} {i:Nat} {e:Pv} (h:l[i]? = some e) (hq:isQ c k e = true) (ho:e.x.op = 6):dQv c (l.take (i + 1)) k = (dQv c (l.take i) k).tail:=by
 rw [dQv_take h];unfold qStep;rw [if_pos hq,if_neg (by omega)]
theorem dQv_len (c:Cfg) (k:Int) (l:List Pv):∀ n,(dQv c (l.take n) k).length ≤ n
 | 0 => Nat.le_refl _
 | n + 1 => by
  have ih:=dQv_len c k l n
  cases h:l[n]? with
  | none =>
   have:=List.getElem?_eq_none_iff.1 h
   rw [List.take_of_length_le (by omega)]
   rw [List.take_of_length_le (by omega)] at ih
   omega
  | some e =>
   rw [dQv_take h]
   unfold qStep
   repeat' split
   all_goals (try simp) <;> omega
/-- The messages that wait,handed back in a new list. -/
def GivesQv (w:World) (vs:List CV) (e:Ending) (w':World):Prop:=∃ v,e = .returned v ∧ OwnsOff w' w.heap.size 37 1 v vs.length (wcs vs) ∧ Below w.heap.size w w'
set_option maxHeartbeats 12800000 in
theorem waits_b (c:Cfg) (x:CfgAt) (A:Option Addr) (ak:Nat) (l:List Pv) (k:Int) (w:World) (hx:CfgIn w w.heap.size c x) (wx:CfgWf c) (lx:CfgFew c) (hr:VRow w w.heap.size A l) (hn:PNon l) (hqk:QOk c l k) (hl:l.length ≤ 1000):Calls Tryz.prog 36 #[.agg (cfgCells c x),.slice A l.length ak,.int .i64 k] w (GivesQv w (dQv c l k)):=by
 obtain ⟨W,HW,hB0,hWs,bx⟩:=one_cbox w c x 29
 have HR:=hid (hr.below hB0)
 have HCH:=hid (fun (y:CV) (V:World) (hy:CWf y) (hV:Below W.heap.size W V) => channel_b c x y V ((hx.later hB0).later hV) wx lx hy)
 have HB0:=hid hB0;have HBX:=hid bx;have HN:=hid hn;have HQK:=hid hqk
 have HLW:=hid hWs
 obtain ⟨pa,pc,ca,cc,aa,ac,ba,bc⟩:=x
 simp only [cfgCells] at HW HCH ⊢
 clear hx hB0 hWs bx wx lx hr hn hqk
 go_enter Tryz.func36,Tryz.ntmps36
 go_wp2_with (first | (rw [← HW.out]))
 go_loopw [7,8] (fun v ix wr => ∃ i:Nat,i ≤ l.length ∧ ix = .int .i64 i ∧ OwnsOff wr W.heap.size 37 1 v (dQv c (l.take i) k).length (wcs (dQv c (l.take i) k)) ∧ Below W.heap.size W wr) (fun _ ix _ => l.length - (intOf ix).toNat)
 case atStart => exact ⟨0,Nat.zero_le _,rfl,OwnsOff.nil _ _ _ _,Below.refl _ _⟩
 case round =>
  obtain ⟨i,hi,rfl,hown,hbr⟩:=hrel
  have HW':=hid hown;have HB:=hid hbr
  by_cases hlt:i < l.length
  ·obtain ⟨b,o,e,rfl,hbl,he,hwf,hxc⟩:=HR.out.at_ hlt
   have hbw:=hbr.mono (show w.heap.size ≤ W.heap.size from HB0.out.size)
   have HXR:=hid (hxc wr hbw).1.x
   obtain ⟨X1,X2,HX1,HX2,hth,hxb1,hxb2,hxs,hxv⟩:=var17 wr e.x #[.int .i64 0,.int .i64 0,.int .i64 0,.int .u64 0,.slice none 0 0,.int .i64 0,.slice none 0 0,.bool false,.int .i64 0,.bool false,.int .i64 0,.int .i64 0,.int .i64 0,.int .i64 0,.int .i64 0,.int .i64 0,.int .i64 0,.int .i64 0,.int .i64 0,.int .i64 0] rfl
   have HXB:=hid hxb2;have HXV:=hid hxv;have HTH:=hid hth
   clear hxb1 hxb2 hxs hxv hth
   have hbX:=hbw.trans (HXB.out.mono (by have:=hbr.size;have:=HB0.out.size;omega))
   have hbe:=(hxc X2 hbX).1
   have k24:X2.cell? ⟨b,o + i * 26 + 24,none⟩ = some (.int .i64 e.rang):=hbe.rang
   have k25:X2.cell? ⟨b,o + i * 26 + 25,none⟩ = some (.int .i64 e.took):=hbe.took
   have k20:X2.cell? ⟨b,o + i * 26 + 20,none⟩ = some (.int .i64 e.code):=hbe.code
   have HW:=HW'
   have hbWX:=hbr.trans (HXB.out.mono hbr.size)
   obtain ⟨c0,c1,c2,c3,c4,c5⟩:=HBX.out X2 hbWX
   have HC:=hid (HCH.out e.x X2 hwf hbWX)
   have HXL:=hid HXV.out.lt
   have hi2:(i:Int) < (l.length:Int):=by omega
   have HQL:=hid (show (dQv c (l.take i) k).length ≤ 1000 from Nat.le_trans (dQv_len c k l i) (by omega))
   have HLT:=hid hlt;have HE:=hid he
   have hnn:=HN.out i e he
   clear hown hbr hlt he hxc hbe hbl hbw hbX hbWX hwf HW'
   by_cases h1:e.rang > 0
   ·clear hnn
    have HS:=hid (dQv_skip c k HE.out (.inl h1))
    go_wp2_with (first | (rw [← HX1.out]) | (with_reducible refine wpList_store_mid (by kernel_rfl) _ _ _ rfl wr.heap.size 0 (cCells e.x).toArray (by kernel_rfl) (by kernel_rfl) HTH.out (cCells_infoA e.x) (cCells_one e.x) ?_) | (rw [← HX2.out]) | (with_reducible refine wpList_loadC (by with_unfolding_all rfl) _ rfl _ _ _ (by with_unfolding_all rfl) HXR.out ?_) | (with_reducible refine wpList_loadC (by with_unfolding_all rfl) _ rfl _ _ _ (by with_unfolding_all rfl) HXV.out ?_))
    go_roundw
    case rel => exact ⟨i + 1,by have:=HLT.out;omega,by go_num,by rw [HS.out];exact HW.out.keptB HXB.out,HB.out.trans (HXB.out.mono HB.out.size)⟩
    case measure => simp [intOf];have:=HLT.out;omega
   by_cases h2:e.took > 0
   ·clear hnn
    have HS:=hid (dQv_skip c k HE.out (.inr (.inl h2)))
    go_wp2_with (first | (rw [← HX1.out]) | (with_reducible refine wpList_store_mid (by kernel_rfl) _ _ _ rfl wr.heap.size 0 (cCells e.x).toArray (by kernel_rfl) (by kernel_rfl) HTH.out (cCells_infoA e.x) (cCells_one e.x) ?_) | (rw [← HX2.out]) | (with_reducible refine wpList_loadC (by with_unfolding_all rfl) _ rfl _ _ _ (by with_unfolding_all rfl) HXR.out ?_) | (with_reducible refine wpList_loadC (by with_unfolding_all rfl) _ rfl _ _ _ (by with_unfolding_all rfl) HXV.out ?_))
    go_roundw
    case rel => exact ⟨i + 1,by have:=HLT.out;omega,by go_num,by rw [HS.out];exact HW.out.keptB HXB.out,HB.out.trans (HXB.out.mono HB.out.size)⟩
    case measure => simp [intOf];have:=HLT.out;omega
   by_cases h3:e.code = 0
   ·have q20:(e.code != 0) = false:=by simp [h3]
    by_cases ho:e.x.op = 5
    ·have q5:(e.x.op != 5) = false:=by simp [ho]
     have x1:X2.cell? ⟨wr.heap.size,1,none⟩ = some (.int .i64 e.x.op):=HXV.out.b_op
     go_wp2_with (first | (rw [← HX1.out]) | (with_reducible refine wpList_store_mid (by kernel_rfl) _ _ _ rfl wr.heap.size 0 (cCells e.x).toArray (by kernel_rfl) (by kernel_rfl) HTH.out (cCells_infoA e.x) (cCells_one e.x) ?_) | (rw [← HX2.out]) | (with_reducible refine wpList_loadC (by with_unfolding_all rfl) _ rfl _ _ _ (by with_unfolding_all rfl) HXR.out ?_) | (with_reducible refine wpList_loadC (by with_unfolding_all rfl) _ rfl _ _ _ (by with_unfolding_all rfl) HXV.out ?_))
     refine HC.out.mono ?_
     rintro e5 w5 ⟨rfl,hb5⟩
     have HB5:=hid (HB.out.trans ((HXB.out.trans (hb5.mono HXB.out.size)).mono HB.out.size))
     have HW5:=hid (HW.out.keptB (HXB.out.trans (hb5.mono HXB.out.size)))
     have HXV5:=hid (HXV.out.later hb5 HXL.out)
     clear hb5 c0 c1 c2 c3 c4 c5 x1 q5  k24 k25 k20
     by_cases hp:portK c e.x.port = k
     ·have HIS:=hid (isQ_yes c k hnn (by omega) (by omega) h3 (.inl ho) hp)
      have HS:=hid (dQv_put c k HE.out HIS.out ho)
      have qp:(portK c e.x.port != k) = false:=by simp [hp]
      have x1:w5.cell? ⟨wr.heap.size,1,none⟩ = some (.int .i64 5):=by rw [← ho];exact HXV5.out.b_op
      have x4:=HXV5.out.b_rd
      clear hnn h1 h2 h3
      obtain ⟨i0,hi0,hz0,hz1,hz2⟩:=info_parts Tryz.infoW37
      have hown:=HW5.out;have hbo:=HB5.out
      clear hp
      go_wp2_with (at_builtin;refine wpList_append_off _ rfl _ _ 100 rfl W.heap.size 37 i0 (.slice none 0 0) 1 24 Tryz.underlying100 hi0 hz0 hz1 hz2 rfl (by decide) _ _ _ rfl (hown.keptB ((Below.refl _ _).alloc (Nat.le_refl _) _)) ⟨w5.heap.size,0,none⟩ 1 1 [.slice e.x.ra e.x.rd.length e.x.rc] rfl rfl (news_new _ _ _) (by simp [Value.oneCell']) (by have:=HQL.out;unfold maxLen;omega) (by have:=HQL.out;omega) (by have:=hbo.size;simp;omega) ?_)
      intro v' w6 hown' hgrow _
      have hb6:=hid ((hbo.alloc hbo.size _).grown hgrow (by have:=hbo.size;simp;omega) (fun i e => (hown.lt i e).1))
      have H3:Hid (OwnsOff w6 W.heap.size 37 1 v' (dQv c (l.take i) k ++ [e.x]).length (wcs (dQv c (l.take i) k ++ [e.x]))):=hid (by rw [List.length_append,wcs_app];exact hown')
      clear hown' hgrow hown hbo
      go_wp2
      go_roundw
      case rel => exact ⟨i + 1,by have:=HLT.out;omega,by go_num,by rw [HS.out];exact H3.out,hb6.out⟩
      case measure => simp [intOf];have:=HLT.out;omega
     ·have qp:(portK c e.x.port != k) = true:=by simp [hp]
      have HS:=hid (dQv_skip c k HE.out (.inr (.inr (.inr (.inr hp)))))
      clear hnn h1 h2 h3 ho
      go_wp2_with fail
      go_roundw
      case rel => exact ⟨i + 1,by have:=HLT.out;omega,by go_num,by rw [HS.out];exact HW5.out,HB5.out⟩
      case measure => simp [intOf];have:=HLT.out;omega
    ·have h5:=ho
     clear ho
     by_cases ho:e.x.op = 6
     ·have q5:(e.x.op != 5) = true:=by simp [ho]
      have q6:(e.x.op != 6) = false:=by simp [ho]
      have x1:X2.cell? ⟨wr.heap.size,1,none⟩ = some (.int .i64 e.x.op):=HXV.out.b_op
      go_wp2_with (first | (rw [← HX1.out]) | (with_reducible refine wpList_store_mid (by kernel_rfl) _ _ _ rfl wr.heap.size 0 (cCells e.x).toArray (by kernel_rfl) (by kernel_rfl) HTH.out (cCells_infoA e.x) (cCells_one e.x) ?_) | (rw [← HX2.out]) | (with_reducible refine wpList_loadC (by with_unfolding_all rfl) _ rfl _ _ _ (by with_unfolding_all rfl) HXR.out ?_) | (with_reducible refine wpList_loadC (by with_unfolding_all rfl) _ rfl _ _ _ (by with_unfolding_all rfl) HXV.out ?_))
      refine HC.out.mono ?_
      rintro e5 w5 ⟨rfl,hb5⟩
      have HB5:=hid (HB.out.trans ((HXB.out.trans (hb5.mono HXB.out.size)).mono HB.out.size))
      have HW5:=hid (HW.out.keptB (HXB.out.trans (hb5.mono HXB.out.size)))
      have HXV5:=hid (HXV.out.later hb5 HXL.out)
      clear hb5 c0 c1 c2 c3 c4 c5 x1 q5 q6 k24 k25 k20
      by_cases hp:portK c e.x.port = k
      ·have HIS:=hid (isQ_yes c k hnn (by omega) (by omega) h3 (.inr ho) hp)
       have HS:=hid (dQv_get c k HE.out HIS.out ho)
       have qp:(portK c e.x.port != k) = false:=by simp [hp]
       have x1:w5.cell? ⟨wr.heap.size,1,none⟩ = some (.int .i64 6):=by rw [← ho];exact HXV5.out.b_op
       have x4:=HXV5.out.b_rd
       clear hnn h1 h2 h3
       obtain ⟨i0,hi0,hz0,hz1,hz2⟩:=info_parts Tryz.infoW37
       obtain ⟨y,r,hyr⟩:∃ y r,dQv c (l.take i) k = y :: r:=by
        cases hd:dQv c (l.take i) k with
        | nil => exact absurd hd (HQK.out i e HE.out HIS.out ho)
        | cons y r => exact ⟨y,r,rfl⟩
       have hrow:=HW5.out
       rw [hyr,List.length_cons] at hrow
       rw [hyr] at HS
       have HS:=hid (HS.out.trans (show (y :: r).tail = r from rfl))
       clear hp hyr
       go_wp2_with (refine wpList_tail_off _ rfl _ _ rfl W.heap.size 37 i0 1 Tryz.underlying100 hi0 hz1 _ _ _ rfl hrow ?_)
       intro v' hown' hob
       have H3:Hid (OwnsOff w5 W.heap.size 37 1 v' r.length (wcs r)):=hid (by have:=hown';simpa [wcs] using this)
       clear hown' hob hrow
       go_wp2
       go_roundw
       case rel => exact ⟨i + 1,by have:=HLT.out;omega,by go_num,by rw [HS.out];exact H3.out,HB5.out⟩
       case measure => simp [intOf];have:=HLT.out;omega
      ·have qp:(portK c e.x.port != k) = true:=by simp [hp]
       have HS:=hid (dQv_skip c k HE.out (.inr (.inr (.inr (.inr hp)))))
       clear hnn h1 h2 h3 ho
       go_wp2_with fail
       go_roundw
       case rel => exact ⟨i + 1,by have:=HLT.out;omega,by go_num,by rw [HS.out];exact HW5.out,HB5.out⟩
       case measure => simp [intOf];have:=HLT.out;omega
     ·have q5:(e.x.op != 5) = true:=by simp [h5]
      have q6:(e.x.op != 6) = true:=by simp [ho]
      have x1:X2.cell? ⟨wr.heap.size,1,none⟩ = some (.int .i64 e.x.op):=HXV.out.b_op
      clear hnn
      have HS:=hid (dQv_skip c k HE.out (.inr (.inr (.inr (.inl ⟨h5,ho⟩)))))
      go_wp2_with (first | (rw [← HX1.out]) | (with_reducible refine wpList_store_mid (by kernel_rfl) _ _ _ rfl wr.heap.size 0 (cCells e.x).toArray (by kernel_rfl) (by kernel_rfl) HTH.out (cCells_infoA e.x) (cCells_one e.x) ?_) | (rw [← HX2.out]) | (with_reducible refine wpList_loadC (by with_unfolding_all rfl) _ rfl _ _ _ (by with_unfolding_all rfl) HXR.out ?_) | (with_reducible refine wpList_loadC (by with_unfolding_all rfl) _ rfl _ _ _ (by with_unfolding_all rfl) HXV.out ?_))
      go_roundw
      case rel => exact ⟨i + 1,by have:=HLT.out;omega,by go_num,by rw [HS.out];exact HW.out.keptB HXB.out,HB.out.trans (HXB.out.mono HB.out.size)⟩
      case measure => simp [intOf];have:=HLT.out;omega
   ·have q20:(e.code != 0) = true:=by simp [h3]
    clear hnn
    have HS:=hid (dQv_skip c k HE.out (.inr (.inr (.inl h3))))
    go_wp2_with (first | (rw [← HX1.out]) | (with_reducible refine wpList_store_mid (by kernel_rfl) _ _ _ rfl wr.heap.size 0 (cCells e.x).toArray (by kernel_rfl) (by kernel_rfl) HTH.out (cCells_infoA e.x) (cCells_one e.x) ?_) | (rw [← HX2.out]) | (with_reducible refine wpList_loadC (by with_unfolding_all rfl) _ rfl _ _ _ (by with_unfolding_all rfl) HXR.out ?_) | (with_reducible refine wpList_loadC (by with_unfolding_all rfl) _ rfl _ _ _ (by with_unfolding_all rfl) HXV.out ?_))
    go_roundw
    case rel => exact ⟨i + 1,by have:=HLT.out;omega,by go_num,by rw [HS.out];exact HW.out.keptB HXB.out,HB.out.trans (HXB.out.mono HB.out.size)⟩
    case measure => simp [intOf];have:=HLT.out;omega
  ·have hil:i = l.length:=by omega
   have hi2:¬ ((i:Int) < (l.length:Int)):=by omega
   have HF:Hid (OwnsOff wr W.heap.size 37 1 u7 (dQv c l k).length (wcs (dQv c l k))):=hid (by rw [hil,List.take_length] at hown;exact hown)
   clear hown hbr hlt hil
   go_wp2
   go_ret
   exact ⟨_,rfl,HF.out.mono HB0.out.size,HB0.out.trans (HB.out.mono HB0.out.size)⟩
end Go.Proofs.YtheeiklgblcjfaaGreatDoor
end
section
namespace Go.Proofs.YtheeiklgblcjfaaGreatDoor
open Go.Lib (hid)
open Go.RowKit Go.Sort
set_option maxRecDepth 100000
/-- An answer;its data lie in new memory,or where one of the calls has them. -/
def GivesDo (w:World) (l:List Pv) (a:An8) (e:Ending) (w':World):Prop:=∃ A k,e = .returned (.agg #[.int .i64 a.code,.slice A a.data.length k,.bool a.valid,.int .i64 a.count]) ∧ IntRowK .u32 w' w'.heap.size A a.data ∧ (a.data.length ≤ k ∧ k ≤ maxLen ∧ (A = none → a.data = [])) ∧ Below w.heap.size w w' ∧ (0 < a.data.length → ∀ q,A = some q → w.heap.size ≤ q.block ∨ ∃ (i:Nat) (e:Pv),l[i]? = some e ∧ A = e.x.ra ∧ a.data = e.x.rd)
theorem set4_size (b:Nat):∀ (vs:List Value) (o:Nat) (X:World),(X.setCells b o vs).heap.size = X.heap.size
 | [],_,_ => rfl
 | v :: r,o,X => by rw [World.setCells,set4_size b r];simp [World.setCell]
theorem fold_none {β:Type} (P:Pv → Bool) (g:Pv → β):∀ (r:List Pv) (z:β),(∀ e ∈ r,P e = false) → r.foldl (fun o e => if P e = true then g e else o) z = z
 | [],_,_ => rfl
 | e :: r,z,h => by
  rw [List.foldl_cons,if_neg (by rw [h e (by simp)];decide)]
  exact fold_none P g r z (fun e' he' => h e' (by simp [he']))
theorem fold_last {β:Type} (P:Pv → Bool) (g:Pv → β) {l:List Pv} {i:Nat} {e:Pv} (z:β) (he:l[i]? = some e) (hP:P e = true) (hn:∀ (m:Nat) (e':Pv),i + 1 ≤ m → l[m]? = some e' → P e' = false):l.foldl (fun o e => if P e = true then g e else o) z = g e:=by
 have h:l = l.take (i + 1) ++ l.drop (i + 1):=(List.take_append_drop _ _).symm
 rw [h,List.foldl_append,fold_none P g (l.drop (i + 1)) _ ?_,take_succ20 he,List.foldl_append,List.foldl_cons,List.foldl_nil,if_pos hP]
 intro e' he'
 obtain ⟨m,hm⟩:=List.getElem?_of_mem he'
 rw [List.getElem?_drop] at hm
 exact hn _ e' (by omega) hm
theorem fold_all {β:Type} (P:Pv → Bool) (g:Pv → β) {l:List Pv} (z:β) (hn:∀ (m:Nat) (e':Pv),l[m]? = some e' → P e' = false):l.foldl (fun o e => if P e = true then g e else o) z = z:=
 fold_none P g l z (fun e' he' => by obtain ⟨m,hm⟩:=List.getElem?_of_mem he';exact hn m e' hm)
theorem isW_no (c:Cfg) (K:Int) {e:Pv} (h:e.rang ≠ 0 ∨ e.took ≠ 0 ∨ e.code ≠ 0 ∨ e.x.op ≠ 3 ∨ portK c e.x.port ≠ K):isW c K e = false:=by
 unfold isW Pv.eff
 rcases h with h | h | h | h | h <;> simp [h]
theorem isW_yes (c:Cfg) (K:Int) {e:Pv} (h1:e.rang = 0) (h2:e.took = 0) (h3:e.code = 0) (h4:e.x.op = 3) (h5:portK c e.x.port = K):isW c K e = true:=by
 unfold isW Pv.eff
 simp [h1,h2,h3,h4,h5]
theorem isC_no (a:Int) {e:Pv} (h:e.rang ≠ 0 ∨ e.took ≠ 0 ∨ e.code ≠ 0 ∨ e.x.op ≠ 9 ∨ e.x.addr ≠ a):isC a e = false:=by
 unfold isC Pv.eff
 rcases h with h | h | h | h | h <;> simp [h]
theorem isC_yes (a:Int) {e:Pv} (h1:e.rang = 0) (h2:e.took = 0) (h3:e.code = 0) (h4:e.x.op = 9) (h5:e.x.addr = a):isC a e = true:=by
 unfold isC Pv.eff
 simp [h1,h2,h3,h4,h5]
/-- Stamps are no ticks behind the last one. -/
def VSt (l:List Pv):Prop:=∀ (i:Nat) (e:Pv),l[i]? = some e → -1 ≤ e.x.stamp ∧ e.x.stamp ≤ 1099511627776
def dRead (c:Cfg) (l:List Pv) (y:CV):An8:=match dWr c l (portK c y.port) with | none => code8 1 | some z => ⟨0,z.rd,decide (y.t1 - z.stamp ≤ per8 c (ch8 c y)),0⟩
set_option maxHeartbeats 12800000 in
theorem read20_b (c:Cfg) (x:CfgAt) (A:Option Addr) (ak:Nat) (l:List Pv) (y:CV) (w:World) (hx:CfgIn w w.heap.size c x) (wx:CfgWf c) (lx:CfgFew c) (hr:VRow w w.heap.size A l) (hn:PNon l) (hs:VSt l) (hl:l.length ≤ 1000) (hy:CWf y) (hpb:portB c y.port = true) (ht1:-1 ≤ y.t1 ∧ y.t1 ≤ 1099511627776):Calls Tryz.prog 35 #[.agg (cfgCells c x),.slice A l.length ak,.agg (cCells y).toArray] w (GivesDo w l (dRead c l y)):=by
 obtain ⟨W,HW,hB0,hWs,bx⟩:=one_cbox w c x 29
 obtain ⟨W2,HW2,hB2,hs2,yv⟩:=box17 W y
 obtain ⟨W3,HW3,hB3,hs3,ax⟩:=box_new W2 #[.int .i64 0,.slice none 0 0,.bool false,.int .i64 0] 42
 obtain ⟨kk,hkk,hK⟩:=portK_of hpb
 obtain ⟨K,hK2⟩:∃ K,portK c y.port = K:=⟨_,rfl⟩
 have hBW2:=hB0.trans (hB2.mono hB0.size)
 have hBW3:=hBW2.trans (hB3.mono hBW2.size)
 obtain ⟨cb,co,x0,x1,x2,x3,x4,x5,x6,eca,hcb,hx7,-,hcell⟩:=hx.rc.at7 wx.wc hkk
 have HPER:=hid (show per8 c (ch8 c y) = x5 from by unfold per8 ch8;rw [hK,Int.toNat_natCast,row_at hx7];rfl)
 have HCP:=hid (fun (V:World) (hV:Below w.heap.size w V) => (hcell V hV).2.2.2.2.2.1)
 have HKK:=hid (show (0:Int) ≤ K ∧ K = (kk:Int) ∧ kk < c.chans.length from by omega)
 have HR:=hid (hr.below hBW3)
 have HCH:=hid (fun (y:CV) (V:World) (hy:CWf y) (hV:Below w.heap.size w V) => channel_b c x y V (hx.later hV) wx lx hy)
 have HC0:=hid (channel_is c x y K W3 (hx.later hBW3) wx lx hy hK2)
 have HDR:=hid (show dRead c l y = match dWr c l K with | none => code8 1 | some z => ⟨0,z.rd,decide (y.t1 - z.stamp ≤ per8 c (ch8 c y)),0⟩ from by unfold dRead;rw [hK2])
 obtain ⟨ab,hab⟩:∃ k,k = W2.heap.size:=⟨_,rfl⟩
 have hA3:=ax W3 (Below.refl _ _)
 rw [← hab] at hA3
 obtain ⟨c0,c1,c2,c3,c4,c5⟩:=bx W3 (hB2.trans (hB3.mono hB2.size))
 have HA3:=hid hA3
 have HAL:=hid (show w.heap.size < W.heap.size ∧ W.heap.size < ab ∧ ab < W3.heap.size from by omega)
 have HY3:=hid (yv.later hB3 (by omega))
 have HYC:=HY3.out
 have HB3:=hid hBW3;have HBX:=hid bx;have HN:=hid hn;have HS:=hid hs;have HBX3:=hid (hB2.trans (hB3.mono hB2.size))
 have E3:=hid hab
 have HT1:=hid ht1;have HCB:=hid hcb
 have hw0:IntKind.i64.wrap ((l.length:Int) - 1) = (l.length:Int) - 1:=IntWalk.i64_in _ (by omega)
 obtain ⟨pa,pc,ca,cc,aa,ac,ba,bc⟩:=x
 have eca:ca = some ⟨cb,co,none⟩:=eca
 subst eca
 simp only [cfgCells] at HW HCH HC0 ⊢
 clear hx hB0 hWs bx wx lx hr hn hs hB2 hs2 yv hB3 hs3 ax hBW2 hBW3 hab hA3 hkk hK hK2 hpb hy ht1 hcell hx7 hcb
 go_enter Tryz.func35,Tryz.ntmps35
 go_wp2_with (first | (rw [← HW.out]) | (rw [← HW2.out]) | (rw [← HW3.out];(try simp only [← E3.out])) | (with_reducible refine wpList_loadC (by with_unfolding_all rfl) _ rfl _ _ _ (by with_unfolding_all rfl) HYC ?_))
 refine HC0.out.mono ?_
 rintro e0 w4 ⟨rfl,hb4⟩
 have HB4:=hid hb4
 clear hb4 c0 c1 c2 c3 c4 c5 HYC
 go_wp2_with fail
 go_loopw [8] (fun ix wr => ∃ j:Nat,j ≤ l.length ∧ ix = .int .i64 ((j:Int) - 1) ∧ (∀ (m:Nat) (e:Pv),j ≤ m → l[m]? = some e → isW c K e = false) ∧ Below W3.heap.size W3 wr) (fun ix _ => (intOf ix + 1).toNat)
 case atStart => exact ⟨l.length,Nat.le_refl _,by go_num,fun m e hm he => by have:=(List.getElem?_eq_some_iff.1 he).1;omega,HB4.out⟩
 case round =>
  obtain ⟨j,hj,hix,hno,hbr⟩:=hrel
  have HB:=hid hbr
  by_cases hj0:0 < j
  ·obtain ⟨i,rfl⟩:∃ i,j = i + 1:=⟨j - 1,by omega⟩
   rw [show (((i + 1:Nat):Int) - 1) = (i:Int) from by omega] at hix
   subst hix
   have hw1:IntKind.i64.wrap ((i:Int) - 1) = (i:Int) - 1:=IntWalk.i64_in _ (by omega)
   obtain ⟨b,o,e,rfl,hbl,he,hwf,hxc⟩:=HR.out.at_ (show i < l.length by omega)
   have hbw:=hbr.mono HB3.out.size
   have HXR:=hid (hxc wr hbw).1.x
   obtain ⟨X1,X2,HX1,HX2,hth,hxb1,hxb2,hxs,hxv⟩:=var17 wr e.x #[.int .i64 0,.int .i64 0,.int .i64 0,.int .u64 0,.slice none 0 0,.int .i64 0,.slice none 0 0,.bool false,.int .i64 0,.bool false,.int .i64 0,.int .i64 0,.int .i64 0,.int .i64 0,.int .i64 0,.int .i64 0,.int .i64 0,.int .i64 0,.int .i64 0,.int .i64 0] rfl
   have HXB:=hid hxb2;have HXV:=hid hxv;have HTH:=hid hth
   clear hxb1 hxb2 hxs hxv hth
   have hbX3:=hbr.trans (HXB.out.mono hbr.size)
   have hbX:=hbX3.mono HB3.out.size
   have hbe:=(hxc X2 hbX).1
   have k24:X2.cell? ⟨b,o + i * 26 + 24,none⟩ = some (.int .i64 e.rang):=hbe.rang
   have k25:X2.cell? ⟨b,o + i * 26 + 25,none⟩ = some (.int .i64 e.took):=hbe.took
   have k20:X2.cell? ⟨b,o + i * 26 + 20,none⟩ = some (.int .i64 e.code):=hbe.code
   have hbWX:=HBX3.out.trans (hbX3.mono HBX3.out.size)
   obtain ⟨c0,c1,c2,c3,c4,c5⟩:=HBX.out X2 hbWX
   have HC:=hid (HCH.out e.x X2 hwf (HB3.out.trans hbX))
   have HXL:=hid HXV.out.lt
   have hi2:(i:Int) ≥ 0:=by omega
   have hi3:(i:Int) < (l.length:Int):=by omega
   have HE:=hid he
   have HNO:=hid hno
   have HXC:=hid hxc
   have HWFE:=hid (HS.out i e he)
   have HX3:=hid hbX3
   have HWN:=hid (show w.heap.size ≤ wr.heap.size ∧ W3.heap.size ≤ wr.heap.size from ⟨Nat.le_trans HB3.out.size hbr.size,hbr.size⟩)
   have x1:X2.cell? ⟨wr.heap.size,1,none⟩ = some (.int .i64 e.x.op):=HXV.out.b_op
   clear hbr he hxc hbe hbl hbw hbX hbWX hwf hno hbX3 hj0
   by_cases h1:e.rang = 0
   ·have q1:(e.rang == 0) = true:=by simp [h1]
    by_cases h2:e.took = 0
    ·have q2:(e.took == 0) = true:=by simp [h2]
     by_cases h3:e.code = 0
     ·have q3:(e.code == 0) = true:=by simp [h3]
      by_cases h4:e.x.op = 3
      ·have q4:(e.x.op == 3) = true:=by simp [h4]
       have HH:=hid (And.intro h1 (And.intro h2 (And.intro h3 h4)))
       clear h1 h2 h3 h4
       go_wp2_with (first | (rw [← HX1.out]) | (with_reducible refine wpList_store_mid (by kernel_rfl) _ _ _ rfl wr.heap.size 0 (cCells e.x).toArray (by kernel_rfl) (by kernel_rfl) HTH.out (cCells_infoA e.x) (cCells_one e.x) ?_) | (rw [← HX2.out]) | (with_reducible refine wpList_loadC (by with_unfolding_all rfl) _ rfl _ _ _ (by with_unfolding_all rfl) HXR.out ?_) | (with_reducible refine wpList_loadC (by with_unfolding_all rfl) _ rfl _ _ _ (by with_unfolding_all rfl) HXV.out ?_))
       refine HC.out.mono ?_
       rintro e5 w5 ⟨rfl,hb5⟩
       have HB5:=hid (HX3.out.trans (hb5.mono HX3.out.size))
       have HXV5:=hid (HXV.out.later hb5 HXL.out)
       clear hb5 c0 c1 c2 c3 c4 c5 x1 k24 k25 k20 q1 q2 q3 q4
       by_cases h5:portK c e.x.port = K
       ·have q5:(portK c e.x.port == K) = true:=by simp [h5]
        have HD:Hid (dRead c l y = ⟨0,e.x.rd,decide (y.t1 - e.x.stamp ≤ x5),0⟩):=hid (by
         rw [HDR.out,HPER.out]
         unfold dWr
         rw [fold_last (isW c K) (fun e => some e.x) none HE.out (isW_yes c K HH.out.1 HH.out.2.1 HH.out.2.2.1 HH.out.2.2.2 h5) HNO.out])
        have hbw5:=HB3.out.trans (HB5.out.mono HB3.out.size)
        have x4:w5.cell? ⟨wr.heap.size,4,none⟩ = some (.slice e.x.ra e.x.rd.length e.x.rc):=HXV5.out.b_rd
        have x18:w5.cell? ⟨wr.heap.size,18,none⟩ = some (.int .i64 e.x.stamp):=HXV5.out.b_stamp
        have y13:w5.cell? ⟨W.heap.size,13,none⟩ = some (.int .i64 y.t1):=(HY3.out.later HB5.out (by have:=HAL.out;omega)).b_t1
        obtain ⟨-,d1,-,-,-,-⟩:=HBX.out w5 (HBX3.out.trans (HB5.out.mono HBX3.out.size))
        have cp:=HCP.out w5 hbw5
        have HXL5:=hid HXV5.out.lt
        have HYL5:=hid (show W.heap.size < w5.heap.size from by have:=HAL.out;have:=HB5.out.size;omega)
        have HCL5:=hid (show w.heap.size < w5.heap.size from by have:=HAL.out;have:=HB5.out.size;omega)
        have HCB5:=hid (show cb < w5.heap.size from by have:=HCB.out;have:=HCL5.out;omega)
        have HA5:=hid ((HB5.out.block ab HAL.out.2.2).trans HA3.out)
        have hkl:(kk:Int) < (c.chans.length:Int):=by have:=HKK.out;omega
        have hst:=HWFE.out
        have hwr:IntKind.i64.wrap (y.t1 - e.x.stamp) = y.t1 - e.x.stamp:=IntWalk.i64_in _ (by have:=HT1.out;omega)
        obtain ⟨q,hq⟩:∃ q,decide (y.t1 - e.x.stamp ≤ x5) = q:=⟨_,rfl⟩
        have HQ:=hid hq
        have HKE:=hid HKK.out.2.1
        have HZ3:=hid (fun (V:World) (hV:Below w5.heap.size w5 V) => (hV.cell (p:=⟨w.heap.size,1,none⟩) HCL5.out).trans d1)
        have HRW:=hid (HXC.out w5 (HB5.out.mono HB3.out.size)).2
        have HBF:=hid hbw5
        clear hst h5 hbw5
        go_wp2_with fail
        rw [HKE.out]
        refine wp_region_till (fun W' => Below w5.heap.size w5 W') 16 (by kernel_rfl) (by exact (Below.refl _ _).drew) (fun hHeld => ?_)
        refine Tt 0 rfl ?_
        (try simp only [Zc])
        refine Tt 1 rfl ?_
        (try simp only [Zc])
        refine till_load (i:=2) rfl (by kernel_rfl) (by kernel_rfl) (by kernel_rfl) (fun _ _ _ h => h) (by kernel_rfl) (by kernel_rfl) (by kernel_rfl) (Or.inl ⟨by rfl,by intro w hSw;(have z0:=(hSw.cell (p:=⟨wr.heap.size,4,none⟩) HXL5.out).trans x4);(go_simp <;> with_reducible rfl)⟩) (by assumption) ?_
        (try simp only [Zc])
        refine Tt 3 rfl ?_
        (try simp only [Zc])
        refine till_load (i:=4) rfl (by kernel_rfl) (by kernel_rfl) (by kernel_rfl) (fun _ _ _ h => h) (by kernel_rfl) (by kernel_rfl) (by kernel_rfl) (Or.inl ⟨by rfl,by intro w hSw;(have z1:=(hSw.cell (p:=⟨W.heap.size,13,none⟩) HYL5.out).trans y13);(go_simp <;> with_reducible rfl)⟩) (by assumption) ?_
        (try simp only [Zc])
        refine Tt 5 rfl ?_
        (try simp only [Zc])
        refine till_load (i:=6) rfl (by kernel_rfl) (by kernel_rfl) (by kernel_rfl) (fun _ _ _ h => h) (by kernel_rfl) (by kernel_rfl) (by kernel_rfl) (Or.inl ⟨by rfl,by intro w hSw;(have z2:=(hSw.cell (p:=⟨wr.heap.size,18,none⟩) HXL5.out).trans x18);(go_simp <;> with_reducible rfl)⟩) (by assumption) ?_
        (try simp only [Zc])
        refine Tt 7 rfl ?_
        (try simp only [Zc])
        refine Tt 8 rfl ?_
        (try simp only [Zc])
        refine till_load (i:=9) rfl (by kernel_rfl) (by kernel_rfl) (by kernel_rfl) (fun _ _ _ h => h) (by kernel_rfl) (by kernel_rfl) (by kernel_rfl) (Or.inl ⟨by rfl,by intro w hSw;(have z3:=HZ3.out _ hSw);(go_simp <;> with_reducible rfl)⟩) (by assumption) ?_
        (try simp only [Zc])
        refine Tt 10 rfl ?_
        (try simp only [Zc])
        refine Tt 11 rfl ?_
        (try simp only [Zc])
        refine Tt 12 rfl ?_
        (try simp only [Zc])
        refine till_load (i:=13) rfl (by kernel_rfl) (by kernel_rfl) (by kernel_rfl) (fun _ _ _ h => h) (by kernel_rfl) (by kernel_rfl) (by kernel_rfl) (Or.inl ⟨by rfl,by intro w hSw;(have z4:=(hSw.cell (p:=⟨cb,co + kk * 7 + 5,none⟩) HCB5.out).trans cp);(go_simp <;> with_reducible rfl)⟩) (by assumption) ?_
        (try simp only [Zc])
        refine Tt 14 rfl ?_
        (try simp only [Zc])
        refine Tt 15 rfl ?_
        (try simp only [Zc])
        refine till_last (by kernel_rfl) rfl (fun K hK => ?_)
        rw [if_pos (by rfl)]
        have hAd:w5.drew.heap[ab]? = some (.cells #[.int .i64 0,.slice none 0 0,.bool false,.int .i64 0] 42 (0,0)):=HA5.out
        have hth:=there_blk (W:=w5.drew) hAd (n:=(#[.int .i64 0,.slice e.x.ra e.x.rd.length e.x.rc,.bool q,.int .i64 0]:Array Value).size) rfl
        have hsz4:(Tryz.prog.info? 42).map (·.size) = some (#[.int .i64 0,.slice e.x.ra e.x.rd.length e.x.rc,.bool q,.int .i64 0]:Array Value).size:=ans8_size
        refine wp_store_mid _ _ _ rfl ab 0 #[.int .i64 0,.slice e.x.ra e.x.rd.length e.x.rc,.bool q,.int .i64 0] rfl rfl hth hsz4 (by kernel_rfl) ?_
        have HTH:=hid hth
        clear hth
        refine hK.out _ _ ?_
        clear hK K
        (try simp only [Zc])
        refine till_done (by kernel_rfl) ?_ _
        go_wp2
        have hth:=HTH.out
        have hrg:=World.rangeAt_setCells_same (w5.drew) (ab) 0 (#[.int .i64 0,.slice e.x.ra e.x.rd.length e.x.rc,.bool q,.int .i64 0]:Array Value).toList (by simpa using hth)
        (try simp only [Exit.inBlock,Exit.then])
        refine bodyPost_ret (results_cell_mid rfl _ _ (ab) (#[.int .i64 0,.slice e.x.ra e.x.rd.length e.x.rc,.bool q,.int .i64 0]:Array Value).toList _ rfl hrg Tryz.underlying42 rfl ans8_size) rfl ?_
        have hwn:=HWN.out
        refine ⟨e.x.ra,e.x.rc,by rw [HD.out,HQ.out],by rw [HD.out];exact (((show IntRowK .u32 w5.drew w.heap.size e.x.ra e.x.rd from HRW.out.rr).only8 (by have:=HBF.out.size;exact this) (Only.sets (S:=fun k => k = ab) rfl _ 0 (Only.refl _ _)) (fun hp a ha e2 => by have h1:=row8_lt HRW.out.rr hp a ha;have e2:a.block = ab:=e2;have:=HAL.out;omega)).more (by rw [set4_size];have:=HBF.out.size;exact this)),by rw [HD.out];exact HRW.out.rl,below_put4 HBF.out.drew (by have:=HAL.out;omega) _,fun _ q hq => .inr ⟨i,e,HE.out,rfl,by rw [HD.out]⟩⟩
       ·have q5:(portK c e.x.port == K) = false:=by simp [h5]
        have HNO2:Hid (∀ (m:Nat) (e':Pv),i ≤ m → l[m]? = some e' → isW c K e' = false):=hid (fun m e' hm he' => by
         by_cases e0:m = i
         ·rw [e0,HE.out] at he';cases he';exact isW_no c K (.inr (.inr (.inr (.inr h5))))
         ·exact HNO.out m e' (by omega) he')
        clear h5
        go_wp2_with fail
        go_roundw
        case rel => exact ⟨i,by omega,by go_num,HNO2.out,HB5.out⟩
        case measure => simp [intOf] <;> omega
      ·have q4:(e.x.op == 3) = false:=by simp [h4]
       have HNO2:Hid (∀ (m:Nat) (e':Pv),i ≤ m → l[m]? = some e' → isW c K e' = false):=hid (fun m e' hm he' => by
        by_cases e0:m = i
        ·rw [e0,HE.out] at he';cases he';exact isW_no c K (.inr (.inr (.inr (.inl h4))))
        ·exact HNO.out m e' (by omega) he')
       go_wp2_with (first | (rw [← HX1.out]) | (with_reducible refine wpList_store_mid (by kernel_rfl) _ _ _ rfl wr.heap.size 0 (cCells e.x).toArray (by kernel_rfl) (by kernel_rfl) HTH.out (cCells_infoA e.x) (cCells_one e.x) ?_) | (rw [← HX2.out]) | (with_reducible refine wpList_loadC (by with_unfolding_all rfl) _ rfl _ _ _ (by with_unfolding_all rfl) HXR.out ?_) | (with_reducible refine wpList_loadC (by with_unfolding_all rfl) _ rfl _ _ _ (by with_unfolding_all rfl) HXV.out ?_))
       go_roundw
       case rel => exact ⟨i,by omega,by go_num,HNO2.out,HX3.out⟩
       case measure => simp [intOf] <;> omega
     ·have q3:(e.code == 0) = false:=by simp [h3]
      have HNO2:Hid (∀ (m:Nat) (e':Pv),i ≤ m → l[m]? = some e' → isW c K e' = false):=hid (fun m e' hm he' => by
       by_cases e0:m = i
       ·rw [e0,HE.out] at he';cases he';exact isW_no c K (.inr (.inr (.inl h3)))
       ·exact HNO.out m e' (by omega) he')
      go_wp2_with (first | (rw [← HX1.out]) | (with_reducible refine wpList_store_mid (by kernel_rfl) _ _ _ rfl wr.heap.size 0 (cCells e.x).toArray (by kernel_rfl) (by kernel_rfl) HTH.out (cCells_infoA e.x) (cCells_one e.x) ?_) | (rw [← HX2.out]) | (with_reducible refine wpList_loadC (by with_unfolding_all rfl) _ rfl _ _ _ (by with_unfolding_all rfl) HXR.out ?_) | (with_reducible refine wpList_loadC (by with_unfolding_all rfl) _ rfl _ _ _ (by with_unfolding_all rfl) HXV.out ?_))
      go_roundw
      case rel => exact ⟨i,by omega,by go_num,HNO2.out,HX3.out⟩
      case measure => simp [intOf] <;> omega
    ·have q2:(e.took == 0) = false:=by simp [h2]
     have HNO2:Hid (∀ (m:Nat) (e':Pv),i ≤ m → l[m]? = some e' → isW c K e' = false):=hid (fun m e' hm he' => by
      by_cases e0:m = i
      ·rw [e0,HE.out] at he';cases he';exact isW_no c K (.inr (.inl h2))
      ·exact HNO.out m e' (by omega) he')
     go_wp2_with (first | (rw [← HX1.out]) | (with_reducible refine wpList_store_mid (by kernel_rfl) _ _ _ rfl wr.heap.size 0 (cCells e.x).toArray (by kernel_rfl) (by kernel_rfl) HTH.out (cCells_infoA e.x) (cCells_one e.x) ?_) | (rw [← HX2.out]) | (with_reducible refine wpList_loadC (by with_unfolding_all rfl) _ rfl _ _ _ (by with_unfolding_all rfl) HXR.out ?_) | (with_reducible refine wpList_loadC (by with_unfolding_all rfl) _ rfl _ _ _ (by with_unfolding_all rfl) HXV.out ?_))
     go_roundw
     case rel => exact ⟨i,by omega,by go_num,HNO2.out,HX3.out⟩
     case measure => simp [intOf] <;> omega
   ·have q1:(e.rang == 0) = false:=by simp [h1]
    have HNO2:Hid (∀ (m:Nat) (e':Pv),i ≤ m → l[m]? = some e' → isW c K e' = false):=hid (fun m e' hm he' => by
     by_cases e0:m = i
     ·rw [e0,HE.out] at he';cases he';exact isW_no c K (.inl h1)
     ·exact HNO.out m e' (by omega) he')
    go_wp2_with (first | (rw [← HX1.out]) | (with_reducible refine wpList_store_mid (by kernel_rfl) _ _ _ rfl wr.heap.size 0 (cCells e.x).toArray (by kernel_rfl) (by kernel_rfl) HTH.out (cCells_infoA e.x) (cCells_one e.x) ?_) | (rw [← HX2.out]) | (with_reducible refine wpList_loadC (by with_unfolding_all rfl) _ rfl _ _ _ (by with_unfolding_all rfl) HXR.out ?_) | (with_reducible refine wpList_loadC (by with_unfolding_all rfl) _ rfl _ _ _ (by with_unfolding_all rfl) HXV.out ?_))
    go_roundw
    case rel => exact ⟨i,by omega,by go_num,HNO2.out,HX3.out⟩
    case measure => simp [intOf] <;> omega
  ·have HD:Hid (dRead c l y = code8 1):=hid (by
    rw [HDR.out]
    unfold dWr
    rw [fold_all (isW c K) (fun e => some e.x) none (fun m e he => hno m e (by omega) he)])
   have hj1:j = 0:=by omega
   subst hj1
   rw [show (((0:Nat):Int) - 1) = -1 from by omega] at hix
   subst hix
   have hA5:=(HB.out.block ab HAL.out.2.2).trans HA3.out
   have hth:=there_blk (W:=wr) hA5 (n:=(#[.int .i64 1,.slice none 0 0,.bool false,.int .i64 0]:Array Value).size) rfl
   have hsz4:(Tryz.prog.info? 42).map (·.size) = some (#[.int .i64 1,.slice none 0 0,.bool false,.int .i64 0]:Array Value).size:=ans8_size
   clear hno hbr hj0 hj hA5
   go_wp2_with (with_reducible refine wpList_store_mid (by kernel_rfl) _ _ _ rfl ab 0 #[.int .i64 1,.slice none 0 0,.bool false,.int .i64 0] (by kernel_rfl) (by kernel_rfl) hth hsz4 (by kernel_rfl) ?_)
   have hrg:=World.rangeAt_setCells_same (wr) (ab) 0 (#[.int .i64 1,.slice none 0 0,.bool false,.int .i64 0]:Array Value).toList (by simpa using hth)
   (try simp only [Exit.inBlock,Exit.then])
   refine bodyPost_ret (results_cell_mid rfl _ _ (ab) (#[.int .i64 1,.slice none 0 0,.bool false,.int .i64 0]:Array Value).toList _ rfl hrg Tryz.underlying42 rfl ans8_size) rfl ?_
   exact ⟨none,0,by rw [HD.out];rfl,(fun h => by rw [HD.out] at h;simp [code8] at h),by rw [HD.out];exact ⟨by simp [code8],by simp [maxLen],fun _ => rfl⟩,below_put4 (HB3.out.trans (HB.out.mono HB3.out.size)) (by have:=HAL.out;omega) _,fun _ q hq => by cases hq⟩
/-- What was poked was one word. -/
def VPk (l:List Pv):Prop:=∀ (i:Nat) (e:Pv),l[i]? = some e → e.code = 0 → e.x.op = 9 → 0 < e.x.rd.length
set_option maxHeartbeats 12800000 in
theorem cell20_b (A:Option Addr) (ak:Nat) (l:List Pv) (at_:Int) (w:World) (hr:VRow w w.heap.size A l) (hk:VPk l) (hl:l.length ≤ 1000):Calls Tryz.prog 38 #[.slice A l.length ak,.int .u64 at_] w (fun e w' => e = .returned (.int .u32 (dWd l at_)) ∧ Below w.heap.size w w'):=by
 have HR:=hid hr;have HK:=hid hk
 have hw0:IntKind.i64.wrap ((l.length:Int) - 1) = (l.length:Int) - 1:=IntWalk.i64_in _ (by omega)
 clear hr hk
 go_enter Tryz.func38,Tryz.ntmps38
 go_wp2
 go_loopw [5] (fun ix wr => ∃ j:Nat,j ≤ l.length ∧ ix = .int .i64 ((j:Int) - 1) ∧ (∀ (m:Nat) (e:Pv),j ≤ m → l[m]? = some e → isC at_ e = false) ∧ Below w.heap.size w wr) (fun ix _ => (intOf ix + 1).toNat)
 case atStart => exact ⟨l.length,Nat.le_refl _,by go_num,fun m e hm he => by have:=(List.getElem?_eq_some_iff.1 he).1;omega,Below.refl _ _⟩
 case round =>
  obtain ⟨j,hj,hix,hno,hbr⟩:=hrel
  have HB:=hid hbr
  by_cases hj0:0 < j
  ·obtain ⟨i,rfl⟩:∃ i,j = i + 1:=⟨j - 1,by omega⟩
   rw [show (((i + 1:Nat):Int) - 1) = (i:Int) from by omega] at hix
   subst hix
   have hw1:IntKind.i64.wrap ((i:Int) - 1) = (i:Int) - 1:=IntWalk.i64_in _ (by omega)
   obtain ⟨b,o,e,rfl,hbl,he,hwf,hxc⟩:=HR.out.at_ (show i < l.length by omega)
   have hbe0:=(hxc wr hbr).1
   have m1:wr.cell? ⟨b,o + i * 26 + 1,none⟩ = some (.int .i64 e.x.op):=hbe0.x.op
   have m2:wr.cell? ⟨b,o + i * 26 + 2,none⟩ = some (.int .i64 e.x.port):=hbe0.x.port
   have m3:wr.cell? ⟨b,o + i * 26 + 3,none⟩ = some (.int .u64 e.x.addr):=hbe0.x.addr
   have m4:wr.cell? ⟨b,o + i * 26 + 4,none⟩ = some (.slice e.x.ra e.x.rd.length e.x.rc):=hbe0.x.rd
   obtain ⟨X1,HX1,hxb,hxs,xx⟩:=box_new wr #[.int .i64 e.x.op,.int .i64 e.x.port,.int .u64 e.x.addr,.slice e.x.ra e.x.rd.length e.x.rc] 39
   obtain ⟨xb,hxb2⟩:∃ k,k = wr.heap.size:=⟨_,rfl⟩
   have EX:=hid hxb2
   have hX:=xx X1 (Below.refl _ _)
   rw [← hxb2] at hX
   have x0:X1.cell? ⟨xb,0,none⟩ = some (.int .i64 e.x.op):=blk_at hX (i:=0) rfl
   have x2:X1.cell? ⟨xb,2,none⟩ = some (.int .u64 e.x.addr):=blk_at hX (i:=2) rfl
   have x3:X1.cell? ⟨xb,3,none⟩ = some (.slice e.x.ra e.x.rd.length e.x.rc):=blk_at hX (i:=3) rfl
   have HX1B:=hid hxb
   have hbX:=hbr.trans (hxb.mono hbr.size)
   have hbe:=(hxc X1 hbX).1
   have k24:X1.cell? ⟨b,o + i * 26 + 24,none⟩ = some (.int .i64 e.rang):=hbe.rang
   have k25:X1.cell? ⟨b,o + i * 26 + 25,none⟩ = some (.int .i64 e.took):=hbe.took
   have k20:X1.cell? ⟨b,o + i * 26 + 20,none⟩ = some (.int .i64 e.code):=hbe.code
   have HRW:=hid (hxc X1 hbX).2
   have hi2:(i:Int) ≥ 0:=by omega
   have hi3:(i:Int) < (l.length:Int):=by omega
   have HE:=hid he
   have HNO:=hid hno
   clear hbr he hxc hbe hbe0 hbl hbX hwf hno hj0 hxb hxb2 hxs xx hX
   by_cases h1:e.rang = 0
   ·have q1:(e.rang == 0) = true:=by simp [h1]
    by_cases h2:e.took = 0
    ·have q2:(e.took == 0) = true:=by simp [h2]
     by_cases h3:e.code = 0
     ·have q3:(e.code == 0) = true:=by simp [h3]
      by_cases h4:e.x.op = 9
      ·have q4:(e.x.op == 9) = true:=by simp [h4]
       by_cases h5:e.x.addr = at_
       ·have q5:(e.x.addr == at_) = true:=by simp [h5]
        have hpos:=HK.out i e HE.out h3 h4
        obtain ⟨rb,ro,era,hrb,hrc⟩:=HRW.out.rr hpos
        have r0:=hrc 0 hpos
        rw [Nat.add_zero] at r0
        have hp2:(0:Int) < (e.x.rd.length:Int):=by omega
        rw [era] at x3 m4 HX1
        have HD:Hid (dWd l at_ = e.x.rd.getD 0 0):=hid (by
         unfold dWd
         rw [fold_last (isC at_) (fun e => e.x.rd.getD 0 0) 0 HE.out (isC_yes at_ h1 h2 h3 h4 h5) HNO.out])
        obtain ⟨v,hv⟩:∃ v,e.x.rd.getD 0 0 = v:=⟨_,rfl⟩
        rw [hv] at r0 HD
        clear h1 h2 h3 h4 h5 hpos hrc hv era hrb
        go_wp2_with (rw [← HX1.out];(try simp only [← EX.out]))
        go_ret
        exact ⟨by rw [HD.out];rfl,HB.out.trans (HX1B.out.mono HB.out.size)⟩
       ·have q5:(e.x.addr == at_) = false:=by simp [h5]
        clear h4
        have HNO2:Hid (∀ (m:Nat) (e':Pv),i ≤ m → l[m]? = some e' → isC at_ e' = false):=hid (fun m e' hm he' => by
         by_cases e0:m = i
         ·rw [e0,HE.out] at he';cases he';exact isC_no at_ (.inr (.inr (.inr (.inr h5))))
         ·exact HNO.out m e' (by omega) he')
        go_wp2_with (rw [← HX1.out];(try simp only [← EX.out]))
        go_roundw
        case rel => exact ⟨i,by omega,by go_num,HNO2.out,HB.out.trans (HX1B.out.mono HB.out.size)⟩
        case measure => simp [intOf] <;> omega
      ·have q4:(e.x.op == 9) = false:=by simp [h4]
       have HNO2:Hid (∀ (m:Nat) (e':Pv),i ≤ m → l[m]? = some e' → isC at_ e' = false):=hid (fun m e' hm he' => by
        by_cases e0:m = i
        ·rw [e0,HE.out] at he';cases he';exact isC_no at_ (.inr (.inr (.inr (.inl h4))))
        ·exact HNO.out m e' (by omega) he')
       go_wp2_with (rw [← HX1.out];(try simp only [← EX.out]))
       go_roundw
       case rel => exact ⟨i,by omega,by go_num,HNO2.out,HB.out.trans (HX1B.out.mono HB.out.size)⟩
       case measure => simp [intOf] <;> omega
     ·have q3:(e.code == 0) = false:=by simp [h3]
      have HNO2:Hid (∀ (m:Nat) (e':Pv),i ≤ m → l[m]? = some e' → isC at_ e' = false):=hid (fun m e' hm he' => by
       by_cases e0:m = i
       ·rw [e0,HE.out] at he';cases he';exact isC_no at_ (.inr (.inr (.inl h3)))
       ·exact HNO.out m e' (by omega) he')
      go_wp2_with (rw [← HX1.out];(try simp only [← EX.out]))
      go_roundw
      case rel => exact ⟨i,by omega,by go_num,HNO2.out,HB.out.trans (HX1B.out.mono HB.out.size)⟩
      case measure => simp [intOf] <;> omega
    ·have q2:(e.took == 0) = false:=by simp [h2]
     have HNO2:Hid (∀ (m:Nat) (e':Pv),i ≤ m → l[m]? = some e' → isC at_ e' = false):=hid (fun m e' hm he' => by
      by_cases e0:m = i
      ·rw [e0,HE.out] at he';cases he';exact isC_no at_ (.inr (.inl h2))
      ·exact HNO.out m e' (by omega) he')
     go_wp2_with (rw [← HX1.out];(try simp only [← EX.out]))
     go_roundw
     case rel => exact ⟨i,by omega,by go_num,HNO2.out,HB.out.trans (HX1B.out.mono HB.out.size)⟩
     case measure => simp [intOf] <;> omega
   ·have q1:(e.rang == 0) = false:=by simp [h1]
    have HNO2:Hid (∀ (m:Nat) (e':Pv),i ≤ m → l[m]? = some e' → isC at_ e' = false):=hid (fun m e' hm he' => by
     by_cases e0:m = i
     ·rw [e0,HE.out] at he';cases he';exact isC_no at_ (.inl h1)
     ·exact HNO.out m e' (by omega) he')
    go_wp2_with (rw [← HX1.out];(try simp only [← EX.out]))
    go_roundw
    case rel => exact ⟨i,by omega,by go_num,HNO2.out,HB.out.trans (HX1B.out.mono HB.out.size)⟩
    case measure => simp [intOf] <;> omega
  ·have HD:Hid (dWd l at_ = 0):=hid (by
    unfold dWd
    rw [fold_all (isC at_) (fun e => e.x.rd.getD 0 0) 0 (fun m e he => hno m e (by omega) he)])
   have hj1:j = 0:=by omega
   subst hj1
   rw [show (((0:Nat):Int) - 1) = -1 from by omega] at hix
   subst hix
   clear hno hbr hj0 hj
   go_wp2
   go_ret
   exact ⟨by rw [HD.out];rfl,HB.out⟩
end Go.Proofs.YtheeiklgblcjfaaGreatDoor
end
