/- Texts of the ring, joined, what is used of them. No condition but those in the statements. -/
import Derived.BigQuiet
import Derived.BigRegion
import Derived.Deep.MidRow
import Derived.Deep.RegionHeld3
import Derived.Deep.Upon
import Derived.IntWalk
import Derived.Test.YtheeiklgblcjfaaGreatDoorQPkX
import Derived.Test.YtheeiklgblcjfaaGreatDoorQga
import Derived.Test.YtheeiklgblcjfaaGreatDoorQgb
import Derived.Test.YtheeiklgblcjfaaGreatDoorQgf
import Derived.Test.YtheeiklgblcjfaaGreatDoorQgj
import Derived.Test.YtheeiklgblcjfaaGreatDoorQgl
import Derived.Test.YtheeiklgblcjfaaGreatDoorQgn
import Derived.Test.YtheeiklgblcjfaaGreatDoorQgo
import Derived.Test.YtheeiklgblcjfaaGreatDoorQgq
import Derived.Test.YtheeiklgblcjfaaGreatDoorQgr
import Derived.Test.YtheeiklgblcjfaaGreatDoorQgt
set_option linter.unusedVariables false
set_option linter.unusedSimpArgs false
section
namespace Go.Proofs.YtheeiklgblcjfaaGreatDoor
open Go.Lib (hid)
open Go.RowKit Go.Sort
set_option maxRecDepth 100000
/-- What was done lies in block b from o on. -/
structure PAt (w:World) (b o:Nat) (e:Pv):Prop where
 x:CAt w b o e.x
 code:w.cell? ⟨b,o + 20,none⟩ = some (.int .i64 e.code)
 ans:w.cell? ⟨b,o + 21,none⟩ = some (.slice e.aa e.an e.ac)
 val:w.cell? ⟨b,o + 22,none⟩ = some (.bool e.valid)
 cnt:w.cell? ⟨b,o + 23,none⟩ = some (.int .i64 e.count)
 rang:w.cell? ⟨b,o + 24,none⟩ = some (.int .i64 e.rang)
 took:w.cell? ⟨b,o + 25,none⟩ = some (.int .i64 e.took)
theorem PAt.later {w w':World} {B b o:Nat} {e:Pv} (h:PAt w b o e) (hb:Below B w w') (hlt:b < B):PAt w' b o e:=
 ⟨h.x.later hb hlt,(hb.cell (p:=⟨b,o + 20,none⟩) hlt).trans h.code,(hb.cell (p:=⟨b,o + 21,none⟩) hlt).trans h.ans,(hb.cell (p:=⟨b,o + 22,none⟩) hlt).trans h.val,(hb.cell (p:=⟨b,o + 23,none⟩) hlt).trans h.cnt,(hb.cell (p:=⟨b,o + 24,none⟩) hlt).trans h.rang,(hb.cell (p:=⟨b,o + 25,none⟩) hlt).trans h.took⟩
/-- A slice's row of what was done,at a block below number B. -/
def VRow (w:World) (B:Nat) (A:Option Addr) (l:List Pv):Prop:=
 0 < l.length → ∃ b o,A = some ⟨b,o,none⟩ ∧ b < B ∧ ∀ (i:Nat) (e:Pv),l[i]? = some e → PAt w b (o + i * 26) e ∧ CRows w B e.x ∧ CWf e.x
theorem VRow.below {w w':World} {B:Nat} {A:Option Addr} {l:List Pv} (h:VRow w B A l) (hb:Below B w w'):VRow w' B A l:=fun hn => by
 obtain ⟨b,o,hA,hlt,hc⟩:=h hn
 exact ⟨b,o,hA,hlt,fun i v hv => ⟨(hc i v hv).1.later hb hlt,(hc i v hv).2.1.below hb,(hc i v hv).2.2⟩⟩
theorem VRow.more {w:World} {B B':Nat} {A:Option Addr} {l:List Pv} (h:VRow w B A l) (hb:B ≤ B'):VRow w B' A l:=fun hn => by
 obtain ⟨b,o,hA,hlt,hc⟩:=h hn
 exact ⟨b,o,hA,by omega,fun i v hv => ⟨(hc i v hv).1,(hc i v hv).2.1.more hb,(hc i v hv).2.2⟩⟩
theorem VRow.later {w w':World} {A:Option Addr} {l:List Pv} (h:VRow w w.heap.size A l) (hb:Below w.heap.size w w'):VRow w' w'.heap.size A l:=(h.below hb).more hb.size
theorem VRow.at_ {w:World} {B:Nat} {A:Option Addr} {l:List Pv} (h:VRow w B A l) {i:Nat} (hi:i < l.length):∃ (b o:Nat) (e:Pv),A = some ⟨b,o,none⟩ ∧ b < B ∧ l[i]? = some e ∧ CWf e.x ∧ ∀ w',Below B w w' → PAt w' b (o + i * 26) e ∧ CRows w' B e.x:=by
 obtain ⟨b,o,hA,hlt,hc⟩:=h (by omega)
 obtain ⟨h1,h2,h3⟩:=hc i _ (List.getElem?_eq_getElem hi)
 exact ⟨b,o,_,hA,hlt,List.getElem?_eq_getElem hi,h3,fun w' hb => ⟨h1.later hb hlt,h2.below hb⟩⟩
/-- Numbers of bells and deliveries are 0 or more. -/
def PNon (l:List Pv):Prop:=∀ (i:Nat) (e:Pv),l[i]? = some e → 0 ≤ e.rang ∧ 0 ≤ e.took
theorem eff_no {e:Pv} (h:e.rang > 0 ∨ e.took > 0):e.eff = false:=by
 unfold Pv.eff
 rcases h with h | h
 ·rw [decide_eq_false (by omega)];rfl
 ·rw [decide_eq_false (by omega:¬ e.took = 0),Bool.and_false]
theorem eff_yes {e:Pv} (h:0 ≤ e.rang ∧ 0 ≤ e.took) (h1:¬ e.rang > 0) (h2:¬ e.took > 0):e.eff = true:=by
 unfold Pv.eff
 rw [decide_eq_true (by omega),decide_eq_true (by omega)];rfl
theorem dAns_len (s:St8) (op port code:Int) (v:Bool):(dAns s op port code v).made.length ≤ s.made.length + 1 ∧ (dAns s op port code v).valid.length ≤ s.valid.length + 1:=by
 unfold dAns
 constructor
 ·dsimp only
  split <;> simp
 ·dsimp only
  have:=List.length_filter_le (fun q => q != port) s.valid
  repeat' split
  all_goals (try simp) <;> omega
theorem dSt_take {l:List Pv} {i:Nat} {e:Pv} (h:l[i]? = some e) (p:Int):dSt (l.take (i + 1)) p = dStep p (dSt (l.take i) p) e:=by rw [take_succ20 h,dSt_app]
theorem dSt_len (p:Int) (l:List Pv):∀ n,(dSt (l.take n) p).made.length ≤ n ∧ (dSt (l.take n) p).valid.length ≤ n
 | 0 => ⟨Nat.le_refl _,Nat.le_refl _⟩
 | n + 1 => by
  have ih:=dSt_len p l n
  cases h:l[n]? with
  | none =>
   rw [List.take_of_length_le (by have:=List.getElem?_eq_none_iff.1 h;omega)]
   rw [List.take_of_length_le (by have:=List.getElem?_eq_none_iff.1 h;omega)] at ih
   omega
  | some e =>
   rw [dSt_take h]
   unfold dStep
   split
   ·have:=dAns_len (dSt (l.take n) p) e.x.op e.x.port e.code e.valid;omega
   ·omega
end Go.Proofs.YtheeiklgblcjfaaGreatDoor
end
section
namespace Go.Proofs.YtheeiklgblcjfaaGreatDoor
open Go.Lib (hid)
open Go.RowKit Go.Sort
set_option maxRecDepth 100000
theorem run_side0 (K P:Int) (S B:Bool) (w:World):(Instr.field 110 (.agg #[.int .i64 K,.int .i64 P,.bool S,.bool B]) 0).run Tryz.prog w = .ok (.int .i64 K) w:=by kernel_rfl
set_option maxHeartbeats 3200000 in
theorem channel_b (c:Cfg) (x:CfgAt) (y:CV) (w:World) (hx:CfgIn w w.heap.size c x) (wx:CfgWf c) (lx:CfgFew c) (hy:CWf y):Calls Tryz.prog 34 #[.agg (cfgCells c x),.agg (cCells y).toArray] w (fun e w' => e = .returned (.int .i64 (portK c y.port)) ∧ Below w.heap.size w w'):=by
 obtain ⟨W,HW,hB0,hWs,bx⟩:=one_cbox w c x 29
 obtain ⟨W2,HW2,hB2,hs2,yv⟩:=box17 W y
 have HP:=rport_is c x y.port _ _ _ _ W2 ((hx.later hB0).later hB2) wx lx hy.port ⟨rfl,rfl,rfl,rfl⟩
 obtain ⟨pa,pc,ca,cc,aa,ac,ba,bc⟩:=x
 obtain ⟨c0,c1,c2,c3,c4,c5⟩:=bx W2 hB2
 have y2:=yv.b_port
 have HB:=hid (hB0.trans (hB2.mono hB0.size));have HP:=hid HP
 simp only [cfgCells] at HW HP ⊢
 clear hx hB0 hWs bx wx lx hy hB2 hs2 yv
 go_enter Tryz.func34,Tryz.ntmps34
 go_wp2_with (first | (rw [← HW.out]) | (rw [← HW2.out]))
 refine HP.out.mono ?_
 rintro e w3 ⟨rfl,hb3⟩
 have HB3:=hid (HB.out.trans (hb3.mono HB.out.size))
 clear hb3 HP c0 c1 c2 c3 c4 c5 y2
 have hf:=run_side0 (portK c y.port) (portP c y.port) (portS c y.port) (portB c y.port) w3
 go_wp2
 go_ret
 exact ⟨rfl,HB3.out⟩
theorem channel_is (c:Cfg) (x:CfgAt) (y:CV) (K:Int) (w:World) (hx:CfgIn w w.heap.size c x) (wx:CfgWf c) (lx:CfgFew c) (hy:CWf y) (h:portK c y.port = K):Calls Tryz.prog 34 #[.agg (cfgCells c x),.agg (cCells y).toArray] w (fun e w' => e = .returned (.int .i64 K) ∧ Below w.heap.size w w'):=by subst h;exact channel_b c x y w hx wx lx hy
/-- The channel whose bell a call rings,and one;0: none. -/
def rings (c:Cfg) (y:CV):Int:=if portB c y.port = true ∧ y.op = 5 then portK c y.port + 1 else 0
set_option maxHeartbeats 3200000 in
theorem rings_b (c:Cfg) (x:CfgAt) (y:CV) (w:World) (hx:CfgIn w w.heap.size c x) (wx:CfgWf c) (lx:CfgFew c) (hy:CWf y):Calls Tryz.prog 14 #[.agg (cfgCells c x),.agg (cCells y).toArray] w (fun e w' => e = .returned (.int .i64 (rings c y)) ∧ Below w.heap.size w w'):=by
 obtain ⟨W,HW,hB0,hWs,bx⟩:=one_cbox w c x 29
 obtain ⟨W2,HW2,hB2,hs2,yv⟩:=box17 W y
 have HP:=rport_is c x y.port _ _ _ _ W2 ((hx.later hB0).later hB2) wx lx hy.port ⟨rfl,rfl,rfl,rfl⟩
 have hk0:0 ≤ portK c y.port ∧ portK c y.port < 1000000000:=by
  have:=lx.2.1
  cases hb:portB c y.port with
  | false => rw [(port_none hb).1];omega
  | true => obtain ⟨k,hk,h⟩:=portK_of hb;omega
 have hwr:IntKind.i64.wrap (portK c y.port + 1) = portK c y.port + 1:=IntWalk.i64_in _ (by omega)
 obtain ⟨pa,pc,ca,cc,aa,ac,ba,bc⟩:=x
 obtain ⟨c0,c1,c2,c3,c4,c5⟩:=bx W2 hB2
 have y2:=yv.b_port
 have HYV:=hid (fun V (hb:Below W2.heap.size W2 V) => (yv.later hb (by omega)).b_op)
 have HB:=hid (hB0.trans (hB2.mono hB0.size));have HP:=hid HP
 obtain ⟨K,hK⟩:∃ K,portK c y.port = K:=⟨_,rfl⟩
 obtain ⟨q,hq⟩:∃ q,portB c y.port = q:=⟨_,rfl⟩
 have HR:Hid (rings c y = if q = true ∧ y.op = 5 then K + 1 else 0):=hid (by unfold rings;rw [hK,hq])
 rw [hK,hq] at HP
 rw [hK] at hwr
 simp only [cfgCells] at HW HP ⊢
 clear hx hB0 hWs bx wx lx hy hB2 hs2 yv hk0 hK hq
 go_enter Tryz.func14,Tryz.ntmps14
 go_wp2_with (first | (rw [← HW.out]) | (rw [← HW2.out]))
 refine HP.out.mono ?_
 rintro e w3 ⟨rfl,hb3⟩
 obtain ⟨W4,HW4,hB4,hs4,v4⟩:=box_new w3 #[.int .i64 K,.int .i64 (portP c y.port),.bool (portS c y.port),.bool q] 110
 have z:=v4 W4 (Below.refl _ _)
 have z3:W4.cell? ⟨w3.heap.size,3,none⟩ = some (.bool q):=blk_at z (i:=3) rfl
 have z0:W4.cell? ⟨w3.heap.size,0,none⟩ = some (.int .i64 K):=blk_at z (i:=0) rfl
 have y1:=HYV.out W4 (hb3.trans (hB4.mono hb3.size))
 have HB4:=hid (HB.out.trans ((hb3.trans (hB4.mono hb3.size)).mono HB.out.size))
 clear hb3 hB4 hs4 v4 z HP c0 c1 c2 c3 c4 c5 y2
 cases q with
 | false =>
  go_wp2_with (rw [← HW4.out])
  go_ret
  exact ⟨by rw [HR.out,if_neg (by simp)];rfl,HB4.out⟩
 | true =>
  by_cases ho:y.op = 5
  ·have q5:(y.op != 5) = false:=by simp [ho]
   have HO:=hid ho
   clear ho
   go_wp2_with (rw [← HW4.out])
   go_ret
   exact ⟨by rw [HR.out,if_pos (by simp [HO.out])];first | rfl | (simp only [List.getD_toArray,Array.getD,hwr];rfl),HB4.out⟩
  ·have q5:(y.op != 5) = true:=by simp [ho]
   have HO:=hid ho
   clear ho
   go_wp2_with (rw [← HW4.out])
   go_ret
   exact ⟨by rw [HR.out,if_neg (fun h => HO.out h.2)];rfl,HB4.out⟩
set_option maxHeartbeats 1600000 in
theorem has18_b (A:Option Addr) (k:Nat) (l:List Int) (n:Int) (w:World) (hr:IntRowK .i64 w w.heap.size A l) (hl:l.length ≤ 1000000):Calls Tryz.prog 37 #[.slice A l.length k,.int .i64 n] w fun e w' => e = .returned (.bool (decide (n ∈ l))) ∧ w = w':=by
 have HR:=hid hr
 clear hr
 go_enter Tryz.func37,Tryz.ntmps37
 go_wp2
 go_loopw [5] (fun ix wr => ∃ i:Nat,i ≤ l.length ∧ ix = .int .i64 i ∧ (∀ j:Nat,j < i → l.getD j 0 ≠ n) ∧ wr = w) (fun ix _ => l.length - (intOf ix).toNat)
 case atStart => exact ⟨0,Nat.zero_le _,rfl,fun j hj => absurd hj (by omega),rfl⟩
 case round =>
  obtain ⟨i,hi,rfl,hno,hw⟩:=hrel
  subst hw
  have HNO:=hid hno
  clear hno
  by_cases hlt:i < l.length
  ·obtain ⟨b,o,rfl,hbl,hc⟩:=HR.out (by omega)
   have c0:=hc i hlt
   obtain ⟨v,hv⟩:∃ v,l.getD i 0 = v:=⟨_,rfl⟩
   rw [hv] at c0
   have hi2:(i:Int) < (l.length:Int):=by omega
   have HLT:=hid hlt;have HV:=hid hv
   clear hc hlt hv
   by_cases hp:v = n
   ·have hpa:(v == n) = true:=by simp [hp]
    have HIN:Hid (decide (n ∈ l) = true):=hid (decide_eq_true (by rw [← hp,← HV.out];simp [List.getD_eq_getElem?_getD,HLT.out]))
    clear hp
    go_wp2
    go_ret
    exact ⟨by rw [HIN.out];rfl,rfl⟩
   ·have hpa:(v == n) = false:=by simp [hp]
    have HP:=hid hp
    clear hp
    go_wp2
    go_roundw
    case rel => exact ⟨i + 1,by have:=HLT.out;omega,by go_num,fun j hj => by
     by_cases e:j = i
     ·rw [e,HV.out];exact HP.out
     ·exact HNO.out j (by omega),by trivial⟩
    case measure => simp [intOf];have:=HLT.out;omega
  ·have hi2:¬ ((i:Int) < (l.length:Int)):=by omega
   have HIN:Hid (decide (n ∈ l) = false):=hid (decide_eq_false (fun hm => by
    obtain ⟨j,hj,e⟩:=List.getElem_of_mem hm
    exact HNO.out j (by omega) (by simp [List.getD_eq_getElem?_getD,hj,e])))
   clear hlt
   go_wp2
   go_ret
   exact ⟨by rw [HIN.out];rfl,rfl⟩
end Go.Proofs.YtheeiklgblcjfaaGreatDoor
end
section
namespace Go.Proofs.YtheeiklgblcjfaaGreatDoor
open Go.Lib (hid)
open Go.RowKit Go.Sort
set_option maxRecDepth 100000
def wo (l:List Int) (n:Int):List Int:=l.filter (fun q => q != n)
theorem wo_take {l:List Int} {i:Nat} {x:Int} (h:l[i]? = some x) (n:Int):wo (l.take (i + 1)) n = if x = n then wo (l.take i) n else wo (l.take i) n ++ [x]:=by
 unfold wo
 rw [List.take_add_one,h,List.filter_append]
 by_cases hx:x = n
 ·rw [if_pos hx];simp [hx]
 ·rw [if_neg hx];simp [hx]
theorem wo_len (l:List Int) (n:Int):(wo l n).length ≤ l.length:=List.length_filter_le _ _
set_option maxHeartbeats 4000000 in
theorem without_b (A:Option Addr) (k:Nat) (l:List Int) (n:Int) (w:World) (hr:IntRowK .i64 w w.heap.size A l) (hl:l.length ≤ 1000000):Calls Tryz.prog 77 #[.slice A l.length k,.int .i64 n] w (GivesNums w (wo l n)):=by
 have HR:=hid hr;have HL:=hid hl
 obtain ⟨i0,hi0,hz0,hz1,hz2⟩:=info_parts Tryz.infoI
 clear hr
 go_enter Tryz.func77,Tryz.ntmps77
 go_wp2
 go_loopw [5,6] (fun v ix wr => ∃ i:Nat,i ≤ l.length ∧ ix = .int .i64 i ∧ OwnsOff wr w.heap.size 3 1 v (wo (l.take i) n).length (icells (wo (l.take i) n)) ∧ Below w.heap.size w wr) (fun _ ix _ => l.length - (intOf ix).toNat)
 case atStart => exact ⟨0,Nat.zero_le _,rfl,OwnsOff.nil _ _ _ _,Below.refl _ _⟩
 case round =>
  obtain ⟨i,hi,rfl,hown,hbr⟩:=hrel
  by_cases hlt:i < l.length
  ·obtain ⟨b,o,rfl,hbl,hc⟩:=HR.out (by omega)
   obtain ⟨x,hx⟩:∃ x,l[i]? = some x:=⟨_,List.getElem?_eq_getElem hlt⟩
   have c0:wr.cell? ⟨b,o + i,none⟩ = some (.int .i64 x):=by
    rw [hbr.cell (p:=⟨b,o + i,none⟩) hbl,hc i hlt];simp [List.getD_eq_getElem?_getD,hx]
   have hi2:(i:Int) < (l.length:Int):=by omega
   have HLT:=hid hlt
   obtain ⟨xs,hxs⟩:∃ xs,wo (l.take i) n = xs:=⟨_,rfl⟩
   have hxl:xs.length ≤ 1000000:=by rw [← hxs];have:=wo_len (l.take i) n;have:=HL.out;simp at *;omega
   have HXL:=hid hxl
   have HN:=hid (wo_take hx n)
   rw [hxs] at hown HN
   by_cases hp:x = n
   ·have HB:=hid hbr;have HW:=hid hown
    have hpa:(x != n) = false:=by simp [hp]
    have HN2:=hid (HN.out.trans (if_pos hp))
    clear hxs hc hbr hown hx hlt hxl hp
    go_wp2
    go_roundw
    case rel => exact ⟨i + 1,by have:=HLT.out;omega,by go_num,by rw [HN2.out];exact HW.out,HB.out⟩
    case measure => simp [intOf];have:=HLT.out;omega
   ·have hpa:(x != n) = true:=by simp [hp]
    have HN2:=hid (HN.out.trans (if_neg hp))
    have hbo:=hbr
    clear hxs hc hbr hx hlt hxl hp
    go_wp2_with (at_builtin;refine wpList_append_off _ rfl _ _ 55 rfl w.heap.size 3 i0 (.int .i64 0) 1 8 Tryz.underlying55 hi0 hz0 hz1 hz2 rfl (by decide) _ _ _ rfl (hown.keptB ((Below.refl _ _).alloc (Nat.le_refl _) _)) ⟨wr.heap.size,0,none⟩ 1 1 [.int .i64 x] rfl rfl (news_new _ _ _) (by simp [Value.oneCell']) (by have:=HXL.out;unfold maxLen;omega) (by have:=HXL.out;omega) (by have:=hbo.size;simp;omega) ?_)
    intro v' w6 hown' hgrow _
    have hb6:=hid ((hbo.alloc hbo.size _).grown hgrow (by have:=hbo.size;simp;omega) (fun i e => (hown.lt i e).1))
    have H3:Hid (OwnsOff w6 w.heap.size 3 1 v' (xs ++ [x]).length (icells (xs ++ [x]))):=hid (by rw [List.length_append,icells_app];exact hown')
    clear hown' hgrow hown hbo c0
    go_wp2
    go_roundw
    case rel => exact ⟨i + 1,by have:=HLT.out;omega,by go_num,by rw [HN2.out];exact H3.out,hb6.out⟩
    case measure => simp [intOf];have:=HLT.out;omega
  ·have hil:i = l.length:=by omega
   subst hil
   have H3:=hid hown;have HB:=hid hbr
   clear hown hbr
   go_wp2
   go_ret
   exact ⟨_,rfl,by have:=H3.out;rwa [List.take_length] at this,HB.out⟩
end Go.Proofs.YtheeiklgblcjfaaGreatDoor
end
section
namespace Go.Proofs.YtheeiklgblcjfaaGreatDoor
open Go.Lib (hid)
open Go.RowKit Go.Sort
set_option maxRecDepth 100000
/-- A partition of the document's,as far as what was done asks it: its block,its two lists. -/
structure DP (w:World) (n0 xb:Nat) (p:Int) (s:St8) (mv vv:Value) (op port addr:Int) (da:Option Addr) (dn dk:Nat):Prop where
 blk:w.heap[xb]? = some (.cells #[.slice none 0 0,.slice none 0 0,.int .i64 0,.slice none 0 0,.int .i64 0,.slice none 0 0,.int .i64 p,.bool s.sn,mv,vv,.slice none 0 0,.slice none 0 0,.int .i64 op,.int .i64 port,.int .u64 addr,.slice da dn dk,.pointer none,.int .i64 0] 122 (0,0))
 low:n0 ≤ xb ∧ n0 ≤ w.heap.size
 made:OwnsOff w n0 3 1 mv s.made.length (icells s.made)
 valid:OwnsOff w n0 3 1 vv s.valid.length (icells s.valid)
 off:∀ g,mv.ownBlock = some g → vv.ownBlock ≠ some g
theorem own_typ {w:World} {base:Nat} {v:Value} {n:Nat} {xs:List Value} {xb:Nat} {cs:Array Value} (h:OwnsOff w base 3 1 v n xs) (hb:w.heap[xb]? = some (.cells cs 122 (0,0))):∀ k,v.ownBlock = some k → k ≠ xb:=fun k hk e => by
 obtain ⟨cs',hc⟩:=h.typed k hk
 rw [e,hb] at hc
 injection hc with hc
 injection hc with _ hc
 exact absurd hc (by decide)
theorem DP.later {w:World} {n0 xb:Nat} {p:Int} {s:St8} {mv vv:Value} {op port addr:Int} {da:Option Addr} {dn dk:Nat} (h:DP w n0 xb p s mv vv op port addr da dn dk) {w':World} (hb:Below w.heap.size w w'):DP w' n0 xb p s mv vv op port addr da dn dk:=
 ⟨(hb.block xb (Array.getElem?_eq_some_iff.1 h.blk).1).trans h.blk,⟨h.low.1,Nat.le_trans h.low.2 hb.size⟩,h.made.keptB hb,h.valid.keptB hb,h.off⟩
/-- A change of the block alone. -/
theorem DP.set {w:World} {n0 xb:Nat} {p:Int} {s:St8} {mv vv:Value} {op port addr:Int} {da:Option Addr} {dn dk:Nat} (h:DP w n0 xb p s mv vv op port addr da dn dk) (j:Nat) (v:Value) {s':St8} {op' port' addr':Int} {da':Option Addr} {dn' dk':Nat} (hm:s'.made = s.made) (hv:s'.valid = s.valid)
  (he:(#[.slice none 0 0,.slice none 0 0,.int .i64 0,.slice none 0 0,.int .i64 0,.slice none 0 0,.int .i64 p,.bool s.sn,mv,vv,.slice none 0 0,.slice none 0 0,.int .i64 op,.int .i64 port,.int .u64 addr,.slice da dn dk,.pointer none,.int .i64 0]:Array Value).setIfInBounds j v = #[.slice none 0 0,.slice none 0 0,.int .i64 0,.slice none 0 0,.int .i64 0,.slice none 0 0,.int .i64 p,.bool s'.sn,mv,vv,.slice none 0 0,.slice none 0 0,.int .i64 op',.int .i64 port',.int .u64 addr',.slice da' dn' dk',.pointer none,.int .i64 0]):DP (w.setCell ⟨xb,j,none⟩ v) n0 xb p s' mv vv op' port' addr' da' dn' dk':=by
 have ho:=Only.setCell w ⟨xb,j,none⟩ v
 refine ⟨blk_put h.blk he,⟨h.low.1,by have:=ho.size;have:=h.low.2;omega⟩,?_,?_,h.off⟩
 ·rw [hm];exact h.made.kept ho (own_typ h.made h.blk)
 ·rw [hv];exact h.valid.kept ho (own_typ h.valid h.blk)
/-- The made ones turn. -/
theorem DP.setMade {w:World} {n0 xb:Nat} {p:Int} {s:St8} {mv vv:Value} {op port addr:Int} {da:Option Addr} {dn dk:Nat} (h:DP w n0 xb p s mv vv op port addr da dn dk) {w2:World} {v':Value} {l:List Int} (ho:Only (fun k => mv.ownBlock = some k) w w2) (hown:OwnsOff w2 n0 3 1 v' l.length (icells l)) (hfr:∀ g,v'.ownBlock = some g → mv.ownBlock = some g ∨ w.heap.size ≤ g) :
  w2.cell? ⟨xb,8,none⟩ = some mv ∧ w2.frozen? ⟨xb,8,none⟩ = false ∧ DP (w2.setCell ⟨xb,8,none⟩ v') n0 xb p { s with made:=l } v' vv op port addr da dn dk:=by
 have hb2:w2.heap[xb]? = some (.cells #[.slice none 0 0,.slice none 0 0,.int .i64 0,.slice none 0 0,.int .i64 0,.slice none 0 0,.int .i64 p,.bool s.sn,mv,vv,.slice none 0 0,.slice none 0 0,.int .i64 op,.int .i64 port,.int .u64 addr,.slice da dn dk,.pointer none,.int .i64 0] 122 (0,0)):=(ho.block xb (Array.getElem?_eq_some_iff.1 h.blk).1 (fun e => own_typ h.made h.blk xb e rfl)).trans h.blk
 have ho2:=Only.setCell w2 ⟨xb,8,none⟩ v'
 have hv2:OwnsOff w2 n0 3 1 vv s.valid.length (icells s.valid):=h.valid.kept ho (fun k e e2 => h.off k e2 e)
 refine ⟨blk_at hb2 (i:=8) rfl,by simp [World.frozen?,hb2],⟨blk_put hb2 rfl,⟨h.low.1,by have:=ho.size;have:=ho2.size;have:=h.low.2;omega⟩,hown.kept ho2 (own_typ hown hb2),hv2.kept ho2 (own_typ hv2 hb2),fun g hg e => ?_⟩⟩
 rcases hfr g hg with h1 | h1
 ·exact h.off g h1 e
 ·have:=(h.valid.lt g e).2;omega
/-- The valid ones turn: a new list. -/
theorem DP.setValid {w:World} {n0 xb:Nat} {p:Int} {s:St8} {mv vv:Value} {op port addr:Int} {da:Option Addr} {dn dk:Nat} (h:DP w n0 xb p s mv vv op port addr da dn dk) {w2:World} {v':Value} {l:List Int} (hb:Below w.heap.size w w2) (hown:OwnsOff w2 n0 3 1 v' l.length (icells l)) (hfr:∀ g,v'.ownBlock = some g → w.heap.size ≤ g) :
  w2.cell? ⟨xb,9,none⟩ = some vv ∧ w2.frozen? ⟨xb,9,none⟩ = false ∧ DP (w2.setCell ⟨xb,9,none⟩ v') n0 xb p { s with valid:=l } mv v' op port addr da dn dk:=by
 have hb2:w2.heap[xb]? = some (.cells #[.slice none 0 0,.slice none 0 0,.int .i64 0,.slice none 0 0,.int .i64 0,.slice none 0 0,.int .i64 p,.bool s.sn,mv,vv,.slice none 0 0,.slice none 0 0,.int .i64 op,.int .i64 port,.int .u64 addr,.slice da dn dk,.pointer none,.int .i64 0] 122 (0,0)):=(hb.block xb (Array.getElem?_eq_some_iff.1 h.blk).1).trans h.blk
 have ho2:=Only.setCell w2 ⟨xb,9,none⟩ v'
 have hm2:OwnsOff w2 n0 3 1 mv s.made.length (icells s.made):=h.made.keptB hb
 refine ⟨blk_at hb2 (i:=9) rfl,by simp [World.frozen?,hb2],⟨blk_put hb2 rfl,⟨h.low.1,by have:=hb.size;have:=ho2.size;have:=h.low.2;omega⟩,hm2.kept ho2 (own_typ hm2 hb2),hown.kept ho2 (own_typ hown hb2),fun g hg e => ?_⟩⟩
 have:=(h.made.lt g hg).2
 have:=hfr g e
 omega
theorem wo_eq {l:List Int} {n:Int} (h:n ∉ l):wo l n = l:=by
 unfold wo
 rw [List.filter_eq_self]
 intro a ha
 simp
 intro e;subst e;exact h ha
theorem wo_lt {l:List Int} {n:Int} (h:n ∈ l):(wo l n).length < l.length:=by
 unfold wo
 rcases Nat.lt_or_ge (l.filter (fun q => q != n)).length l.length with h1 | h1
 ·exact h1
 ·have:=List.filter_eq_self.1 (List.Sublist.eq_of_length_le List.filter_sublist h1) n h
  simp at this
theorem dAns_r {s:St8} {port code:Int} {va:Bool} (hc:code = 0 ∨ code = 1):dAns s 4 port code va = { s with valid:=if va = false then wo s.valid port else if port ∈ s.valid then s.valid else s.valid ++ [port] }:=by
 unfold dAns wo
 rw [if_neg (by omega),if_pos ⟨rfl,hc⟩]
 have:(s.sn || (decide ((4:Int) = 2) && decide (code = 0))) = s.sn:=by
  rw [show decide ((4:Int) = 2) = false from by decide];simp
 rw [this]
set_option maxHeartbeats 12800000 in
theorem answered_b {w:World} {n0 xb:Nat} {p:Int} {s:St8} {mv vv:Value} {op port addr:Int} {da:Option Addr} {dn dk:Nat} (h:DP w n0 xb p s mv vv op port addr da dn dk) (code:Int) (aA:Option Addr) (an ak:Nat) (va:Bool) (ct:Int) (hl:s.made.length ≤ 100000 ∧ s.valid.length ≤ 100000):Calls Tryz.prog 50 #[.pointer (some ⟨xb,0,none⟩),.agg #[.int .i64 code,.slice aA an ak,.bool va,.int .i64 ct]] w (fun e w' => e = .returned (.tuple #[]) ∧ ∃ mv' vv',DP w' n0 xb p (dAns s op port code va) mv' vv' op port addr da dn dk ∧ Below n0 w w'):=by
 obtain ⟨ma,mk,hmv,-,-⟩:=h.made.slice
 obtain ⟨va',vk,hvv,-,-⟩:=h.valid.slice
 subst hmv hvv
 obtain ⟨W1,HW1,hB1,hs1,ax⟩:=box_new w #[.int .i64 code,.slice aA an ak,.bool va,.int .i64 ct] 42
 obtain ⟨W2,HW2,hB2,hs2,rx⟩:=box_new W1 #[.int .i64 op,.int .i64 port,.int .u64 addr,.slice da dn dk] 39
 have hh1:=h.later hB1
 have hh2:=hh1.later hB2
 have g0:W1.cell? ⟨xb,12,none⟩ = some (.int .i64 op):=blk_at hh1.blk (i:=12) rfl
 have g1:W1.cell? ⟨xb,13,none⟩ = some (.int .i64 port):=blk_at hh1.blk (i:=13) rfl
 have g2:W1.cell? ⟨xb,14,none⟩ = some (.int .u64 addr):=blk_at hh1.blk (i:=14) rfl
 have g3:W1.cell? ⟨xb,15,none⟩ = some (.slice da dn dk):=blk_at hh1.blk (i:=15) rfl
 obtain ⟨ab,hab⟩:∃ k,k = w.heap.size:=⟨_,rfl⟩
 obtain ⟨rb,hrb⟩:∃ k,k = W1.heap.size:=⟨_,rfl⟩
 have hA:=ax W2 hB2
 have hR:=rx W2 (Below.refl _ _)
 rw [← hab] at hA
 rw [← hrb] at hR
 have a0:W2.cell? ⟨ab,0,none⟩ = some (.int .i64 code):=blk_at hA (i:=0) rfl
 have a2:W2.cell? ⟨ab,2,none⟩ = some (.bool va):=blk_at hA (i:=2) rfl
 have r0:W2.cell? ⟨rb,0,none⟩ = some (.int .i64 op):=blk_at hR (i:=0) rfl
 have r1:W2.cell? ⟨rb,1,none⟩ = some (.int .i64 port):=blk_at hR (i:=1) rfl
 have f7:W2.frozen? ⟨xb,7,none⟩ = false:=by simp [World.frozen?,hh2.blk]
 have f9:W2.frozen? ⟨xb,9,none⟩ = false:=by simp [World.frozen?,hh2.blk]
 have HBW:=hid (hB1.trans (hB2.mono hB1.size))
 have HH:=hid hh2;have HAB:=hid hab;have HRB:=hid hrb;have HAA:=hid hA;have HRR:=hid hR
 have HN:=hid h.low
 have HLX:=hid (show xb < W2.heap.size from (Array.getElem?_eq_some_iff.1 hh2.blk).1)
 have HLR:=hid (show rb < W2.heap.size from (Array.getElem?_eq_some_iff.1 hR).1)
 have HML:=hid hl.1;have HVL:=hid hl.2
 have HNE:Hid (rb ≠ xb):=hid (fun e => by
  have:=hh2.blk
  rw [← e,hR] at this
  injection this with hc
  injection hc with _ hc
  exact absurd hc (by decide))
 clear h hh1 hh2 hA hR hab hrb hB1 hB2 hs1 hs2 ax rx hl
 go_enter Tryz.func50,Tryz.ntmps50
 by_cases h1:op = 1
 ·have q1:(op == 1) = true:=by simp [h1]
  have q2:(op == 2) = false:=by simp [h1]
  have q4:(op != 4) = true:=by simp [h1]
  by_cases hc:code = 0
  ·have HD:=hid (show dAns s op port code va = { s with made:=s.made ++ [port] } from by unfold dAns;rw [if_pos ⟨h1,hc⟩,if_neg (by omega),h1];simp)
   have q0:(code == 0) = true:=by simp [hc]
   obtain ⟨i0,hi0,hz0',hz1',hz2'⟩:=info_parts Tryz.infoI8
   have c8:W2.cell? ⟨xb,8,none⟩ = some (.slice ma s.made.length mk):=blk_at HH.out.blk (i:=8) rfl
   have HRM:Hid (∀ k,(Value.slice ma s.made.length mk).ownBlock = some k → k = rb → False):=hid (fun k => by
    intro e e2
    obtain ⟨cs',hc⟩:=HH.out.made.typed _ e
    rw [e2,HRR.out] at hc
    injection hc with hc
    injection hc with _ hc
    exact absurd hc (by decide))
   clear h1 hc
   go_wp2_with (first | (rw [← HW1.out];(try simp only [← HAB.out])) | (rw [← HW2.out];(try simp only [← HRB.out])))
   refine wp_region_till (fun W' => W'.heap[xb]? = W2.heap[xb]? ∧ W'.heap[rb]? = W2.heap[rb]?) 13 (by kernel_rfl) (by exact ⟨rfl,rfl⟩) (fun hHeld => ?_)
   refine Tt 0 rfl ?_
   (try simp only [Zc])
   refine Tt 1 rfl ?_
   (try simp only [Zc])
   refine Tt 2 rfl ?_
   (try simp only [Zc])
   refine Tt 3 rfl ?_
   (try simp only [Zc])
   refine Tt 4 rfl ?_
   (try simp only [Zc])
   refine till_load (i:=5) rfl (by kernel_rfl) (by kernel_rfl) (by kernel_rfl) (fun _ _ _ h => h) (by kernel_rfl) (by kernel_rfl) (by kernel_rfl) (Or.inl ⟨by rfl,by intro w hSw;(have z0:=(cell_same hSw.1 8).trans c8);(go_simp <;> with_reducible rfl)⟩) (by assumption) ?_
   (try simp only [Zc])
   refine Tt 6 rfl ?_
   (try simp only [Zc])
   refine till_load (i:=7) rfl (by kernel_rfl) (by kernel_rfl) (by kernel_rfl) (fun _ _ _ h => h) (by kernel_rfl) (by kernel_rfl) (by kernel_rfl) (Or.inl ⟨by rfl,by intro w hSw;(have z1:=(cell_same hSw.2 1).trans r1);(go_simp <;> with_reducible rfl)⟩) (by assumption) ?_
   (try simp only [Zc])
   refine till_one (i:=8) (by kernel_rfl) rfl (fun K hK => ?_)
   go_simp
   obtain ⟨w5,hw5⟩:∃ u,Hid (u = (W2.alloc (.cells #[.int .i64 port] 3)).drew):=⟨_,rfl⟩
   rw [← hw5.out]
   have hb5:Below W2.heap.size W2 w5:=by rw [hw5.out];exact ((Below.refl _ _).alloc (Nat.le_refl _) _).drew
   have HE5:Hid (w5.heap[W2.heap.size]? = some (.cells #[.int .i64 port] 3 (0,0))):=hid (by rw [hw5.out];exact heap_alloc_new _ _)
   have HO5:=hid (HH.out.made.keptB hb5)
   have HB5:=hid hb5
   have HS5:=hid (Nat.le_trans HH.out.low.2 hb5.size)
   clear hb5 hHeld
   refine hK.out _ _ (by exact ⟨HB5.out.block _ HLX.out,HB5.out.block _ HLR.out⟩) (fun hHeld => ?_)
   clear hK K
   (try simp only [Zc])
   refine till_one (i:=9) (by kernel_rfl) rfl (fun K hK => ?_)
   refine step_append_off rfl _ _ 55 rfl n0 3 i0 (.int .i64 0) 1 8 Tryz.underlying55 hi0 hz0' hz1' hz2' rfl (by decide) _ s.made.length (icells s.made) rfl HO5.out ⟨W2.heap.size,0,none⟩ 1 1 [.int .i64 port] rfl rfl (news_block HE5.out) (by simp [Value.oneCell']) (by have:=HML.out;unfold maxLen;omega) (by have:=HML.out;omega) HS5.out ?_
   intro v6 w6 hown6 hgr6 hfr6
   obtain ⟨a6,k6,rfl,-,-⟩:=hown6.slice
   obtain ⟨d2,g2',hT⟩:=HH.out.setMade (w2:=w6) (v':=.slice a6 (s.made.length + 1) k6) (l:=s.made ++ [port]) ((Only.of_below HB5.out).trans ((Only.of_grown hgr6).mono fun k _ e => e.symm)) (by have:=hown6;simpa [icells] using this) (fun g e => (hfr6 g e).imp id (fun q => Nat.le_trans HB5.out.size q))
   have HT:=hid hT
   have HGR:=hid hgr6
   have HOM:=hid (own_typ HO5.out (by have:=HH.out.blk;rw [← HB5.out.block _ HLX.out] at this;exact this))
   clear hT hown6 hgr6 hfr6 hHeld
   refine hK.out _ _ (by exact ⟨(HGR.out.block _ (Nat.lt_of_lt_of_le HLX.out HB5.out.size) (fun e => HOM.out _ e.symm rfl)).trans (HB5.out.block _ HLX.out),(HGR.out.block _ (Nat.lt_of_lt_of_le HLR.out HB5.out.size) (fun e => HRM.out _ e.symm rfl)).trans (HB5.out.block _ HLR.out)⟩) (fun hHeld => ?_)
   clear hK K
   (try simp only [Zc])
   refine Tt 10 rfl ?_
   (try simp only [Zc])
   refine Tt 11 rfl ?_
   (try simp only [Zc])
   refine Tt 12 rfl ?_
   (try simp only [Zc])
   refine till_last (by kernel_rfl) rfl (fun K hK => ?_)
   go_simp
   refine hK.out _ _ ?_
   clear hK K
   (try simp only [Zc])
   refine till_done (by kernel_rfl) ?_ _
   obtain ⟨w7,hw7⟩:∃ u,Hid (u = w6.setCell ⟨xb,8,none⟩ (.slice a6 (s.made.length + 1) k6)):=⟨_,rfl⟩
   rw [← hw7.out]
   have HT7:Hid (DP w7 n0 xb p { s with made:=s.made ++ [port] } (.slice a6 (s.made.length + 1) k6) (.slice va' s.valid.length vk) op port addr da dn dk):=hid (by rw [hw7.out];exact HT.out)
   have hO7:Only (fun k => (Value.slice ma s.made.length mk).ownBlock = some k ∨ k = xb) W2 w7:=by
    rw [hw7.out]
    exact (((Only.of_below HB5.out).trans ((Only.of_grown HGR.out).mono fun k _ e => e.symm)).mono fun k _ e => .inl e).trans ((Only.setCell w6 ⟨xb,8,none⟩ _).mono fun k _ e => .inr e)
   have hkR:=(hO7.block rb HLR.out (fun e => e.elim (fun e => HRM.out rb e rfl) (fun e => HNE.out e))).trans HRR.out
   have s0:w7.cell? ⟨rb,0,none⟩ = some (.int .i64 op):=blk_at hkR (i:=0) rfl
   have HB7:Hid (Below n0 W2 w7):=hid (hO7.below (by have:=HBW.out.size;have:=HN.out.2;omega) (fun k e => e.elim (fun e => (HH.out.made.lt k e).1) (fun e => by rw [e];exact HN.out.1)))
   clear a0 a2 r0 r1 f7 f9 c8 d2 g2' hkR hO7
   go_wp2_with fail
   (first | go_end0 | ((try simp only [Exit.inBlock,Exit.then]);refine bodyPost_ret (results_none rfl _ _ _) rfl ?_))
   exact ⟨rfl,_,_,by rw [HD.out];exact HT7.out,(HBW.out.mono HN.out.2).trans HB7.out⟩
  ·have HD:=hid (show dAns s op port code va = s from dAns_no (by omega) (by omega) (by omega))
   have q0:(code == 0) = false:=by simp [hc]
   clear hc h1
   go_wp2_with (first | (rw [← HW1.out];(try simp only [← HAB.out])) | (rw [← HW2.out];(try simp only [← HRB.out])))
   (first | go_end0 | ((try simp only [Exit.inBlock,Exit.then]);refine bodyPost_ret (results_none rfl _ _ _) rfl ?_))
   exact ⟨rfl,_,_,by rw [HD.out];exact HH.out,HBW.out.mono HN.out.2⟩
 have q1:(op == 1) = false:=by simp [h1]
 by_cases h2:op = 2
 ·have q2:(op == 2) = true:=by simp [h2]
  have q4:(op != 4) = true:=by simp [h2]
  by_cases hc:code = 0
  ·have HD:=hid (show dAns s op port code va = { s with sn:=true } from by unfold dAns;rw [if_neg (by omega),if_neg (by omega),h2,hc];simp)
   have q0:(code == 0) = true:=by simp [hc]
   obtain ⟨V,hV⟩:∃ u,Hid (u = W2.setCell ⟨xb,7,none⟩ (.bool true)):=⟨_,rfl⟩
   have hOV:=Only.setCell W2 ⟨xb,7,none⟩ (.bool true)
   rw [← hV.out] at hOV
   have s0:V.cell? ⟨rb,0,none⟩ = some (.int .i64 op):=blk_at ((hOV.block rb HLR.out HNE.out).trans HRR.out) (i:=0) rfl
   have c7:W2.cell? ⟨xb,7,none⟩ = some (.bool s.sn):=blk_at HH.out.blk (i:=7) rfl
   clear hOV h2 hc h1
   go_wp2_with (first | (rw [← hV.out]) | (rw [← HW1.out];(try simp only [← HAB.out])) | (rw [← HW2.out];(try simp only [← HRB.out])))
   (first | go_end0 | ((try simp only [Exit.inBlock,Exit.then]);refine bodyPost_ret (results_none rfl _ _ _) rfl ?_))
   rw [hV.out]
   exact ⟨rfl,_,_,by rw [HD.out];exact HH.out.set 7 (.bool true) (s':={ s with sn:=true }) (op':=op) (port':=port) (addr':=addr) (da':=da) (dn':=dn) (dk':=dk) rfl rfl rfl,(HBW.out.mono HN.out.2).trans ((Only.setCell W2 ⟨xb,7,none⟩ (.bool true)).below (by have:=HBW.out.size;have:=HN.out.2;omega) (fun k e => by rw [e];exact HN.out.1))⟩
  ·have HD:=hid (show dAns s op port code va = s from dAns_no (by omega) (by omega) (by omega))
   have q0:(code == 0) = false:=by simp [hc]
   clear hc h2 h1
   go_wp2_with (first | (rw [← HW1.out];(try simp only [← HAB.out])) | (rw [← HW2.out];(try simp only [← HRB.out])))
   (first | go_end0 | ((try simp only [Exit.inBlock,Exit.then]);refine bodyPost_ret (results_none rfl _ _ _) rfl ?_))
   exact ⟨rfl,_,_,by rw [HD.out];exact HH.out,HBW.out.mono HN.out.2⟩
 have q2:(op == 2) = false:=by simp [h2]
 by_cases h4:op = 4
 ·have q4:(op != 4) = false:=by simp [h4]
  by_cases hc:code = 0
  ·have n0:(code != 0) = false:=by simp [hc]
   have HC:=hid (show code = 0 ∨ code = 1 from by omega)
   have HO:=hid h4
   have c9:W2.cell? ⟨xb,9,none⟩ = some (.slice va' s.valid.length vk):=blk_at HH.out.blk (i:=9) rfl
   have hW2:=HH.out.valid
   have HWC:=hid (without_b va' vk s.valid port W2.drew (by have:=own_row8 hW2;exact this.later8 (Below.refl _ _).drew) (by have:=HVL.out;omega))
   clear hW2 f9 h1 h2 h4 hc
   go_wp2_with (first | (rw [← HW1.out];(try simp only [← HAB.out])) | (rw [← HW2.out];(try simp only [← HRB.out])))
   refine wp_region_till (fun W' => Below W2.heap.size W2 W') 8 (by kernel_rfl) (by exact (Below.refl _ _).drew) (fun hHeld => ?_)
   refine Tt 0 rfl ?_
   (try simp only [Zc])
   refine Tt 1 rfl ?_
   (try simp only [Zc])
   refine Tt 2 rfl ?_
   (try simp only [Zc])
   refine Tt 3 rfl ?_
   (try simp only [Zc])
   refine till_load (i:=4) rfl (by kernel_rfl) (by kernel_rfl) (by kernel_rfl) (fun _ _ _ h => h) (by kernel_rfl) (by kernel_rfl) (by kernel_rfl) (Or.inl ⟨by rfl,by intro w hSw;(have z0:=(hSw.cell (p:=⟨xb,9,none⟩) HLX.out).trans c9);(go_simp <;> with_reducible rfl)⟩) (by assumption) ?_
   (try simp only [Zc])
   refine Tt 5 rfl ?_
   (try simp only [Zc])
   refine till_load (i:=6) rfl (by kernel_rfl) (by kernel_rfl) (by kernel_rfl) (fun _ _ _ h => h) (by kernel_rfl) (by kernel_rfl) (by kernel_rfl) (Or.inl ⟨by rfl,by intro w hSw;(have z1:=(hSw.cell (p:=⟨rb,1,none⟩) HLR.out).trans r1);(go_simp <;> with_reducible rfl)⟩) (by assumption) ?_
   (try simp only [Zc])
   refine till_one (i:=7) (by kernel_rfl) rfl (fun K hK => ?_)
   go_simp
   refine HWC.out.mono ?_
   rintro e w5 ⟨v5,rfl,hown5,hb5⟩
   (try go_wp2_with fail)
   have HB5:=hid ((Below.refl W2.heap.size W2).drew.trans hb5)
   obtain ⟨a5,k5,rfl,-,-⟩:=hown5.slice
   have HW5:=hid hown5
   clear hb5 hown5 HWC hHeld
   refine hK.out _ _ (by exact HB5.out) (fun hHeld => ?_)
   clear hK K
   (try simp only [Zc])
   refine till_last (by kernel_rfl) rfl (fun K hK => ?_)
   go_simp
   refine hK.out _ _ ?_
   clear hK K
   (try simp only [Zc])
   refine till_done (by kernel_rfl) ?_ _
   have p0:=(HB5.out.block rb HLR.out).trans HRR.out
   have pA:=(HB5.out.block ab (Array.getElem?_eq_some_iff.1 HAA.out).1).trans HAA.out
   have pX:=(HB5.out.block xb HLX.out).trans HH.out.blk
   have s1:w5.cell? ⟨rb,1,none⟩ = some (.int .i64 port):=blk_at p0 (i:=1) rfl
   have s2:w5.cell? ⟨ab,2,none⟩ = some (.bool va):=blk_at pA (i:=2) rfl
   have s9:w5.cell? ⟨xb,9,none⟩ = some (.slice va' s.valid.length vk):=blk_at pX (i:=9) rfl
   clear a0 a2 r0 r1 f7 c9 p0 pA pX
   cases va with
   | false =>
    have HD:=hid (show dAns s op port code false = { s with valid:=wo s.valid port } from by rw [HO.out,dAns_r HC.out,if_pos rfl])
    obtain ⟨d1,d2,hT⟩:=HH.out.setValid HB5.out (v':=.slice a5 (wo s.valid port).length k5) (l:=wo s.valid port) (HW5.out.mono HH.out.low.2) (fun g e => (HW5.out.lt g e).1)
    have HT:=hid hT
    clear hT
    go_wp2_with fail
    (first | go_end0 | ((try simp only [Exit.inBlock,Exit.then]);refine bodyPost_ret (results_none rfl _ _ _) rfl ?_))
    exact ⟨rfl,_,_,by rw [HD.out];exact HT.out,(HBW.out.mono HN.out.2).trans ((HB5.out.mono (by have:=HBW.out.size;have:=HN.out.2;omega)).trans ((Only.setCell w5 ⟨xb,9,none⟩ _).below (by have:=HB5.out.size;have:=HBW.out.size;have:=HN.out.2;omega) (fun k e => by rw [e];exact HN.out.1)))⟩
   | true =>
    by_cases hm:port ∈ s.valid
    ·have HD:=hid (show dAns s op port code true = s from by rw [HO.out,dAns_r HC.out,if_neg (by decide),if_pos hm])
     have hlen:(((wo s.valid port).length:Int) == (s.valid.length:Int)) = false:=by have:=wo_lt hm;simp;omega
     clear hm
     go_wp2_with fail
     (first | go_end0 | ((try simp only [Exit.inBlock,Exit.then]);refine bodyPost_ret (results_none rfl _ _ _) rfl ?_))
     exact ⟨rfl,_,_,by rw [HD.out];exact HH.out.later HB5.out,(HBW.out.mono HN.out.2).trans (HB5.out.mono (by have:=HBW.out.size;have:=HN.out.2;omega))⟩
    ·have HD:=hid (show dAns s op port code true = { s with valid:=s.valid ++ [port] } from by rw [HO.out,dAns_r HC.out,if_neg (by decide),if_neg hm])
     obtain ⟨i0,hi0,hz0,hz1,hz2⟩:=info_parts Tryz.infoI8
     have hwo:=wo_eq hm
     rw [hwo] at HW5 ⊢
     have hown:=HW5.out
     have hbo:=HB5.out
     clear hm hwo
     go_wp2_with (at_builtin;refine wpList_append_off _ rfl _ _ 55 rfl W2.heap.size 3 i0 (.int .i64 0) 1 8 Tryz.underlying55 hi0 hz0 hz1 hz2 rfl (by decide) _ _ _ rfl (hown.keptB ((Below.refl _ _).alloc (Nat.le_refl _) _)) ⟨w5.heap.size,0,none⟩ 1 1 [.int .i64 port] rfl rfl (news_new _ _ _) (by simp [Value.oneCell']) (by have:=HVL.out;unfold maxLen;omega) (by have:=HVL.out;omega) (by have:=hbo.size;simp;omega) ?_)
     intro v' w6 hown' hgrow _
     have HB6:=hid ((hbo.alloc hbo.size _).grown hgrow (by have:=hbo.size;simp;omega) (fun i e => (hown.lt i e).1))
     obtain ⟨a6,k6,rfl,-,-⟩:=hown'.slice
     have H3:Hid (OwnsOff w6 W2.heap.size 3 1 (.slice a6 (s.valid.length + 1) k6) (s.valid ++ [port]).length (icells (s.valid ++ [port]))):=hid (by rw [List.length_append,icells_app];exact hown')
     obtain ⟨d1,d2,hT⟩:=HH.out.setValid HB6.out (v':=.slice a6 (s.valid.length + 1) k6) (l:=s.valid ++ [port]) (H3.out.mono HH.out.low.2) (fun g e => (H3.out.lt g e).1)
     have HT:=hid hT
     clear hT hown' hgrow hown hbo s1 s2 s9
     go_wp2_with fail
     (first | go_end0 | ((try simp only [Exit.inBlock,Exit.then]);refine bodyPost_ret (results_none rfl _ _ _) rfl ?_))
     exact ⟨rfl,_,_,by rw [HD.out];exact HT.out,(HBW.out.mono HN.out.2).trans ((HB6.out.mono (by have:=HBW.out.size;have:=HN.out.2;omega)).trans ((Only.setCell w6 ⟨xb,9,none⟩ _).below (by have:=HB6.out.size;have:=HBW.out.size;have:=HN.out.2;omega) (fun k e => by rw [e];exact HN.out.1)))⟩
  have n0:(code != 0) = true:=by simp [hc]
  by_cases hc1:code = 1
  ·have n1:(code != 1) = false:=by simp [hc1]
   have HC:=hid (show code = 0 ∨ code = 1 from by omega)
   have HO:=hid h4
   have c9:W2.cell? ⟨xb,9,none⟩ = some (.slice va' s.valid.length vk):=blk_at HH.out.blk (i:=9) rfl
   have hW2:=HH.out.valid
   have HWC:=hid (without_b va' vk s.valid port W2.drew (by have:=own_row8 hW2;exact this.later8 (Below.refl _ _).drew) (by have:=HVL.out;omega))
   clear hW2 f9 h1 h2 h4 hc hc1
   go_wp2_with (first | (rw [← HW1.out];(try simp only [← HAB.out])) | (rw [← HW2.out];(try simp only [← HRB.out])))
   refine wp_region_till (fun W' => Below W2.heap.size W2 W') 8 (by kernel_rfl) (by exact (Below.refl _ _).drew) (fun hHeld => ?_)
   refine Tt 0 rfl ?_
   (try simp only [Zc])
   refine Tt 1 rfl ?_
   (try simp only [Zc])
   refine Tt 2 rfl ?_
   (try simp only [Zc])
   refine Tt 3 rfl ?_
   (try simp only [Zc])
   refine till_load (i:=4) rfl (by kernel_rfl) (by kernel_rfl) (by kernel_rfl) (fun _ _ _ h => h) (by kernel_rfl) (by kernel_rfl) (by kernel_rfl) (Or.inl ⟨by rfl,by intro w hSw;(have z0:=(hSw.cell (p:=⟨xb,9,none⟩) HLX.out).trans c9);(go_simp <;> with_reducible rfl)⟩) (by assumption) ?_
   (try simp only [Zc])
   refine Tt 5 rfl ?_
   (try simp only [Zc])
   refine till_load (i:=6) rfl (by kernel_rfl) (by kernel_rfl) (by kernel_rfl) (fun _ _ _ h => h) (by kernel_rfl) (by kernel_rfl) (by kernel_rfl) (Or.inl ⟨by rfl,by intro w hSw;(have z1:=(hSw.cell (p:=⟨rb,1,none⟩) HLR.out).trans r1);(go_simp <;> with_reducible rfl)⟩) (by assumption) ?_
   (try simp only [Zc])
   refine till_one (i:=7) (by kernel_rfl) rfl (fun K hK => ?_)
   go_simp
   refine HWC.out.mono ?_
   rintro e w5 ⟨v5,rfl,hown5,hb5⟩
   (try go_wp2_with fail)
   have HB5:=hid ((Below.refl W2.heap.size W2).drew.trans hb5)
   obtain ⟨a5,k5,rfl,-,-⟩:=hown5.slice
   have HW5:=hid hown5
   clear hb5 hown5 HWC hHeld
   refine hK.out _ _ (by exact HB5.out) (fun hHeld => ?_)
   clear hK K
   (try simp only [Zc])
   refine till_last (by kernel_rfl) rfl (fun K hK => ?_)
   go_simp
   refine hK.out _ _ ?_
   clear hK K
   (try simp only [Zc])
   refine till_done (by kernel_rfl) ?_ _
   have p0:=(HB5.out.block rb HLR.out).trans HRR.out
   have pA:=(HB5.out.block ab (Array.getElem?_eq_some_iff.1 HAA.out).1).trans HAA.out
   have pX:=(HB5.out.block xb HLX.out).trans HH.out.blk
   have s1:w5.cell? ⟨rb,1,none⟩ = some (.int .i64 port):=blk_at p0 (i:=1) rfl
   have s2:w5.cell? ⟨ab,2,none⟩ = some (.bool va):=blk_at pA (i:=2) rfl
   have s9:w5.cell? ⟨xb,9,none⟩ = some (.slice va' s.valid.length vk):=blk_at pX (i:=9) rfl
   clear a0 a2 r0 r1 f7 c9 p0 pA pX
   cases va with
   | false =>
    have HD:=hid (show dAns s op port code false = { s with valid:=wo s.valid port } from by rw [HO.out,dAns_r HC.out,if_pos rfl])
    obtain ⟨d1,d2,hT⟩:=HH.out.setValid HB5.out (v':=.slice a5 (wo s.valid port).length k5) (l:=wo s.valid port) (HW5.out.mono HH.out.low.2) (fun g e => (HW5.out.lt g e).1)
    have HT:=hid hT
    clear hT
    go_wp2_with fail
    (first | go_end0 | ((try simp only [Exit.inBlock,Exit.then]);refine bodyPost_ret (results_none rfl _ _ _) rfl ?_))
    exact ⟨rfl,_,_,by rw [HD.out];exact HT.out,(HBW.out.mono HN.out.2).trans ((HB5.out.mono (by have:=HBW.out.size;have:=HN.out.2;omega)).trans ((Only.setCell w5 ⟨xb,9,none⟩ _).below (by have:=HB5.out.size;have:=HBW.out.size;have:=HN.out.2;omega) (fun k e => by rw [e];exact HN.out.1)))⟩
   | true =>
    by_cases hm:port ∈ s.valid
    ·have HD:=hid (show dAns s op port code true = s from by rw [HO.out,dAns_r HC.out,if_neg (by decide),if_pos hm])
     have hlen:(((wo s.valid port).length:Int) == (s.valid.length:Int)) = false:=by have:=wo_lt hm;simp;omega
     clear hm
     go_wp2_with fail
     (first | go_end0 | ((try simp only [Exit.inBlock,Exit.then]);refine bodyPost_ret (results_none rfl _ _ _) rfl ?_))
     exact ⟨rfl,_,_,by rw [HD.out];exact HH.out.later HB5.out,(HBW.out.mono HN.out.2).trans (HB5.out.mono (by have:=HBW.out.size;have:=HN.out.2;omega))⟩
    ·have HD:=hid (show dAns s op port code true = { s with valid:=s.valid ++ [port] } from by rw [HO.out,dAns_r HC.out,if_neg (by decide),if_neg hm])
     obtain ⟨i0,hi0,hz0,hz1,hz2⟩:=info_parts Tryz.infoI8
     have hwo:=wo_eq hm
     rw [hwo] at HW5 ⊢
     have hown:=HW5.out
     have hbo:=HB5.out
     clear hm hwo
     go_wp2_with (at_builtin;refine wpList_append_off _ rfl _ _ 55 rfl W2.heap.size 3 i0 (.int .i64 0) 1 8 Tryz.underlying55 hi0 hz0 hz1 hz2 rfl (by decide) _ _ _ rfl (hown.keptB ((Below.refl _ _).alloc (Nat.le_refl _) _)) ⟨w5.heap.size,0,none⟩ 1 1 [.int .i64 port] rfl rfl (news_new _ _ _) (by simp [Value.oneCell']) (by have:=HVL.out;unfold maxLen;omega) (by have:=HVL.out;omega) (by have:=hbo.size;simp;omega) ?_)
     intro v' w6 hown' hgrow _
     have HB6:=hid ((hbo.alloc hbo.size _).grown hgrow (by have:=hbo.size;simp;omega) (fun i e => (hown.lt i e).1))
     obtain ⟨a6,k6,rfl,-,-⟩:=hown'.slice
     have H3:Hid (OwnsOff w6 W2.heap.size 3 1 (.slice a6 (s.valid.length + 1) k6) (s.valid ++ [port]).length (icells (s.valid ++ [port]))):=hid (by rw [List.length_append,icells_app];exact hown')
     obtain ⟨d1,d2,hT⟩:=HH.out.setValid HB6.out (v':=.slice a6 (s.valid.length + 1) k6) (l:=s.valid ++ [port]) (H3.out.mono HH.out.low.2) (fun g e => (H3.out.lt g e).1)
     have HT:=hid hT
     clear hT hown' hgrow hown hbo s1 s2 s9
     go_wp2_with fail
     (first | go_end0 | ((try simp only [Exit.inBlock,Exit.then]);refine bodyPost_ret (results_none rfl _ _ _) rfl ?_))
     exact ⟨rfl,_,_,by rw [HD.out];exact HT.out,(HBW.out.mono HN.out.2).trans ((HB6.out.mono (by have:=HBW.out.size;have:=HN.out.2;omega)).trans ((Only.setCell w6 ⟨xb,9,none⟩ _).below (by have:=HB6.out.size;have:=HBW.out.size;have:=HN.out.2;omega) (fun k e => by rw [e];exact HN.out.1)))⟩
  ·have HD:=hid (show dAns s op port code va = s from dAns_no (by omega) (by omega) (by omega))
   have n1:(code != 1) = true:=by simp [hc1]
   clear hc hc1 h1 h2 h4
   go_wp2_with (first | (rw [← HW1.out];(try simp only [← HAB.out])) | (rw [← HW2.out];(try simp only [← HRB.out])))
   (first | go_end0 | ((try simp only [Exit.inBlock,Exit.then]);refine bodyPost_ret (results_none rfl _ _ _) rfl ?_))
   exact ⟨rfl,_,_,by rw [HD.out];exact HH.out,HBW.out.mono HN.out.2⟩
 ·have q4:(op != 4) = true:=by simp [h4]
  have HD:=hid (show dAns s op port code va = s from dAns_no (by omega) (by omega) (by omega))
  clear h1 h2 h4
  go_wp2_with (first | (rw [← HW1.out];(try simp only [← HAB.out])) | (rw [← HW2.out];(try simp only [← HRB.out])))
  (first | go_end0 | ((try simp only [Exit.inBlock,Exit.then]);refine bodyPost_ret (results_none rfl _ _ _) rfl ?_))
  exact ⟨rfl,_,_,by rw [HD.out];exact HH.out,HBW.out.mono HN.out.2⟩
end Go.Proofs.YtheeiklgblcjfaaGreatDoor
end
section
namespace Go.Proofs.YtheeiklgblcjfaaGreatDoor
open Go.Lib (hid)
open Go.RowKit Go.Sort
set_option maxRecDepth 100000
/-- A standing that a call hands back,in new lists. -/
def GivesSd (w:World) (p:Int) (s:St8) (e:Ending) (w':World):Prop:=∃ A1 k1 A2 k2,e = .returned (.agg #[.int .i64 p,.bool s.sn,.slice A1 s.made.length k1,.slice A2 s.valid.length k2]) ∧ IntRowK .i64 w' w'.heap.size A1 s.made ∧ IntRowK .i64 w' w'.heap.size A2 s.valid ∧ Below w.heap.size w w'
theorem dSt_skip {l:List Pv} {i:Nat} {e:Pv} {p:Int} (h:l[i]? = some e) (hs:e.rang > 0 ∨ e.took > 0 ∨ e.x.part ≠ p):dSt (l.take (i + 1)) p = dSt (l.take i) p:=by
 rw [dSt_take h]
 unfold dStep
 rw [if_neg]
 intro hh
 rw [Bool.and_eq_true,decide_eq_true_eq] at hh
 rcases hs with hs | hs | hs
 ·rw [eff_no (.inl hs)] at hh;exact absurd hh.1 (by decide)
 ·rw [eff_no (.inr hs)] at hh;exact absurd hh.1 (by decide)
 ·exact hs hh.2
theorem dSt_do {l:List Pv} {i:Nat} {e:Pv} {p:Int} (h:l[i]? = some e) (hn:0 ≤ e.rang ∧ 0 ≤ e.took) (h1:¬ e.rang > 0) (h2:¬ e.took > 0) (h3:e.x.part = p):dSt (l.take (i + 1)) p = dAns (dSt (l.take i) p) e.x.op e.x.port e.code e.valid:=by
 rw [dSt_take h]
 unfold dStep
 rw [if_pos (by rw [eff_yes hn h1 h2,decide_eq_true h3];rfl)]
theorem std_zero {w:World} {xb:Nat} {p:Int} (h:w.heap[xb]? = some (.cells #[.slice none 0 0,.slice none 0 0,.int .i64 0,.slice none 0 0,.int .i64 0,.slice none 0 0,.int .i64 p,.bool false,.slice none 0 0,.slice none 0 0,.slice none 0 0,.slice none 0 0,.int .i64 0,.int .i64 0,.int .u64 0,.slice none 0 0,.pointer none,.int .i64 0] 122 (0,0))):DP w xb xb p none8 (.slice none 0 0) (.slice none 0 0) 0 0 0 none 0 0:=
 ⟨h,⟨Nat.le_refl _,Nat.le_of_lt (Array.getElem?_eq_some_iff.1 h).1⟩,OwnsOff.nil _ _ _ _,OwnsOff.nil _ _ _ _,fun g hg => by cases hg⟩
theorem DP.now {w:World} {n0 xb:Nat} {p:Int} {s:St8} {mv vv:Value} {op port addr:Int} {da:Option Addr} {dn dk:Nat} (h:DP w n0 xb p s mv vv op port addr da dn dk) (op' port' addr':Int) (da':Option Addr) (dn' dk':Nat):DP ((((w.setCell ⟨xb,12,none⟩ (.int .i64 op')).setCell ⟨xb,13,none⟩ (.int .i64 port')).setCell ⟨xb,14,none⟩ (.int .u64 addr')).setCell ⟨xb,15,none⟩ (.slice da' dn' dk')) n0 xb p s mv vv op' port' addr' da' dn' dk':=
 (((h.set 12 (.int .i64 op') (s':=s) (op':=op') (port':=port) (addr':=addr) (da':=da) (dn':=dn) (dk':=dk) rfl rfl rfl).set 13 (.int .i64 port') (s':=s) (op':=op') (port':=port') (addr':=addr) (da':=da) (dn':=dn) (dk':=dk) rfl rfl rfl).set 14 (.int .u64 addr') (s':=s) (op':=op') (port':=port') (addr':=addr') (da':=da) (dn':=dn) (dk':=dk) rfl rfl rfl).set 15 (.slice da' dn' dk') (s':=s) (op':=op') (port':=port') (addr':=addr') (da':=da') (dn':=dn') (dk':=dk') rfl rfl rfl
set_option maxHeartbeats 6400000 in
theorem standing20_b (A:Option Addr) (k:Nat) (l:List Pv) (p:Int) (w:World) (hr:VRow w w.heap.size A l) (hn:PNon l) (hl:l.length ≤ 1000):Calls Tryz.prog 21 #[.slice A l.length k,.int .i64 p] w (GivesSd w p (dSt l p)):=by
 obtain ⟨W1,HW1,hB1,hs1,x1⟩:=box_new w #[.int .i64 0,.bool false,.slice none 0 0,.slice none 0 0] 59
 obtain ⟨W2,HW2,hB2,hs2,x2⟩:=box_new W1 #[.int .i64 p,.bool false,.slice none 0 0,.slice none 0 0] 59
 obtain ⟨W3,HW3,hB3,hs3,x3⟩:=box_new W2 #[.slice none 0 0,.slice none 0 0,.int .i64 0,.slice none 0 0,.int .i64 0,.slice none 0 0,.int .i64 p,.bool false,.slice none 0 0,.slice none 0 0,.slice none 0 0,.slice none 0 0,.int .i64 0,.int .i64 0,.int .u64 0,.slice none 0 0,.pointer none,.int .i64 0] 122
 obtain ⟨rb,hrb⟩:∃ k,k = w.heap.size:=⟨_,rfl⟩
 obtain ⟨sb,hsb⟩:∃ k,k = W1.heap.size:=⟨_,rfl⟩
 obtain ⟨xb,hxb⟩:∃ k,k = W2.heap.size:=⟨_,rfl⟩
 have hS2:=x2 W2 (Below.refl _ _)
 rw [← hsb] at hS2
 have s0:W2.cell? ⟨sb,0,none⟩ = some (.int .i64 p):=blk_at hS2 (i:=0) rfl
 have s1:W2.cell? ⟨sb,1,none⟩ = some (.bool false):=blk_at hS2 (i:=1) rfl
 have s2:W2.cell? ⟨sb,2,none⟩ = some (.slice none 0 0):=blk_at hS2 (i:=2) rfl
 have s3:W2.cell? ⟨sb,3,none⟩ = some (.slice none 0 0):=blk_at hS2 (i:=3) rfl
 have hX3:=x3 W3 (Below.refl _ _)
 rw [← hxb] at hX3
 have HD0:=hid (std_zero hX3)
 have HR:=hid (hr.below (hB1.trans (hB2.mono hB1.size)))
 have HRB:=hid (x1 W2 hB2)
 rw [← hrb] at HRB
 have HB2:=hid (hB1.trans (hB2.mono hB1.size))
 have HB3:=hid hB3
 rw [← hxb] at HB3
 have HN:=hid hn
 have HO:=hid (show rb < xb ∧ w.heap.size ≤ rb ∧ w.heap.size ≤ xb from by omega)
 have E1:=hid hrb;have E2:=hid hsb;have E3:=hid hxb
 clear hr hn hB1 hB2 hB3 hs1 hs2 hs3 x1 x2 x3 hrb hsb hxb hS2 hX3
 go_enter Tryz.func21,Tryz.ntmps21
 go_wp2_with (first | (rw [← HW1.out];(try simp only [← E1.out])) | (rw [← HW2.out];(try simp only [← E2.out])) | (rw [← HW3.out];(try simp only [← E3.out])))
 go_loopw [7] (fun ix wr => ∃ i:Nat,i ≤ l.length ∧ ix = .int .i64 i ∧ (∃ mv vv op port addr da dn dk,DP wr xb xb p (dSt (l.take i) p) mv vv op port addr da dn dk) ∧ Below xb W2 wr) (fun ix _ => l.length - (intOf ix).toNat)
 case atStart => exact ⟨0,Nat.zero_le _,rfl,⟨_,_,_,_,_,_,_,_,HD0.out⟩,HB3.out⟩
 case round =>
  obtain ⟨i,hi,rfl,⟨mv,vv,op,port,addr,da,dn,dk,hd⟩,hbr⟩:=hrel
  have HD:=hid hd;have HB:=hid hbr
  by_cases hlt:i < l.length
  ·obtain ⟨b,o,e,rfl,hbl,he,-,hxc⟩:=HR.out.at_ hlt
   have hbe:=(hxc wr (hbr.mono (by have:=HO.out;omega))).1
   have k24:wr.cell? ⟨b,o + i * 26 + 24,none⟩ = some (.int .i64 e.rang):=hbe.rang
   have k25:wr.cell? ⟨b,o + i * 26 + 25,none⟩ = some (.int .i64 e.took):=hbe.took
   have k0:wr.cell? ⟨b,o + i * 26,none⟩ = some (.int .i64 e.x.part):=hbe.x.part
   have k1:wr.cell? ⟨b,o + i * 26 + 1,none⟩ = some (.int .i64 e.x.op):=hbe.x.op
   have k2:wr.cell? ⟨b,o + i * 26 + 2,none⟩ = some (.int .i64 e.x.port):=hbe.x.port
   have k3:wr.cell? ⟨b,o + i * 26 + 3,none⟩ = some (.int .u64 e.x.addr):=hbe.x.addr
   have k4:wr.cell? ⟨b,o + i * 26 + 4,none⟩ = some (.slice e.x.ra e.x.rd.length e.x.rc):=hbe.x.rd
   have hi2:(i:Int) < (l.length:Int):=by omega
   have HLT:=hid hlt;have HE:=hid he;have HXC:=hid hxc;have HBL:=hid hbl
   have hnn:=HN.out i e he
   clear hd hbr hlt he hxc hbe hbl
   by_cases h1:e.rang > 0
   ·have HS:=hid (dSt_skip (p:=p) HE.out (.inl h1))
    clear hnn
    go_wp2
    go_roundw
    case rel => exact ⟨i + 1,by have:=HLT.out;omega,by go_num,⟨mv,vv,op,port,addr,da,dn,dk,by rw [HS.out];exact HD.out⟩,HB.out⟩
    case measure => simp [intOf];have:=HLT.out;omega
   by_cases h2:e.took > 0
   ·have HS:=hid (dSt_skip (p:=p) HE.out (.inr (.inl h2)))
    clear hnn
    go_wp2
    go_roundw
    case rel => exact ⟨i + 1,by have:=HLT.out;omega,by go_num,⟨mv,vv,op,port,addr,da,dn,dk,by rw [HS.out];exact HD.out⟩,HB.out⟩
    case measure => simp [intOf];have:=HLT.out;omega
   by_cases h3:e.x.part = p
   ·have HS:=hid (dSt_do HE.out hnn h1 h2 h3)
    have q3:(e.x.part != p) = false:=by simp [h3]
    obtain ⟨V,hV⟩:∃ u,Hid (u = (((wr.setCell ⟨xb,12,none⟩ (.int .i64 e.x.op)).setCell ⟨xb,13,none⟩ (.int .i64 e.x.port)).setCell ⟨xb,14,none⟩ (.int .u64 e.x.addr)).setCell ⟨xb,15,none⟩ (.slice e.x.ra e.x.rd.length e.x.rc)):=⟨_,rfl⟩
    have HDV:Hid (DP V xb xb p (dSt (l.take i) p) mv vv e.x.op e.x.port e.x.addr e.x.ra e.x.rd.length e.x.rc):=hid (by rw [hV.out];exact HD.out.now _ _ _ _ _ _)
    have hOV:Only (fun k => k = xb) wr V:=by rw [hV.out];exact (((Only.setCell wr ⟨xb,12,none⟩ _).trans (Only.setCell _ ⟨xb,13,none⟩ _)).trans (Only.setCell _ ⟨xb,14,none⟩ _)).trans (Only.setCell _ ⟨xb,15,none⟩ _)
    have hxl:xb < wr.heap.size:=(Array.getElem?_eq_some_iff.1 HD.out.blk).1
    have HBV:=hid (HB.out.trans (hOV.below (by omega) (fun k e => by omega)))
    have hbe:=(HXC.out V (HBV.out.mono (by have:=HO.out;omega))).1
    have c12:wr.cell? ⟨xb,12,none⟩ = some (.int .i64 op):=blk_at HD.out.blk (i:=12) rfl
    have c13:wr.cell? ⟨xb,13,none⟩ = some (.int .i64 port):=blk_at HD.out.blk (i:=13) rfl
    have c14:wr.cell? ⟨xb,14,none⟩ = some (.int .u64 addr):=blk_at HD.out.blk (i:=14) rfl
    have c15:wr.cell? ⟨xb,15,none⟩ = some (.slice da dn dk):=blk_at HD.out.blk (i:=15) rfl
    have f12:wr.frozen? ⟨xb,12,none⟩ = false:=by simp [World.frozen?,HD.out.blk]
    have f13:wr.frozen? ⟨xb,13,none⟩ = false:=by simp [World.frozen?,HD.out.blk]
    have f14:wr.frozen? ⟨xb,14,none⟩ = false:=by simp [World.frozen?,HD.out.blk]
    have f15:wr.frozen? ⟨xb,15,none⟩ = false:=by simp [World.frozen?,HD.out.blk]
    have g20:V.cell? ⟨b,o + i * 26 + 20,none⟩ = some (.int .i64 e.code):=hbe.code
    have g21:V.cell? ⟨b,o + i * 26 + 21,none⟩ = some (.slice e.aa e.an e.ac):=hbe.ans
    have g22:V.cell? ⟨b,o + i * 26 + 22,none⟩ = some (.bool e.valid):=hbe.val
    have g23:V.cell? ⟨b,o + i * 26 + 23,none⟩ = some (.int .i64 e.count):=hbe.cnt
    have hlen:=dSt_len p l i
    have HC:=hid (answered_b HDV.out e.code e.aa e.an e.ac e.valid e.count (by omega))
    clear hOV hxl hbe hlen hnn
    go_wp2_with (rw [← hV.out])
    refine HC.out.mono ?_
    rintro e5 w5 ⟨rfl,mv',vv',hd5,hb5⟩
    have HD5:=hid hd5;have HB5:=hid (HBV.out.trans hb5)
    clear hd5 hb5 c12 c13 c14 c15 f12 f13 f14 f15 k0 k1 k2 k3 k4 k24 k25 g20 g21 g22 g23
    go_wp2_with fail
    go_roundw
    case rel => exact ⟨i + 1,by have:=HLT.out;omega,by go_num,⟨mv',vv',e.x.op,e.x.port,e.x.addr,e.x.ra,e.x.rd.length,e.x.rc,by rw [HS.out];exact HD5.out⟩,HB5.out⟩
    case measure => simp [intOf];have:=HLT.out;omega
   ·have HS:=hid (dSt_skip HE.out (.inr (.inr h3)))
    have q3:(e.x.part != p) = true:=by simp [h3]
    clear hnn
    go_wp2
    go_roundw
    case rel => exact ⟨i + 1,by have:=HLT.out;omega,by go_num,⟨mv,vv,op,port,addr,da,dn,dk,by rw [HS.out];exact HD.out⟩,HB.out⟩
    case measure => simp [intOf];have:=HLT.out;omega
  ·have hil:i = l.length:=by omega
   have hi2:¬ ((i:Int) < (l.length:Int)):=by omega
   rw [hil,List.take_length] at HD
   obtain ⟨ma,mk,hmv,-,-⟩:=HD.out.made.slice
   obtain ⟨va,vk,hvv,-,-⟩:=HD.out.valid.slice
   subst hmv hvv
   have c6:wr.cell? ⟨xb,6,none⟩ = some (.int .i64 p):=blk_at HD.out.blk (i:=6) rfl
   have c7:wr.cell? ⟨xb,7,none⟩ = some (.bool (dSt l p).sn):=blk_at HD.out.blk (i:=7) rfl
   have c8:wr.cell? ⟨xb,8,none⟩ = some (.slice ma (dSt l p).made.length mk):=blk_at HD.out.blk (i:=8) rfl
   have c9:wr.cell? ⟨xb,9,none⟩ = some (.slice va (dSt l p).valid.length vk):=blk_at HD.out.blk (i:=9) rfl
   have hR0:=(HB.out.block rb (by have:=HO.out;omega)).trans HRB.out
   have hth:=there_blk (W:=wr) hR0 (n:=(#[.int .i64 p,.bool (dSt l p).sn,.slice ma (dSt l p).made.length mk,.slice va (dSt l p).valid.length vk]:Array Value).size) rfl
   have hsz4:(Tryz.prog.info? 59).map (·.size) = some (#[.int .i64 p,.bool (dSt l p).sn,.slice ma (dSt l p).made.length mk,.slice va (dSt l p).valid.length vk]:Array Value).size:=stg_size
   have hm0:=own_row8 HD.out.made
   have hv0:=own_row8 HD.out.valid
   have hm1:IntRowK .i64 (wr.setCells rb 0 [.int .i64 p,.bool (dSt l p).sn,.slice ma (dSt l p).made.length mk,.slice va (dSt l p).valid.length vk]) (wr.setCells rb 0 [.int .i64 p,.bool (dSt l p).sn,.slice ma (dSt l p).made.length mk,.slice va (dSt l p).valid.length vk]).heap.size ma (dSt l p).made:=row_put4 hm0 (fun hp a ha => (HD.out.made.lt a.block (by rw [ha];rfl)).1) HO.out.1
   have hv1:IntRowK .i64 (wr.setCells rb 0 [.int .i64 p,.bool (dSt l p).sn,.slice ma (dSt l p).made.length mk,.slice va (dSt l p).valid.length vk]) (wr.setCells rb 0 [.int .i64 p,.bool (dSt l p).sn,.slice ma (dSt l p).made.length mk,.slice va (dSt l p).valid.length vk]).heap.size va (dSt l p).valid:=row_put4 hv0 (fun hp a ha => (HD.out.valid.lt a.block (by rw [ha];rfl)).1) HO.out.1
   have HM1:=hid hm1;have HV1:=hid hv1
   have HBE:=hid (below_put4 (HB2.out.trans (HB.out.mono (by have:=HO.out;omega))) HO.out.2.1 [.int .i64 p,.bool (dSt l p).sn,.slice ma (dSt l p).made.length mk,.slice va (dSt l p).valid.length vk])
   clear hlt hil hi hm0 hv0 hm1 hv1 hd hbr hR0
   go_wp2_with (with_reducible refine wpList_store_mid (by kernel_rfl) _ _ _ rfl rb 0 #[.int .i64 p,.bool (dSt l p).sn,.slice ma (dSt l p).made.length mk,.slice va (dSt l p).valid.length vk] (by kernel_rfl) (by kernel_rfl) hth hsz4 (by kernel_rfl) ?_)
   have hrg:=World.rangeAt_setCells_same wr rb 0 (#[.int .i64 p,.bool (dSt l p).sn,.slice ma (dSt l p).made.length mk,.slice va (dSt l p).valid.length vk]:Array Value).toList (by simpa using hth)
   (try simp only [Exit.inBlock,Exit.then])
   refine bodyPost_ret (results_cell_mid rfl _ _ rb (#[.int .i64 p,.bool (dSt l p).sn,.slice ma (dSt l p).made.length mk,.slice va (dSt l p).valid.length vk]:Array Value).toList _ rfl hrg Tryz.underlying59 rfl stg_size) rfl ?_
   exact ⟨ma,mk,va,vk,rfl,HM1.out,HV1.out,HBE.out⟩
end Go.Proofs.YtheeiklgblcjfaaGreatDoor
end
