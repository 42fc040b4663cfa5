/- Texts of the ring, joined, what is used of them. No condition but those in the statements. -/
import Derived.BigQuiet
import Derived.BigRegion
import Derived.Deep.MidRow
import Derived.Deep.RegionHeld3
import Derived.Deep.Slices
import Derived.Deep.Upon
import Derived.IntWalk
import Derived.Lib.SmallJoins
import Derived.Shelf.Abstract
import Derived.Test.YtheeiklgblcjfaaGreatDoorQgd
import Derived.Test.YtheeiklgblcjfaaGreatDoorQgt
import Derived.Test.YtheeiklgblcjfaaGreatDoorQgu
import Derived.Test.YtheeiklgblcjfaaGreatDoorQgw
set_option linter.unusedVariables false
set_option linter.unusedSimpArgs false
section
namespace Go.Proofs.YtheeiklgblcjfaaGreatDoor
open Go.Lib (hid)
open Go.RowKit Go.Sort Go.Deep Go.ChangeShapes Go.WideShapes Go.Joins
set_option maxRecDepth 100000
/-- What is done to a model. -/
structure AV where
 kind:Int
 x:CV
 deriving Inhabited
def aCells (a:AV):List Value:=.int .i64 a.kind :: cCells a.x
/-- A slice's row of acts,at a block below number B. -/
def ARow (w:World) (B:Nat) (A:Option Addr) (l:List AV):Prop:=
 0 < l.length → ∃ b o,A = some ⟨b,o,none⟩ ∧ b < B ∧ ∀ (i:Nat) (a:AV),l[i]? = some a → w.cell? ⟨b,o + i * 21,none⟩ = some (.int .i64 a.kind) ∧ CAt w b (o + i * 21 + 1) a.x ∧ CRows w B a.x ∧ CWf a.x
theorem ARow.below {w w':World} {B:Nat} {A:Option Addr} {l:List AV} (h:ARow w B A l) (hb:Below B w w'):ARow w' B A l:=fun hn => by
 obtain ⟨b,o,hA,hlt,hc⟩:=h hn
 exact ⟨b,o,hA,hlt,fun i a ha => ⟨(hb.cell (p:=⟨b,o + i * 21,none⟩) hlt).trans (hc i a ha).1,(hc i a ha).2.1.later hb hlt,(hc i a ha).2.2.1.below hb,(hc i a ha).2.2.2⟩⟩
section
variable {H:Type} {enc:TypeId × Value → H} {w:World}
theorem open_act {n:Nat} {cs:List Value} {x:DataW H × List MemPlace} (h:DataW.trod enc Tryz.prog w 0 (fun _ => true) true n 46 cs = some x):∃ a:AV,cs = aCells a ∧ CWf a.x ∧ CRows w w.heap.size a.x:=by
 obtain ⟨xs,m,_,_,hcl,hxl,hf⟩:=DataW.trod_struct Tryz.underlying46 h
 have hcl:cs.length = 21:=hcl.trans (by kernel_rfl)
 match cs,hcl with
 | k :: r,hcl =>
  simp only [List.size_toArray,List.length_cons,List.length_nil] at hxl
  have h0:=hf 0 _ rfl
  have h1:=hf 1 _ rfl
  rw [List.getElem?_eq_getElem (by omega)] at h0 h1
  have k1:Tryz.prog.cellsOf 3 = 1:=by kernel_rfl
  have kc:Tryz.prog.cellsOf 44 = 20:=by kernel_rfl
  have hr:r.length = 20:=by simpa using hcl
  have htk:r.take 20 = r:=List.take_of_length_le (by omega)
  simp [k1,kc,htk] at h0 h1
  obtain ⟨z,e0,_,w0⟩:=DataW.trod_int Tryz.underlying3 h0
  obtain ⟨v,e1,hw,hv⟩:=open_call h1
  simp at e0
  subst e0 e1
  exact ⟨⟨z,v⟩,rfl,hw,hv⟩
/-- A []Act that came in,opened. -/
theorem acts_arg8 {a:Option Addr} {len cap:Nat} {d:DataW H} {p:List MemPlace} (h:DataW.Trod enc Tryz.prog w 0 (fun _ => true) true 30 (.slice a len cap) d p) :
  ∃ l:List AV,len = l.length ∧ len ≤ cap ∧ cap ≤ maxLen ∧ (a = none → l = []) ∧ ARow w w.heap.size a l:=by
 obtain ⟨fuel,h⟩:=h
 simp only [Value.cells] at h
 rcases open_slice Tryz.underlying30 h with ⟨hcs,_⟩ | ⟨a',len',cap',m,n',D,Pl,hcs,_,hl,hm,hmm,_,hx⟩
 ·simp at hcs
  obtain ⟨rfl,rfl,rfl⟩:=hcs
  exact ⟨[],rfl,Nat.le_refl _,by unfold maxLen;omega,fun _ => rfl,fun hn => absurd hn (by simp)⟩
 ·simp at hcs
  obtain ⟨rfl,rfl,rfl⟩:=hcs
  have hlm:len ≤ m:=by rw [hmm];split <;> omega
  have hC:Tryz.prog.cellsOf 46 = 21:=by kernel_rfl
  obtain ⟨F,hF⟩:=choose_lt (n:=len) (α:=AV) (p:=fun i v => w.cells? 0 (a'.add (i * 21)) 21 = some (aCells v) ∧ CWf v.x ∧ CRows w w.heap.size v.x) (fun i hi => by
   obtain ⟨cs',h1,h2⟩:=hx i (by omega)
   rw [hC] at h1
   obtain ⟨v,rfl,hw,hr⟩:=open_act h2
   exact ⟨v,h1,hw,hr⟩)
  refine ⟨(List.range len).map F,by simp,hl,hm,(fun h => by cases h),fun hq => ?_⟩
  simp at hq
  obtain ⟨b,off,spot⟩:=a'
  obtain ⟨_,hlen0,hc0⟩:=World.cells?_some (hF 0 hq).1
  have hc:=hc0 0 (by omega)
  have hc:w.cell? _ = some (Value.int .i64 (F 0).kind):=hc
  have hspot:spot = none:=by simpa [Addr.add] using World.cell?_spot hc
  subst hspot
  have hblk:b < w.heap.size:=by
   have:=World.block_lt_of_cell? w _ hc
   simpa [Addr.add] using this
  refine ⟨b,off,rfl,hblk,fun i v hv => ?_⟩
  have hi:i < len:=by have:=(List.getElem?_eq_some_iff.1 hv).1;simpa using this
  simp [hi] at hv
  subst hv
  obtain ⟨h1,h2,h3⟩:=hF i hi
  obtain ⟨_,hlen1,hc1⟩:=World.cells?_some h1
  refine ⟨?_,fun j x hx => ?_,h3,h2⟩
  ·have:=hc1 0 (by omega)
   have:w.cell? _ = some (Value.int .i64 (F i).kind):=this
   rw [add_add,Addr.add_lit] at this
   exact this
  ·have hj:j < 20:=by have:=(List.getElem?_eq_some_iff.1 hx).1;rw [cCells_len] at this;exact this
   have:=hc1 (j + 1) (by omega)
   have e:(aCells (F i))[j + 1]? = some x:=by unfold aCells;simpa using hx
   rw [e,add_add,Addr.add_lit] at this
   rw [show off + i * 21 + 1 + j = off + (i * 21 + (j + 1)) by omega]
   exact this
end
end Go.Proofs.YtheeiklgblcjfaaGreatDoor
end
section
namespace Go.Proofs.YtheeiklgblcjfaaGreatDoor
open Go.Lib (hid)
open Go.RowKit Go.Sort
set_option maxRecDepth 100000
/-- An act's cells. -/
@[irreducible] def aC (a:AV):List Value:=.int .i64 a.kind :: cCells a.x
theorem aC_len (a:AV):(aC a).length = 21:=by unfold aC;rw [List.length_cons,cCells_len]
theorem aC_size (a:AV):(aC a).toArray.size = 21:=by rw [List.size_toArray,aC_len]
theorem aC_info (a:AV):(Tryz.prog.info? 46).map (·.size) = some (aC a).length:=by rw [aC_len];kernel_rfl
theorem aC_infoA (a:AV):(Tryz.prog.info? 46).map (·.size) = some (aC a).toArray.size:=by rw [aC_size];kernel_rfl
theorem aC_one (a:AV):(aC a).toArray.all (·.oneCell') = true:=by
 have h:=cCells_one a.x
 simp only [List.all_toArray] at h ⊢
 unfold aC
 rw [List.all_cons,h];rfl
/-- An act lies in block b from o on. -/
def ActAt (w:World) (b o:Nat) (a:AV):Prop:=w.rangeAt b o (aC a)
theorem ActAt.mk {w:World} {b o:Nat} {a:AV} (h0:w.cell? ⟨b,o,none⟩ = some (.int .i64 a.kind)) (h1:CAt w b (o + 1) a.x):ActAt w b o a:=fun j x hx => by
 unfold aC at hx
 cases j with
 | zero => simp at hx;subst hx;exact h0
 | succ j =>
  rw [List.getElem?_cons_succ] at hx
  have:=h1 j x hx
  rwa [show o + 1 + j = o + (j + 1) by omega] at this
theorem ActAt.kind {w:World} {b o:Nat} {a:AV} (h:ActAt w b o a):w.cell? ⟨b,o,none⟩ = some (.int .i64 a.kind):=by
 have:=h 0 (.int .i64 a.kind) (by unfold aC;rfl)
 exact this
theorem ActAt.call {w:World} {b o:Nat} {a:AV} (h:ActAt w b o a):CAt w b (o + 1) a.x:=fun j x hx => by
 have:=h (j + 1) x (by unfold aC;rw [List.getElem?_cons_succ];exact hx)
 rwa [show o + (j + 1) = o + 1 + j by omega] at this
theorem ActAt.load {w:World} {b o:Nat} {v:AV} (h:ActAt w b o v):(Instr.loadAt 46 (.pointer (some ⟨b,o,none⟩))).run Tryz.prog w = .ok (.agg (aC v).toArray) w:=
 run_loadAt_mid w b o 46 (aC v) _ h Tryz.underlying46 rfl (aC_info v)
theorem ActAt.later {w w':World} {B b o:Nat} {v:AV} (h:ActAt w b o v) (hb:Below B w w') (hlt:b < B):ActAt w' b o v:=fun j x hx => (hb.cell (p:=⟨b,o + j,none⟩) hlt).trans (h j x hx)
theorem ActAt.lt {w:World} {b o:Nat} {v:AV} (h:ActAt w b o v):b < w.heap.size:=World.block_lt_of_cell? w _ h.kind
section
variable {ops:Array Oper} {rest:List Oper} {o:Oper} {a:Act} {w:World} {Q:Exit → Act → World → Prop}
theorem wpList_loadA (hwt:Region.wanted o (yielded ops a.tmps) = true) (x:Operand) (ho:o.op = .load 46 x) (b k:Nat) (v:AV) (hx:a.eval x = .pointer (some ⟨b,k,none⟩)) (hc:ActAt w b k v)
  (h:wpList Tryz.prog ops Q rest (a.put o.dst (.agg (aC v).toArray)) w):wpList Tryz.prog ops Q (o :: rest) a w:=by
 refine wpList_step fun K hK => ?_
 rw [if_pos hwt]
 exact wp_load_mid 46 x ho b k hx (aC v) _ hc Tryz.underlying46 rfl (aC_info v) (hK _ _ h)
end
/-- A variable that holds an act: made,then stored into. -/
theorem varA (w:World) (v:AV):∃ W1 W2,Hid (W1 = w.alloc (.cells #[.int .i64 0,.int .i64 0,.int .i64 0,.int .i64 0,.int .u64 0,.slice none 0 0,.int .i64 0,.slice none 0 0,.bool false,.int .i64 0,.bool false,.int .i64 0,.int .i64 0,.int .i64 0,.int .i64 0,.int .i64 0,.int .i64 0,.int .i64 0,.int .i64 0,.int .i64 0,.int .i64 0] 46)) ∧ Hid (W2 = W1.setCells w.heap.size 0 (aC v).toArray.toList) ∧ W1.there w.heap.size 0 (aC v).toArray.size ∧ Below w.heap.size w W2 ∧ ActAt W2 w.heap.size 0 v:=by
 have hth:(w.alloc (.cells #[.int .i64 0,.int .i64 0,.int .i64 0,.int .i64 0,.int .u64 0,.slice none 0 0,.int .i64 0,.slice none 0 0,.bool false,.int .i64 0,.bool false,.int .i64 0,.int .i64 0,.int .i64 0,.int .i64 0,.int .i64 0,.int .i64 0,.int .i64 0,.int .i64 0,.int .i64 0,.int .i64 0] 46)).there w.heap.size 0 (aC v).toArray.size:=there_atC (heap_alloc_new w _) (by rw [aC_size];rfl)
 refine ⟨_,_,rfl,rfl,hth,below_setCellsC _ _ _ ((Below.refl _ _).alloc (Nat.le_refl _) _) (Nat.le_refl _),?_⟩
 exact World.rangeAt_setCells_same _ _ _ _ (by simpa using hth)
theorem ARow.at_ {w:World} {B:Nat} {A:Option Addr} {l:List AV} (h:ARow w B A l) {i:Nat} (hi:i < l.length):∃ (b o:Nat) (a:AV),A = some ⟨b,o,none⟩ ∧ b < B ∧ l[i]? = some a ∧ CWf a.x ∧ ∀ w',Below B w w' → ActAt w' b (o + i * 21) a ∧ CRows w' B a.x:=by
 obtain ⟨b,o,hA,hlt,hc⟩:=h (by omega)
 obtain ⟨h1,h2,h3,h4⟩:=hc i _ (List.getElem?_eq_getElem hi)
 exact ⟨b,o,_,hA,hlt,List.getElem?_eq_getElem hi,h4,fun w' hb => ⟨(ActAt.mk h1 h2).later hb hlt,h3.below hb⟩⟩
theorem ARow.later {w w':World} {A:Option Addr} {l:List AV} (h:ARow w w.heap.size A l) (hb:Below w.heap.size w w'):ARow w' w'.heap.size A l:=fun hn => by
 obtain ⟨b,o,hA,hlt,hc⟩:=h hn
 exact ⟨b,o,hA,Nat.lt_of_lt_of_le hlt hb.size,fun i a ha => ⟨(hb.cell (p:=⟨b,o + i * 21,none⟩) hlt).trans (hc i a ha).1,(hc i a ha).2.1.later hb hlt,(((hc i a ha).2.2.1.below hb).more hb.size),(hc i a ha).2.2.2⟩⟩
/-- An act that is not too much. -/
structure FineA (a:AV):Prop where
 rd:a.x.rd.length ≤ 40
 st:-1 ≤ a.x.stamp ∧ a.x.stamp ≤ 1099511627776
 t1:-1 ≤ a.x.t1 ∧ a.x.t1 ≤ 1099511627776
def GreatGoes (c:Cfg) (l:List AV) (w:World) (e:Ending) (w':World):Prop:=(∃ b,e = .returned (.bool b) ∧ (b = false → cfgLe 100 c = true ∧ acceptsB c = true ∧ l.length ≤ 60 ∧ ∀ (j:Nat) (a:AV),l[j]? = some a → FineA a)) ∧ Below w.heap.size w w'
set_option maxHeartbeats 6400000 in
theorem great18_b (c:Cfg) (x:CfgAt) (l:List AV) (A:Option Addr) (k:Nat) (w:World) (hx:CfgIn w w.heap.size c x) (wx:CfgWf c) (hr:ARow w w.heap.size A l):Calls Tryz.prog 9 #[.agg (cfgCells c x),.slice A l.length k] w (GreatGoes c l w):=by
 obtain ⟨W,HW,hB0,hWs,bx⟩:=one_cbox w c x 29
 have HG:∀ b,(!cfgLe 100 c) = b → Calls Tryz.prog 24 #[.agg (cfgCells c x)] W fun e w' => e = .returned (.bool b) ∧ Below W.heap.size W w':=fun b hb => great_is c x b W hb
 have HRA:∀ q V,acceptsB c = q → CfgFew c → Below W.heap.size W V → Calls Tryz.prog 25 #[.agg (cfgCells c x)] V fun e w' => e = .returned (.bool q) ∧ Below V.heap.size V w':=fun q V hq hl hb => racc_b c x q V ((hx.later hB0).later hb) wx hl hq
 obtain ⟨pa,pc,ca,cc,aa,ac,ba,bc⟩:=x
 obtain ⟨c0,c1,c2,c3,c4,c5⟩:=bx _ (Below.refl _ _)
 have HB0:=hid hB0;have HBX:=hid bx;have HR:=hid hr;have HRA:=hid HRA;have HG:=hid HG
 simp only [cfgCells] at HW HG HRA ⊢
 clear hx hB0 hWs bx wx hr
 go_enter Tryz.func9,Tryz.ntmps9
 go_wp2_with (rw [← HW.out])
 cases hg:cfgLe 100 c with
 | false =>
  refine (HG.out true (by rw [hg];rfl)).mono ?_
  rintro e w3 ⟨rfl,hb3⟩
  have HBB:=hid (HB0.out.trans (hb3.mono HB0.out.size))
  clear hb3 c0 c1 c2 c3 c4 c5
  go_wp2
  go_ret
  exact ⟨⟨true,rfl,fun h => by cases h⟩,HBB.out⟩
 | true =>
  refine (HG.out false (by rw [hg];rfl)).mono ?_
  rintro e w3 ⟨rfl,hb3⟩
  have HB3:=hid hb3
  clear c0 c1 c2 c3 c4 c5
  obtain ⟨c0,c1,c2,c3,c4,c5⟩:=HBX.out w3 hb3
  clear hb3
  go_wp2_with fail
  clear c0 c1 c2 c3 c4 c5
  cases hac:acceptsB c with
  | false =>
   refine (HRA.out false w3 hac (cfgLe_few hg (by omega)) HB3.out).mono ?_
   rintro e w4 ⟨rfl,hb4⟩
   have HBB:=hid (HB0.out.trans ((HB3.out.trans (hb4.mono HB3.out.size)).mono HB0.out.size))
   clear hb4
   go_wp2
   go_ret
   exact ⟨⟨true,rfl,fun h => by cases h⟩,HBB.out⟩
  | true =>
   refine (HRA.out true w3 hac (cfgLe_few hg (by omega)) HB3.out).mono ?_
   rintro e w4 ⟨rfl,hb4⟩
   have HB4:=hid (HB0.out.trans ((HB3.out.trans (hb4.mono HB3.out.size)).mono HB0.out.size))
   clear hb4
   by_cases hn:(l.length:Int) > 60
   ·go_wp2
    go_ret
    exact ⟨⟨true,rfl,fun h => by cases h⟩,HB4.out⟩
   ·have HN:=hid hn
    go_wp2_with fail
    go_loopw [21] (fun ix wr => ∃ i:Nat,i ≤ l.length ∧ ix = .int .i64 i ∧ (∀ (j:Nat) (a:AV),j < i → l[j]? = some a → FineA a) ∧ Below w.heap.size w wr) (fun ix _ => l.length - (intOf ix).toNat)
    case atStart => exact ⟨0,Nat.zero_le _,rfl,fun j a h => absurd h (by omega),HB4.out⟩
    case round =>
     obtain ⟨i,hi,rfl,hfine,hb⟩:=hrel
     have HBB:=hid hb;have HFI:=hid hfine
     clear hfine
     by_cases hlt:i < l.length
     ·have s1:(i:Int) < (l.length:Int):=by omega
      obtain ⟨b,o,a,eA,hlb,ha,-,hc⟩:=HR.out.at_ hlt
      subst eA
      have HXR:=hid (hc wr hb).1
      obtain ⟨X1,X2,HX1,HX2,hth,hxb2,hxv⟩:=varA wr a
      have HXB:=hid hxb2;have HXV:=hid hxv;have HTH:=hid hth
      clear hxb2 hxv hth
      have y5:X2.cell? ⟨wr.heap.size,5,none⟩ = some (.slice a.x.ra a.x.rd.length a.x.rc):=HXV.out.call.rd
      have y14:X2.cell? ⟨wr.heap.size,14,none⟩ = some (.int .i64 a.x.t1):=HXV.out.call.t1
      have y19:X2.cell? ⟨wr.heap.size,19,none⟩ = some (.int .i64 a.x.stamp):=HXV.out.call.stamp
      have HA:=hid ha;have HLT:=hid hlt
      have HBA:=hid (hb.trans (HXB.out.mono hb.size))
      clear hc ha hb hlt hi hn hlb
      by_cases h0c:(a.x.rd.length:Int) > 40
      ·go_wp2_with (first | (rw [← HX1.out]) | (with_reducible refine wpList_store_mid (by kernel_rfl) _ _ _ rfl wr.heap.size 0 (aC a).toArray (by kernel_rfl) (by kernel_rfl) HTH.out (aC_infoA a) (aC_one a) ?_) | (rw [← HX2.out]) | (with_reducible refine wpList_loadA (by with_unfolding_all rfl) _ rfl _ _ _ (by with_unfolding_all rfl) HXR.out ?_))
       go_ret
       exact ⟨⟨true,rfl,fun h => by cases h⟩,HBA.out⟩
      by_cases h1c:a.x.stamp < -1
      ·go_wp2_with (first | (rw [← HX1.out]) | (with_reducible refine wpList_store_mid (by kernel_rfl) _ _ _ rfl wr.heap.size 0 (aC a).toArray (by kernel_rfl) (by kernel_rfl) HTH.out (aC_infoA a) (aC_one a) ?_) | (rw [← HX2.out]) | (with_reducible refine wpList_loadA (by with_unfolding_all rfl) _ rfl _ _ _ (by with_unfolding_all rfl) HXR.out ?_))
       go_ret
       exact ⟨⟨true,rfl,fun h => by cases h⟩,HBA.out⟩
      by_cases h2c:a.x.stamp > 1099511627776
      ·go_wp2_with (first | (rw [← HX1.out]) | (with_reducible refine wpList_store_mid (by kernel_rfl) _ _ _ rfl wr.heap.size 0 (aC a).toArray (by kernel_rfl) (by kernel_rfl) HTH.out (aC_infoA a) (aC_one a) ?_) | (rw [← HX2.out]) | (with_reducible refine wpList_loadA (by with_unfolding_all rfl) _ rfl _ _ _ (by with_unfolding_all rfl) HXR.out ?_))
       go_ret
       exact ⟨⟨true,rfl,fun h => by cases h⟩,HBA.out⟩
      by_cases h3c:a.x.t1 < -1
      ·go_wp2_with (first | (rw [← HX1.out]) | (with_reducible refine wpList_store_mid (by kernel_rfl) _ _ _ rfl wr.heap.size 0 (aC a).toArray (by kernel_rfl) (by kernel_rfl) HTH.out (aC_infoA a) (aC_one a) ?_) | (rw [← HX2.out]) | (with_reducible refine wpList_loadA (by with_unfolding_all rfl) _ rfl _ _ _ (by with_unfolding_all rfl) HXR.out ?_))
       go_ret
       exact ⟨⟨true,rfl,fun h => by cases h⟩,HBA.out⟩
      by_cases h4c:a.x.t1 > 1099511627776
      ·go_wp2_with (first | (rw [← HX1.out]) | (with_reducible refine wpList_store_mid (by kernel_rfl) _ _ _ rfl wr.heap.size 0 (aC a).toArray (by kernel_rfl) (by kernel_rfl) HTH.out (aC_infoA a) (aC_one a) ?_) | (rw [← HX2.out]) | (with_reducible refine wpList_loadA (by with_unfolding_all rfl) _ rfl _ _ _ (by with_unfolding_all rfl) HXR.out ?_))
       go_ret
       exact ⟨⟨true,rfl,fun h => by cases h⟩,HBA.out⟩
      have HFA:Hid (FineA a):=hid ⟨by omega,by omega,by omega⟩
      skip
      go_wp2_with (first | (rw [← HX1.out]) | (with_reducible refine wpList_store_mid (by kernel_rfl) _ _ _ rfl wr.heap.size 0 (aC a).toArray (by kernel_rfl) (by kernel_rfl) HTH.out (aC_infoA a) (aC_one a) ?_) | (rw [← HX2.out]) | (with_reducible refine wpList_loadA (by with_unfolding_all rfl) _ rfl _ _ _ (by with_unfolding_all rfl) HXR.out ?_))
      go_roundw
      case rel => exact ⟨i + 1,by have:=HLT.out;omega,by go_num,fun j a' hj ha' => by
       by_cases e:j = i
       ·rw [e,HA.out] at ha';cases ha';exact HFA.out
       ·exact HFI.out j a' (by omega) ha',HBA.out⟩
      case measure => have:=HLT.out;simp [intOf];omega
     ·have HNL:=hid hlt
      have s1:¬ ((i:Int) < (l.length:Int)):=by omega
      clear hb hlt hn
      go_wp2
      go_ret
      exact ⟨⟨false,rfl,fun _ => ⟨hg,hac,by have:=HN.out;omega,fun j a hj => HFI.out j a (by have:=(List.getElem?_eq_some_iff.1 hj).1;have:=HNL.out;omega) hj⟩⟩,HBB.out⟩
end Go.Proofs.YtheeiklgblcjfaaGreatDoor
end
section
namespace Go.Proofs.YtheeiklgblcjfaaGreatDoor
open Go.Lib (hid)
open Go.RowKit Go.Sort
set_option maxRecDepth 100000
set_option maxHeartbeats 3200000
theorem sameAns_eq (cd:Int) (vl:Bool) (ct:Int) (ds:List Int) (A A':Option Addr) (c c':Nat) (w:World) (h1:IntRowK .u32 w w.heap.size A ds) (h2:IntRowK .u32 w w.heap.size A' ds) (hl:ds.length ≤ 1000000) :
  Calls Tryz.prog 13 #[.agg #[.int .i64 cd,.slice A ds.length c,.bool vl,.int .i64 ct],.agg #[.int .i64 cd,.slice A' ds.length c',.bool vl,.int .i64 ct]] w (fun e w' => e = .returned (.bool true) ∧ Below w.heap.size w w'):=by
 obtain ⟨W,HW⟩:∃ u,Hid (u = (w.alloc (.cells #[.int .i64 cd,.slice A ds.length c,.bool vl,.int .i64 ct] 42)).alloc (.cells #[.int .i64 cd,.slice A' ds.length c',.bool vl,.int .i64 ct] 42)):=⟨_,rfl⟩
 have hB:Below w.heap.size w W:=by rw [HW.out];exact ((Below.refl _ _).alloc (Nat.le_refl _) _).alloc (by simp) _
 have z2:W.heap[w.heap.size]? = some (.cells #[.int .i64 cd,.slice A ds.length c,.bool vl,.int .i64 ct] 42 (0,0)):=by rw [HW.out,Below.heap_alloc _ _ _ (by simp)];exact heap_alloc_new w _
 have z3:W.heap[w.heap.size + 1]? = some (.cells #[.int .i64 cd,.slice A' ds.length c',.bool vl,.int .i64 ct] 42 (0,0)):=by rw [HW.out];exact heap_new_at10 _ _ (by simp)
 have HZ2:=hid z2;have HZ3:=hid z3;have HB:=hid hB
 have H1:=hid h1;have H2:=hid h2
 have a0:=cell_blk z2 (i:=0) rfl
 have a1:=cell_blk z2 (i:=1) rfl
 have a2:=cell_blk z2 (i:=2) rfl
 have a3:=cell_blk z2 (i:=3) rfl
 have b0:=cell_blk z3 (i:=0) rfl
 have b1:=cell_blk z3 (i:=1) rfl
 have b2:=cell_blk z3 (i:=2) rfl
 have b3:=cell_blk z3 (i:=3) rfl
 clear z2 z3 hB h1 h2
 go_enter Tryz.func13,Tryz.ntmps13
 go_wp2_with (rw [← HW.out])
 go_loopw [5] (fun ix wr => ∃ k:Nat,k ≤ ds.length ∧ ix = .int .i64 k ∧ Below W.heap.size W wr) (fun ix _ => ds.length - (intOf ix).toNat)
 case atStart => exact ⟨0,Nat.zero_le _,rfl,Below.refl _ _⟩
 case round =>
  obtain ⟨k,hk,rfl,hb⟩:=hrel
  have y2:=cell_blk ((hb.block _ (Array.getElem?_eq_some_iff.1 HZ2.out).1).trans HZ2.out) (i:=1) rfl
  have y3:=cell_blk ((hb.block _ (Array.getElem?_eq_some_iff.1 HZ3.out).1).trans HZ3.out) (i:=1) rfl
  clear a0 a1 a2 a3 b0 b1 b2 b3
  by_cases hkl:k < ds.length
  ·obtain ⟨g,o,rfl,-,e1⟩:=H1.out.at_ hkl
   obtain ⟨g',o',rfl,-,e2⟩:=H2.out.at_ hkl
   have hbw:=HB.out.trans (hb.mono HB.out.size)
   have u1:=e1 wr hbw
   have u2:=e2 wr hbw
   obtain ⟨y,hy⟩:∃ y,ds.getD k 0 = y:=⟨_,rfl⟩
   rw [hy] at u1 u2
   have s1:(k:Int) < (ds.length:Int):=by omega
   have HBR:=hid hb
   clear e1 e2 hbw hy hb
   go_wp2
   go_region
   go_wp2
   go_roundw
   case rel => exact ⟨k + 1,by omega,by go_num,HBR.out.drew⟩
   case measure => simp [intOf];omega
  ·have HBR:=hid hb
   clear hb
   go_wp2
   go_ret
   exact ⟨rfl,HB.out.trans (HBR.out.mono HB.out.size)⟩
end Go.Proofs.YtheeiklgblcjfaaGreatDoor
end
section
namespace Go.Proofs.YtheeiklgblcjfaaGreatDoor
open Go.Lib (hid)
open Go.RowKit Go.Sort
set_option maxRecDepth 100000
theorem MAt.low_free {w:World} {own:Nat → Tg8} {n0:Nat} {c:Cfg} {M:Md8} {A:Mx8} (h:MAt w own n0 c M A) {k:Nat} (hk:k < n0):own k = .free:=by
 cases e2:own k <;> first | rfl | (exfalso;have:=h.base k (by rw [e2];simp);omega)
/-- A model,and what was done to it,in a list. -/
structure ActI (w0:World) (n0:Nat) (c:Cfg) (i mb:Nat) (pv:Value) (w:World) (own:Nat → Tg8) (M:Md8) (Z:Mx8) (past:List Pv):Prop where
 mb:Z.b = mb
 mat:MAt w own n0 c M Z
 pst:PastAt w n0 pv past
 off:∀ g,pv.ownBlock = some g → own g = .free
 fine:PFine w0 past
 sim:Sim c past M
 len:past.length ≤ i
 tk:M.t ≤ i
 bel:Below w0.heap.size w0 w
 low:w0.heap.size ≤ n0
def ActE (w0:World) (n0:Nat) (c:Cfg) (i mb:Nat) (pv:Value) (w:World):Prop:=∃ own M Z past,ActI w0 n0 c i mb pv w own M Z past
section
variable {w0 w:World} {n0:Nat} {c:Cfg} {i mb:Nat} {pv:Value} {own:Nat → Tg8} {M:Md8} {Z:Mx8} {past:List Pv}
theorem ActI.later (h:ActI w0 n0 c i mb pv w own M Z past) {w':World} (hb:Below w.heap.size w w'):ActI w0 n0 c i mb pv w' own M Z past:=
 ⟨h.mb,(MAt.still h.mat hb).1,OwnsOff.keptB h.pst hb,h.off,h.fine,h.sim,h.len,h.tk,h.bel.trans (hb.mono h.bel.size),h.low⟩
theorem ActI.more (h:ActI w0 n0 c i mb pv w own M Z past) {j:Nat} (hj:i ≤ j):ActI w0 n0 c j mb pv w own M Z past:=
 ⟨h.mb,h.mat,h.pst,h.off,h.fine,h.sim,Nat.le_trans h.len hj,Nat.le_trans h.tk hj,h.bel,h.low⟩
/-- The model turns. -/
theorem ActI.turn (h:ActI w0 n0 c i mb pv w own M Z past) {w':World} {M':Md8} (hT:Turn8 w own n0 c M' Z w'):∃ own' Z',Z'.b = mb ∧ MAt w' own' n0 c M' Z' ∧ PastAt w' n0 pv past ∧ (∀ g,pv.ownBlock = some g → own' g = .free) ∧ Below n0 w w' ∧ (∀ k,k < w.heap.size → own' k = own k) ∧ Only (fun k => (own k).mut) w w':=by
 have hlow:=Turn8.low8 h.mat hT
 obtain ⟨own',Z',e1,-,-,h1,h2,h3⟩:=hT
 refine ⟨own',Z',e1.trans h.mb,h1,OwnsOff.kept h.pst h3 (fun k hk hm => ?_),fun g hg => ?_,hlow,h2,h3⟩
 ·rw [h.off k hk] at hm;exact hm
 ·rw [h2 g (OwnsOff.lt h.pst g hg).2];exact h.off g hg
end
/-- The list grows. -/
theorem past_grown {w:World} {own:Nat → Tg8} {n0:Nat} {c:Cfg} {M:Md8} {A:Mx8} (h:MAt w own n0 c M A) {pv v':Value} {w6:World} {tmp:Obj} {past past':List Pv} (hp:PastAt w n0 pv past) (hoff:∀ g,pv.ownBlock = some g → own g = .free) (hown:PastAt w6 n0 v' past') (hg:(w.alloc tmp).grownBy w6 pv.ownBlock) (hfr:∀ g,v'.ownBlock = some g → pv.ownBlock = some g ∨ w.heap.size + 1 ≤ g) :
  MAt w6 own n0 c M A ∧ (∀ g,v'.ownBlock = some g → own g = .free) ∧ Below n0 w w6:=by
 have hb1:Below w.heap.size w (w.alloc tmp):=(Below.refl _ _).alloc (Nat.le_refl _) _
 have hO:Only (fun k => pv.ownBlock = some k) w w6:=(Only.of_below hb1).trans ((Only.of_grown hg).mono fun k _ e => e.symm)
 refine ⟨MAt.later h hO (fun _ _ => rfl) (fun k hk => h.free k (Nat.le_trans hO.size hk)) h.base (fun k _ e => hoff k e),fun g hgv => ?_,hO.below h.n0le (fun k e => (OwnsOff.lt hp k e).1)⟩
 rcases hfr g hgv with h1 | h1
 ·exact hoff g h1
 ·exact h.free g (by omega)
theorem ref_q5 {c:Cfg} {sp:Int} {sn:Bool} {made:List Int} {port ad:Int} {n:Nat} (h:refusedN c sp sn made 5 port ad n = 0):kind8 c (portK c port).toNat = 2:=by
 obtain ⟨h0,h1⟩:=ref_in h
 have hpb:=ref_port h (by omega)
 have hac:=(port_of hpb).1
 rw [refused_on hac (by omega) (by omega)] at h
 unfold refT at h
 rw [if_neg (by decide),if_neg (by decide),if_pos (by decide)] at h
 unfold talkN at h
 split at h
 ·cases h
 split at h
 ·cases h
 unfold talkT at h
 split at h
 ·cases h
 ·rename_i hm
  exact kind5 (kd:=fld (row c.chans (portK c port).toNat) 0) (by simpa using hm)
theorem qfew {w:World} {own:Nat → Tg8} {n0:Nat} {c:Cfg} {M:Md8} {A:Mx8} (h:MAt w own n0 c M A) (x:CV):QFew c M x:=fun h0 ho => by
 unfold ref8 at h0
 rw [ho] at h0
 have hpb:=ref_port h0 (by omega)
 obtain ⟨k,hk,hK⟩:=portK_of hpb
 refine h.qz _ ?_
 unfold qing
 have hc:ch8 c x = k:=by unfold ch8;rw [hK];simp
 rw [hc,decide_eq_true hk,Bool.true_and]
 have:=ref_q5 h0
 rw [hK,Int.toNat_natCast] at this
 exact decide_eq_true this
theorem poke_len {c:Cfg} {M:Md8} {x:CV} (h0:(do8 c M x).1.code = 0) (ho:x.op = 9):0 < x.rd.length:=by
 unfold do8 at h0
 by_cases hz:ref8 c M x = 0
 ·unfold ref8 at hz
  have:=poke_one hz rfl ho
  omega
 ·rw [if_neg hz] at h0
  exact absurd h0 hz
theorem toOk {c:Cfg} (hac:acceptsB c = true):∀ k:Nat,k < c.chans.length → 0 ≤ to8 c k ∧ to8 c k < (c.parts.length:Int):=fun k hk => by
 obtain ⟨_,_,_,_,_,_,_,_,_,h1,h2,_⟩:=(accd_of hac).chan k hk
 exact ⟨h1,h2⟩
theorem dWr_mem (c:Cfg) (k:Int):∀ (l:List Pv) (o:Option CV) (y:CV),l.foldl (fun o e => if isW c k e = true then some e.x else o) o = some y → o = some y ∨ ∃ (i:Nat) (e:Pv),l[i]? = some e ∧ e.x = y
 | [],o,y,h => .inl h
 | e :: r,o,y,h => by
  rw [List.foldl_cons] at h
  rcases dWr_mem c k r _ y h with h | ⟨i,e',h1,h2⟩
  ·split at h
   ·injection h with h;exact .inr ⟨0,e,rfl,h⟩
   ·exact .inl h
  ·exact .inr ⟨i + 1,e',by simpa using h1,h2⟩
/-- No answer has more words than a message that was handed in,or one. -/
theorem do8_len {c:Cfg} {l:List Pv} {M:Md8} {w0:World} (h:Sim c l M) (hf:PFine w0 l) (x:CV):(do8 c M x).1.data.length ≤ 1000000:=by
 unfold do8 act8
 repeat' split
 all_goals try (simp [ok8,code8];done)
 ·rename_i m hm
  have hw:=h.wr (ch8 c x)
  rw [hm] at hw
  cases hd:dWr c l (ch8 c x:Int) with
  | none => rw [hd] at hw;cases hw
  | some y =>
   rw [hd] at hw
   injection hw with hw
   rw [← hw]
   rcases dWr_mem c _ l none y hd with h1 | ⟨i,e,h1,h2⟩
   ·cases h1
   ·rw [← h2];exact hf.len i e h1
 ·rename_i d r hm
  have hw:=h.qs (ch8 c x)
  rw [hm] at hw
  cases hd:dQv c l (ch8 c x:Int) with
  | nil => rw [hd] at hw;cases hw
  | cons y r' =>
   rw [hd] at hw
   injection hw with hw
   rw [← hw]
   rcases dQv_mem c (ch8 c x:Int) l [] y (by rw [show l.foldl (qStep c (ch8 c x:Int)) [] = y :: r' from hd];simp) with h1 | ⟨i,e,h1,h2⟩
   ·cases h1
   ·rw [← h2];exact hf.len i e h1
end Go.Proofs.YtheeiklgblcjfaaGreatDoor
end
