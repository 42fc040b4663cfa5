/- Texts of the ring, joined, what is used of them. No condition but those in the statements. -/
import Derived.BigQuiet
import Derived.BigRegion
import Derived.Deep.MidRow
import Derived.Deep.RegionHeld3
import Derived.Deep.Slices
import Derived.Deep.Upon
import Derived.Great.BuildSlice
import Derived.IntWalk
import Derived.Lib.SmallJoins
import Derived.Shelf.Abstract
import Derived.Test.YtheeiklgblcjfaaGreatDoorRMDo
import Derived.Test.YtheeiklgblcjfaaGreatDoorRgd
import Derived.Test.YtheeiklgblcjfaaGreatDoorRgf
import Derived.Test.YtheeiklgblcjfaaGreatDoorRgl
import Derived.Test.YtheeiklgblcjfaaGreatDoorRgn
import Derived.Test.YtheeiklgblcjfaaGreatDoorRgo
import Derived.Test.YtheeiklgblcjfaaGreatDoorRgq
import Derived.Test.YtheeiklgblcjfaaGreatDoorRgr
import Derived.Test.YtheeiklgblcjfaaGreatDoorRgt
import Derived.Test.YtheeiklgblcjfaaGreatDoorRgu
section
namespace Go.Proofs.YtheeiklgblcjfaaGreatDoor
open Go.RowKit Go.Sort Go.Deep Go.ChangeShapes Go.WideShapes Go.Joins
set_option linter.unusedVariables false
set_option linter.unusedSimpArgs false
set_option linter.unusedVariables false
set_option linter.unusedSimpArgs false
set_option maxRecDepth 100000
/-- What is done to a model. -/
structure AV where
  kind:Int
  x:CV
  deriving Inhabited
def aCells (a:AV):List Value:=.int .i64 a.kind :: cCells a.x
/-- A slice's row of acts,at a block below number B. -/
def ARow (w:World) (B:Nat) (A:Option Addr) (l:List AV):Prop:=
  0 < l.length → ∃ b o,A = some ⟨b,o,none⟩ ∧ b < B ∧ ∀ (i:Nat) (a:AV),l[i]? = some a → w.cell? ⟨b,o + i * 21,none⟩ = some (.int .i64 a.kind) ∧ CAt w b (o + i * 21 + 1) a.x ∧ CRows w B a.x ∧ CWf a.x
theorem ARow.below {w w':World} {B:Nat} {A:Option Addr} {l:List AV} (h:ARow w B A l) (hb:Below B w w'):ARow w' B A l:=fun hn => by
  obtain ⟨b,o,hA,hlt,hc⟩:=h hn
  exact ⟨b,o,hA,hlt,fun i a ha => ⟨(hb.cell (p:=⟨b,o + i * 21,none⟩) hlt).trans (hc i a ha).1,(hc i a ha).2.1.later hb hlt,(hc i a ha).2.2.1.below hb,(hc i a ha).2.2.2⟩⟩
section
variable {H:Type} {enc:TypeId × Value → H} {w:World}
theorem open_act {n:Nat} {cs:List Value} {x:DataW H × List MemPlace} (h:DataW.trod enc Tryz.prog w 0 (fun _ => true) true n 46 cs = some x):∃ a:AV,cs = aCells a ∧ CWf a.x ∧ CRows w w.heap.size a.x:=by
  obtain ⟨xs,m,_,_,hcl,hxl,hf⟩:=DataW.trod_struct Tryz.underlying46 h
  have hcl:cs.length = 21:=hcl.trans (by kernel_rfl)
  match cs,hcl with
  | k :: r,hcl =>
    simp only [List.size_toArray,List.length_cons,List.length_nil] at hxl
    have h0:=hf 0 _ rfl
    have h1:=hf 1 _ rfl
    rw [List.getElem?_eq_getElem (by omega)] at h0 h1
    have k1:Tryz.prog.cellsOf 3 = 1:=by kernel_rfl
    have kc:Tryz.prog.cellsOf 44 = 20:=by kernel_rfl
    have hr:r.length = 20:=by simpa using hcl
    have htk:r.take 20 = r:=List.take_of_length_le (by omega)
    simp [k1,kc,htk] at h0 h1
    obtain ⟨z,e0,_,w0⟩:=DataW.trod_int Tryz.underlying3 h0
    obtain ⟨v,e1,hw,hv⟩:=open_call h1
    simp at e0
    subst e0 e1
    exact ⟨⟨z,v⟩,rfl,hw,hv⟩
/-- A []Act that came in,opened. -/
theorem acts_arg8 {a:Option Addr} {len cap:Nat} {d:DataW H} {p:List MemPlace} (h:DataW.Trod enc Tryz.prog w 0 (fun _ => true) true 30 (.slice a len cap) d p) :
    ∃ l:List AV,len = l.length ∧ len ≤ cap ∧ cap ≤ maxLen ∧ (a = none → l = []) ∧ ARow w w.heap.size a l:=by
  obtain ⟨fuel,h⟩:=h
  simp only [Value.cells] at h
  rcases open_slice Tryz.underlying30 h with ⟨hcs,_⟩ | ⟨a',len',cap',m,n',D,Pl,hcs,_,hl,hm,hmm,_,hx⟩
  · simp at hcs
    obtain ⟨rfl,rfl,rfl⟩:=hcs
    exact ⟨[],rfl,Nat.le_refl _,by unfold maxLen;omega,fun _ => rfl,fun hn => absurd hn (by simp)⟩
  · simp at hcs
    obtain ⟨rfl,rfl,rfl⟩:=hcs
    have hlm:len ≤ m:=by rw [hmm];split <;> omega
    have hC:Tryz.prog.cellsOf 46 = 21:=by kernel_rfl
    obtain ⟨F,hF⟩:=choose_lt (n:=len) (α:=AV) (p:=fun i v => w.cells? 0 (a'.add (i * 21)) 21 = some (aCells v) ∧ CWf v.x ∧ CRows w w.heap.size v.x) (fun i hi => by
      obtain ⟨cs',h1,h2⟩:=hx i (by omega)
      rw [hC] at h1
      obtain ⟨v,rfl,hw,hr⟩:=open_act h2
      exact ⟨v,h1,hw,hr⟩)
    refine ⟨(List.range len).map F,by simp,hl,hm,(fun h => by cases h),fun hq => ?_⟩
    simp at hq
    obtain ⟨b,off,spot⟩:=a'
    obtain ⟨_,hlen0,hc0⟩:=World.cells?_some (hF 0 hq).1
    have hc:=hc0 0 (by omega)
    have hc:w.cell? _ = some (Value.int .i64 (F 0).kind):=hc
    have hspot:spot = none:=by simpa [Addr.add] using World.cell?_spot hc
    subst hspot
    have hblk:b < w.heap.size:=by
      have:=World.block_lt_of_cell? w _ hc
      simpa [Addr.add] using this
    refine ⟨b,off,rfl,hblk,fun i v hv => ?_⟩
    have hi:i < len:=by have:=(List.getElem?_eq_some_iff.1 hv).1;simpa using this
    simp [hi] at hv
    subst hv
    obtain ⟨h1,h2,h3⟩:=hF i hi
    obtain ⟨_,hlen1,hc1⟩:=World.cells?_some h1
    refine ⟨?_,fun j x hx => ?_,h3,h2⟩
    · have:=hc1 0 (by omega)
      have:w.cell? _ = some (Value.int .i64 (F i).kind):=this
      rw [add_add,Addr.add_lit] at this
      exact this
    · have hj:j < 20:=by have:=(List.getElem?_eq_some_iff.1 hx).1;rw [cCells_len] at this;exact this
      have:=hc1 (j + 1) (by omega)
      have e:(aCells (F i))[j + 1]? = some x:=by unfold aCells;simpa using hx
      rw [e,add_add,Addr.add_lit] at this
      rw [show off + i * 21 + 1 + j = off + (i * 21 + (j + 1)) by omega]
      exact this
end
end Go.Proofs.YtheeiklgblcjfaaGreatDoor
end
section
namespace Go.Proofs.YtheeiklgblcjfaaGreatDoor
open Go.RowKit Go.Sort
set_option linter.unusedVariables false
set_option linter.unusedSimpArgs false
set_option linter.unusedVariables false
set_option linter.unusedSimpArgs false
set_option maxRecDepth 100000
/-- An act's cells. -/
@[irreducible] def aC (a:AV):List Value:=.int .i64 a.kind :: cCells a.x
theorem aC_len (a:AV):(aC a).length = 21:=by unfold aC;rw [List.length_cons,cCells_len]
theorem aC_size (a:AV):(aC a).toArray.size = 21:=by rw [List.size_toArray,aC_len]
theorem aC_info (a:AV):(Tryz.prog.info? 46).map (·.size) = some (aC a).length:=by rw [aC_len];kernel_rfl
theorem aC_infoA (a:AV):(Tryz.prog.info? 46).map (·.size) = some (aC a).toArray.size:=by rw [aC_size];kernel_rfl
theorem aC_one (a:AV):(aC a).toArray.all (·.oneCell') = true:=by
  have h:=cCells_one a.x
  simp only [List.all_toArray] at h ⊢
  unfold aC
  rw [List.all_cons,h];rfl
/-- An act lies in block b from o on. -/
def ActAt (w:World) (b o:Nat) (a:AV):Prop:=w.rangeAt b o (aC a)
theorem ActAt.mk {w:World} {b o:Nat} {a:AV} (h0:w.cell? ⟨b,o,none⟩ = some (.int .i64 a.kind)) (h1:CAt w b (o + 1) a.x):ActAt w b o a:=fun j x hx => by
  unfold aC at hx
  cases j with
  | zero => simp at hx;subst hx;exact h0
  | succ j =>
    rw [List.getElem?_cons_succ] at hx
    have:=h1 j x hx
    rwa [show o + 1 + j = o + (j + 1) by omega] at this
theorem ActAt.kind {w:World} {b o:Nat} {a:AV} (h:ActAt w b o a):w.cell? ⟨b,o,none⟩ = some (.int .i64 a.kind):=by
  have:=h 0 (.int .i64 a.kind) (by unfold aC;rfl)
  exact this
theorem ActAt.call {w:World} {b o:Nat} {a:AV} (h:ActAt w b o a):CAt w b (o + 1) a.x:=fun j x hx => by
  have:=h (j + 1) x (by unfold aC;rw [List.getElem?_cons_succ];exact hx)
  rwa [show o + (j + 1) = o + 1 + j by omega] at this
theorem ActAt.load {w:World} {b o:Nat} {v:AV} (h:ActAt w b o v):(Instr.loadAt 46 (.pointer (some ⟨b,o,none⟩))).run Tryz.prog w = .ok (.agg (aC v).toArray) w:=
  run_loadAt_mid w b o 46 (aC v) _ h Tryz.underlying46 rfl (aC_info v)
theorem ActAt.later {w w':World} {B b o:Nat} {v:AV} (h:ActAt w b o v) (hb:Below B w w') (hlt:b < B):ActAt w' b o v:=fun j x hx => (hb.cell (p:=⟨b,o + j,none⟩) hlt).trans (h j x hx)
theorem ActAt.lt {w:World} {b o:Nat} {v:AV} (h:ActAt w b o v):b < w.heap.size:=World.block_lt_of_cell? w _ h.kind
section
variable {ops:Array Oper} {rest:List Oper} {o:Oper} {a:Act} {w:World} {Q:Exit → Act → World → Prop}
theorem wpList_loadA (hwt:Region.wanted o (yielded ops a.tmps) = true) (x:Operand) (ho:o.op = .load 46 x) (b k:Nat) (v:AV) (hx:a.eval x = .pointer (some ⟨b,k,none⟩)) (hc:ActAt w b k v)
    (h:wpList Tryz.prog ops Q rest (a.put o.dst (.agg (aC v).toArray)) w):wpList Tryz.prog ops Q (o :: rest) a w:=by
  refine wpList_step fun K hK => ?_
  rw [if_pos hwt]
  exact wp_load_mid 46 x ho b k hx (aC v) _ hc Tryz.underlying46 rfl (aC_info v) (hK _ _ h)
end
/-- A variable that holds an act: made,then stored into. -/
theorem varA (w:World) (v:AV):∃ W1 W2,Hid (W1 = w.alloc (.cells #[.int .i64 0,.int .i64 0,.int .i64 0,.int .i64 0,.int .u64 0,.slice none 0 0,.int .i64 0,.slice none 0 0,.bool false,.int .i64 0,.bool false,.int .i64 0,.int .i64 0,.int .i64 0,.int .i64 0,.int .i64 0,.int .i64 0,.int .i64 0,.int .i64 0,.int .i64 0,.int .i64 0] 46)) ∧ Hid (W2 = W1.setCells w.heap.size 0 (aC v).toArray.toList) ∧ W1.there w.heap.size 0 (aC v).toArray.size ∧ Below w.heap.size w W2 ∧ ActAt W2 w.heap.size 0 v:=by
  have hth:(w.alloc (.cells #[.int .i64 0,.int .i64 0,.int .i64 0,.int .i64 0,.int .u64 0,.slice none 0 0,.int .i64 0,.slice none 0 0,.bool false,.int .i64 0,.bool false,.int .i64 0,.int .i64 0,.int .i64 0,.int .i64 0,.int .i64 0,.int .i64 0,.int .i64 0,.int .i64 0,.int .i64 0,.int .i64 0] 46)).there w.heap.size 0 (aC v).toArray.size:=there_atC (heap_alloc_new w _) (by rw [aC_size];rfl)
  refine ⟨_,_,rfl,rfl,hth,below_setCellsC _ _ _ ((Below.refl _ _).alloc (Nat.le_refl _) _) (Nat.le_refl _),?_⟩
  exact World.rangeAt_setCells_same _ _ _ _ (by simpa using hth)
theorem ARow.at_ {w:World} {B:Nat} {A:Option Addr} {l:List AV} (h:ARow w B A l) {i:Nat} (hi:i < l.length):∃ (b o:Nat) (a:AV),A = some ⟨b,o,none⟩ ∧ b < B ∧ l[i]? = some a ∧ CWf a.x ∧ ∀ w',Below B w w' → ActAt w' b (o + i * 21) a ∧ CRows w' B a.x:=by
  obtain ⟨b,o,hA,hlt,hc⟩:=h (by omega)
  obtain ⟨h1,h2,h3,h4⟩:=hc i _ (List.getElem?_eq_getElem hi)
  exact ⟨b,o,_,hA,hlt,List.getElem?_eq_getElem hi,h4,fun w' hb => ⟨(ActAt.mk h1 h2).later hb hlt,h3.below hb⟩⟩
theorem ARow.later {w w':World} {A:Option Addr} {l:List AV} (h:ARow w w.heap.size A l) (hb:Below w.heap.size w w'):ARow w' w'.heap.size A l:=fun hn => by
  obtain ⟨b,o,hA,hlt,hc⟩:=h hn
  exact ⟨b,o,hA,Nat.lt_of_lt_of_le hlt hb.size,fun i a ha => ⟨(hb.cell (p:=⟨b,o + i * 21,none⟩) hlt).trans (hc i a ha).1,(hc i a ha).2.1.later hb hlt,(((hc i a ha).2.2.1.below hb).more hb.size),(hc i a ha).2.2.2⟩⟩
/-- An act that is not too much. -/
structure FineA (a:AV):Prop where
  rd:a.x.rd.length ≤ 40
  st:-1 ≤ a.x.stamp ∧ a.x.stamp ≤ 1099511627776
  t1:-1 ≤ a.x.t1 ∧ a.x.t1 ≤ 1099511627776
def GreatGoes (c:Cfg) (l:List AV) (w:World) (e:Ending) (w':World):Prop:=(∃ b,e = .returned (.bool b) ∧ (b = false → cfgLe 100 c = true ∧ acceptsB c = true ∧ l.length ≤ 60 ∧ ∀ (j:Nat) (a:AV),l[j]? = some a → FineA a)) ∧ Below w.heap.size w w'
set_option maxHeartbeats 6400000 in
theorem great18_b (c:Cfg) (x:CfgAt) (l:List AV) (A:Option Addr) (k:Nat) (w:World) (hx:CfgIn w w.heap.size c x) (wx:CfgWf c) (hr:ARow w w.heap.size A l):Calls Tryz.prog 9 #[.agg (cfgCells c x),.slice A l.length k] w (GreatGoes c l w):=by
  obtain ⟨W,HW,hB0,hWs,bx⟩:=one_cbox w c x 29
  have HG:∀ b,(!cfgLe 100 c) = b → Calls Tryz.prog 24 #[.agg (cfgCells c x)] W fun e w' => e = .returned (.bool b) ∧ Below W.heap.size W w':=fun b hb => great_is c x b W hb
  have HRA:∀ q V,acceptsB c = q → CfgFew c → Below W.heap.size W V → Calls Tryz.prog 25 #[.agg (cfgCells c x)] V fun e w' => e = .returned (.bool q) ∧ Below V.heap.size V w':=fun q V hq hl hb => racc_b c x q V ((hx.later hB0).later hb) wx hl hq
  obtain ⟨pa,pc,ca,cc,aa,ac,ba,bc⟩:=x
  obtain ⟨c0,c1,c2,c3,c4,c5⟩:=bx _ (Below.refl _ _)
  have HB0:=Lib.hid hB0;have HBX:=Lib.hid bx;have HR:=Lib.hid hr;have HRA:=Lib.hid HRA;have HG:=Lib.hid HG
  simp only [cfgCells] at HW HG HRA ⊢
  clear hx hB0 hWs bx wx hr
  go_enter Tryz.func9,Tryz.ntmps9
  go_wp2_with (rw [← HW.out])
  cases hg:cfgLe 100 c with
  | false =>
    refine (HG.out true (by rw [hg];rfl)).mono ?_
    rintro e w3 ⟨rfl,hb3⟩
    have HBB:=Lib.hid (HB0.out.trans (hb3.mono HB0.out.size))
    clear hb3 c0 c1 c2 c3 c4 c5
    go_wp2
    go_ret
    exact ⟨⟨true,rfl,fun h => by cases h⟩,HBB.out⟩
  | true =>
    refine (HG.out false (by rw [hg];rfl)).mono ?_
    rintro e w3 ⟨rfl,hb3⟩
    have HB3:=Lib.hid hb3
    clear c0 c1 c2 c3 c4 c5
    obtain ⟨c0,c1,c2,c3,c4,c5⟩:=HBX.out w3 hb3
    clear hb3
    go_wp2_with fail
    clear c0 c1 c2 c3 c4 c5
    cases hac:acceptsB c with
    | false =>
      refine (HRA.out false w3 hac (cfgLe_few hg (by omega)) HB3.out).mono ?_
      rintro e w4 ⟨rfl,hb4⟩
      have HBB:=Lib.hid (HB0.out.trans ((HB3.out.trans (hb4.mono HB3.out.size)).mono HB0.out.size))
      clear hb4
      go_wp2
      go_ret
      exact ⟨⟨true,rfl,fun h => by cases h⟩,HBB.out⟩
    | true =>
      refine (HRA.out true w3 hac (cfgLe_few hg (by omega)) HB3.out).mono ?_
      rintro e w4 ⟨rfl,hb4⟩
      have HB4:=Lib.hid (HB0.out.trans ((HB3.out.trans (hb4.mono HB3.out.size)).mono HB0.out.size))
      clear hb4
      by_cases hn:(l.length:Int) > 60
      · go_wp2
        go_ret
        exact ⟨⟨true,rfl,fun h => by cases h⟩,HB4.out⟩
      · have HN:=Lib.hid hn
        go_wp2_with fail
        go_loopw [21] (fun ix wr => ∃ i:Nat,i ≤ l.length ∧ ix = .int .i64 i ∧ (∀ (j:Nat) (a:AV),j < i → l[j]? = some a → FineA a) ∧ Below w.heap.size w wr) (fun ix _ => l.length - (intOf ix).toNat)
        case atStart => exact ⟨0,Nat.zero_le _,rfl,fun j a h => absurd h (by omega),HB4.out⟩
        case round =>
          obtain ⟨i,hi,rfl,hfine,hb⟩:=hrel
          have HBB:=Lib.hid hb;have HFI:=Lib.hid hfine
          clear hfine
          by_cases hlt:i < l.length
          · have s1:(i:Int) < (l.length:Int):=by omega
            obtain ⟨b,o,a,eA,hlb,ha,-,hc⟩:=HR.out.at_ hlt
            subst eA
            have HXR:=Lib.hid (hc wr hb).1
            obtain ⟨X1,X2,HX1,HX2,hth,hxb2,hxv⟩:=varA wr a
            have HXB:=Lib.hid hxb2;have HXV:=Lib.hid hxv;have HTH:=Lib.hid hth
            clear hxb2 hxv hth
            have y5:X2.cell? ⟨wr.heap.size,5,none⟩ = some (.slice a.x.ra a.x.rd.length a.x.rc):=HXV.out.call.rd
            have y14:X2.cell? ⟨wr.heap.size,14,none⟩ = some (.int .i64 a.x.t1):=HXV.out.call.t1
            have y19:X2.cell? ⟨wr.heap.size,19,none⟩ = some (.int .i64 a.x.stamp):=HXV.out.call.stamp
            have HA:=Lib.hid ha;have HLT:=Lib.hid hlt
            have HBA:=Lib.hid (hb.trans (HXB.out.mono hb.size))
            clear hc ha hb hlt hi hn hlb
            by_cases h0c:(a.x.rd.length:Int) > 40
            · go_wp2_with (first | (rw [← HX1.out]) | (with_reducible refine wpList_store_mid (by kernel_rfl) _ _ _ rfl wr.heap.size 0 (aC a).toArray (by kernel_rfl) (by kernel_rfl) HTH.out (aC_infoA a) (aC_one a) ?_) | (rw [← HX2.out]) | (with_reducible refine wpList_loadA (by with_unfolding_all rfl) _ rfl _ _ _ (by with_unfolding_all rfl) HXR.out ?_))
              go_ret
              exact ⟨⟨true,rfl,fun h => by cases h⟩,HBA.out⟩
            by_cases h1c:a.x.stamp < -1
            · go_wp2_with (first | (rw [← HX1.out]) | (with_reducible refine wpList_store_mid (by kernel_rfl) _ _ _ rfl wr.heap.size 0 (aC a).toArray (by kernel_rfl) (by kernel_rfl) HTH.out (aC_infoA a) (aC_one a) ?_) | (rw [← HX2.out]) | (with_reducible refine wpList_loadA (by with_unfolding_all rfl) _ rfl _ _ _ (by with_unfolding_all rfl) HXR.out ?_))
              go_ret
              exact ⟨⟨true,rfl,fun h => by cases h⟩,HBA.out⟩
            by_cases h2c:a.x.stamp > 1099511627776
            · go_wp2_with (first | (rw [← HX1.out]) | (with_reducible refine wpList_store_mid (by kernel_rfl) _ _ _ rfl wr.heap.size 0 (aC a).toArray (by kernel_rfl) (by kernel_rfl) HTH.out (aC_infoA a) (aC_one a) ?_) | (rw [← HX2.out]) | (with_reducible refine wpList_loadA (by with_unfolding_all rfl) _ rfl _ _ _ (by with_unfolding_all rfl) HXR.out ?_))
              go_ret
              exact ⟨⟨true,rfl,fun h => by cases h⟩,HBA.out⟩
            by_cases h3c:a.x.t1 < -1
            · go_wp2_with (first | (rw [← HX1.out]) | (with_reducible refine wpList_store_mid (by kernel_rfl) _ _ _ rfl wr.heap.size 0 (aC a).toArray (by kernel_rfl) (by kernel_rfl) HTH.out (aC_infoA a) (aC_one a) ?_) | (rw [← HX2.out]) | (with_reducible refine wpList_loadA (by with_unfolding_all rfl) _ rfl _ _ _ (by with_unfolding_all rfl) HXR.out ?_))
              go_ret
              exact ⟨⟨true,rfl,fun h => by cases h⟩,HBA.out⟩
            by_cases h4c:a.x.t1 > 1099511627776
            · go_wp2_with (first | (rw [← HX1.out]) | (with_reducible refine wpList_store_mid (by kernel_rfl) _ _ _ rfl wr.heap.size 0 (aC a).toArray (by kernel_rfl) (by kernel_rfl) HTH.out (aC_infoA a) (aC_one a) ?_) | (rw [← HX2.out]) | (with_reducible refine wpList_loadA (by with_unfolding_all rfl) _ rfl _ _ _ (by with_unfolding_all rfl) HXR.out ?_))
              go_ret
              exact ⟨⟨true,rfl,fun h => by cases h⟩,HBA.out⟩
            have HFA:Hid (FineA a):=Lib.hid ⟨by omega,by omega,by omega⟩
            skip
            go_wp2_with (first | (rw [← HX1.out]) | (with_reducible refine wpList_store_mid (by kernel_rfl) _ _ _ rfl wr.heap.size 0 (aC a).toArray (by kernel_rfl) (by kernel_rfl) HTH.out (aC_infoA a) (aC_one a) ?_) | (rw [← HX2.out]) | (with_reducible refine wpList_loadA (by with_unfolding_all rfl) _ rfl _ _ _ (by with_unfolding_all rfl) HXR.out ?_))
            go_roundw
            case rel => exact ⟨i + 1,by have:=HLT.out;omega,by go_num,fun j a' hj ha' => by
              by_cases e:j = i
              · rw [e,HA.out] at ha';cases ha';exact HFA.out
              · exact HFI.out j a' (by omega) ha',HBA.out⟩
            case measure => have:=HLT.out;simp [intOf];omega
          · have HNL:=Lib.hid hlt
            have s1:¬ ((i:Int) < (l.length:Int)):=by omega
            clear hb hlt hn
            go_wp2
            go_ret
            exact ⟨⟨false,rfl,fun _ => ⟨hg,hac,by have:=HN.out;omega,fun j a hj => HFI.out j a (by have:=(List.getElem?_eq_some_iff.1 hj).1;have:=HNL.out;omega) hj⟩⟩,HBB.out⟩
end Go.Proofs.YtheeiklgblcjfaaGreatDoor
end
section
namespace Go.Proofs.YtheeiklgblcjfaaGreatDoor
open Go.RowKit Go.Sort
set_option linter.unusedVariables false
set_option linter.unusedSimpArgs false
set_option linter.unusedVariables false
set_option linter.unusedSimpArgs false
set_option linter.unusedVariables false
set_option linter.unusedSimpArgs false
set_option maxRecDepth 100000
/-- What Standing hands back,in new memory. -/
def GivesSf (w:World) (p:Int) (s:St8) (e:Ending) (w':World):Prop:=∃ A1 k1 A2 k2,e = .returned (.tuple #[.agg #[.int .i64 p,.bool s.sn,.slice A1 s.made.length k1,.slice A2 s.valid.length k2],.bool true]) ∧ IntRowK .i64 w' w'.heap.size A1 s.made ∧ IntRowK .i64 w' w'.heap.size A2 s.valid ∧ Below w.heap.size w w' ∧ (0 < s.made.length → ∀ a,A1 = some a → w.heap.size ≤ a.block) ∧ (0 < s.valid.length → ∀ a,A2 = some a → w.heap.size ≤ a.block)
theorem stg_size9:(Tryz.prog.info? 59).map (·.size) = some 4:=by kernel_rfl
set_option maxHeartbeats 6400000 in
theorem standing_f {w:World} {own:Nat → Tg8} {n0:Nat} {c:Cfg} {M:Md8} {A:Mx8} (h:MAt w own n0 c M A) (ht:M.t ≤ 100000) (p:Nat) (hp:p < c.parts.length):Calls Tryz.prog 19 #[.pointer (some ⟨A.b,0,none⟩),.int .i64 (p:Int)] w (GivesSf w (p:Int) (st8 M (p:Int))):=by
  obtain ⟨s,hs,est,hms⟩:=mat_at h hp
  obtain ⟨W1,HW1,hB1,hs1,bx⟩:=box_new w #[.int .i64 0,.bool false,.slice none 0 0,.slice none 0 0] 59
  have hW1:=(MAt.still h hB1).1
  have c6:W1.cell? ⟨A.b,6,none⟩ = some (.slice (some ⟨A.sg,A.so,none⟩) c.parts.length A.sk):=blk_at hW1.head.2 (i:=6) rfl
  have i0:(0:Int) ≤ (p:Int):=by omega
  have i1:(p:Int) < (c.parts.length:Int):=by omega
  obtain ⟨hmo,-⟩:=hW1.made p s hs (fun x => x)
  obtain ⟨hvo,-⟩:=hW1.valid p s hs (fun x => x)
  obtain ⟨ma,mk,hmv,-,-⟩:=hmo.slice
  obtain ⟨va,vk,hvv,-,-⟩:=hvo.slice
  have hSt:=(hW1.stand (fun x => x)).2
  have r0:W1.cell? ⟨A.sg,A.so + p * 4,none⟩ = some (.int .i64 (p:Int)):=hSt.cell hs (j:=0) rfl
  have r1:W1.cell? ⟨A.sg,A.so + p * 4 + 1,none⟩ = some (.bool s.s.sn):=hSt.cell hs (j:=1) rfl
  have r2:W1.cell? ⟨A.sg,A.so + p * 4 + 2,none⟩ = some (.slice ma s.s.made.length mk):=by rw [← hmv];exact hSt.cell hs (j:=2) rfl
  have r3:W1.cell? ⟨A.sg,A.so + p * 4 + 3,none⟩ = some (.slice va s.s.valid.length vk):=by rw [← hvv];exact hSt.cell hs (j:=3) rfl
  obtain ⟨W2,HW2,hB2,hs2,tx⟩:=box_new W1 #[.int .i64 (p:Int),.bool s.s.sn,.slice ma s.s.made.length mk,.slice va s.s.valid.length vk] 59
  obtain ⟨rb,hrb⟩:∃ n,n = w.heap.size:=⟨_,rfl⟩
  obtain ⟨tb,htb⟩:∃ n,n = W1.heap.size:=⟨_,rfl⟩
  have hsz:=hW1.sz s.s (List.mem_of_getElem? hms)
  rw [hmv] at hmo
  rw [hvv] at hvo
  have hm1:IntRowK .i64 W2 W2.heap.size ma s.s.made:=((own_row8 hmo).below hB2).more hB2.size
  have hv1:IntRowK .i64 W2 W2.heap.size va s.s.valid:=((own_row8 hvo).below hB2).more hB2.size
  have hnm:ma = none → s.s.made = []:=fun e => by rw [e] at hmo;exact own_none8 hmo
  have hnv:va = none → s.s.valid = []:=fun e => by rw [e] at hvo;exact own_none8 hvo
  have HC1:=Lib.hid (fun V (hb:Below W2.heap.size W2 V) => cloneI_b ma mk s.s.made V ((hm1.below hb).more hb.size) hnm (by omega))
  have HC2:=Lib.hid (fun V (hb:Below W2.heap.size W2 V) => cloneI_b va vk s.s.valid V ((hv1.below hb).more hb.size) hnv (by omega))
  have HI:=Lib.hid (is_in hW1 p hp)
  have hX:=tx W2 (Below.refl _ _)
  rw [← htb] at hX
  have HXW:=Lib.hid hX
  have HL2:=Lib.hid (Array.getElem?_eq_some_iff.1 hX).1
  have hR:=(bx W2 hB2)
  rw [← hrb] at hR
  have HR:=Lib.hid hR
  have HRT:=Lib.hid (show rb < tb ∧ w.heap.size ≤ rb from by omega)
  have HBW:=Lib.hid (hB1.trans (hB2.mono hB1.size))
  have e2:W2.cell? ⟨tb,2,none⟩ = some (.slice ma s.s.made.length mk):=blk_at hX (i:=2) rfl
  have e3:W2.cell? ⟨tb,3,none⟩ = some (.slice va s.s.valid.length vk):=blk_at hX (i:=3) rfl
  have HRB:=Lib.hid hrb;have HTB:=Lib.hid htb
  rw [est]
  clear h hs est hms hW1 hmo hvo hmv hvv hSt hsz hm1 hv1 hnm hnv hX hR hrb htb hB1 hB2 hs1 hs2 bx tx
  go_enter Tryz.func19,Tryz.ntmps19
  go_wp2_with (first | (rw [← HW1.out];(try simp only [← HRB.out])) | (rw [← HW2.out];(try simp only [← HTB.out])))
  refine HI.out.mono ?_
  rintro e w3 ⟨rfl,rfl⟩
  clear HI
  go_wp2_with (first | (rw [← HW2.out];(try simp only [← HTB.out])))
  (try simp only [← HTB.out])
  clear c6 r0 r1 r2 r3
  go_region_with (first | (go_at_call 49;((with_reducible refine (HC1.out _ ?_).mono ?_);(first | exact (Below.refl _ _).drew | exact Below.refl _ _);rintro e w5 ⟨A5,q5,rfl,hr5,hn5,hq5,hb5o⟩;have hb5:=(Below.refl W2.heap.size W2).drew.trans hb5o;clear hb5o;have k5:=(hb5.block _ HL2.out).trans HXW.out;have d2:w5.cell? ⟨tb,2,none⟩ = some (.slice ma s.s.made.length mk):=blk_at k5 (i:=2) rfl;have d3:w5.cell? ⟨tb,3,none⟩ = some (.slice va s.s.valid.length vk):=blk_at k5 (i:=3) rfl;have dd2:w5.frozen? ⟨tb,2,none⟩ = false:=by simp [World.frozen?,k5])) | (go_at_call 49;((refine (HC2.out _ hb5).mono ?_);rintro e w6 ⟨A6,q6,rfl,hr6,hn6,hq6,hb6⟩;have k6:=(hb6.block _ (Nat.lt_of_lt_of_le HL2.out hb5.size)).trans k5;have g2:=blk_at k6 (i:=2) (v:=.slice ma s.s.made.length mk) rfl;have g3:=blk_at k6 (i:=3) (v:=.slice va s.s.valid.length vk) rfl;have gg2:w6.frozen? ⟨tb,2,none⟩ = false:=(by simp [World.frozen?,k6]);have gg3:w6.frozen? ⟨tb,3,none⟩ = false:=(by simp [World.frozen?,k6]))))
  all_goals
    obtain ⟨X,hX⟩:∃ u,Hid (u = (w6.setCell ⟨tb,2,none⟩ (.slice A5 s.s.made.length q5)).setCell ⟨tb,3,none⟩ (.slice A6 s.s.valid.length q6)):=⟨_,rfl⟩
    rw [← hX.out]
    have htl:=HL2.out
    have hrt:=HRT.out
    have hb6':=hb5.trans (hb6.mono hb5.size)
    have hoX:Only (fun k => k = tb) w6 X:=by rw [hX.out];exact (Only.setCell w6 ⟨tb,2,none⟩ _).trans (Only.setCell _ ⟨tb,3,none⟩ _)
    have hkX:X.heap[tb]? = some (.cells #[.int .i64 (p:Int),.bool s.s.sn,.slice A5 s.s.made.length q5,.slice A6 s.s.valid.length q6] 59 (0,0)):=by rw [hX.out];exact blk_put (blk_put k6 rfl) rfl
    have hrX:=hoX.at_ ((hb6'.block rb (by omega)).trans HR.out) (by omega)
    have w56:=hb5.size
    have m5:IntRowK .i64 X w6.heap.size A5 s.s.made:=((hr5.below hb6).more hb6.size).only8 (Nat.le_refl _) hoX (fun hl a e e2 => by have h1:W2.heap.size ≤ a.block:=hn5 hl a e;have e2:a.block = tb:=e2;omega)
    have v6:IntRowK .i64 X w6.heap.size A6 s.s.valid:=hr6.only8 (Nat.le_refl _) hoX (fun hl a e e2 => by have h1:w5.heap.size ≤ a.block:=hn6 hl a e;have e2:a.block = tb:=e2;omega)
    have x0:X.cell? ⟨tb,0,none⟩ = some (.int .i64 (p:Int)):=blk_at hkX (i:=0) rfl
    have x1:X.cell? ⟨tb,1,none⟩ = some (.bool s.s.sn):=blk_at hkX (i:=1) rfl
    have x2:X.cell? ⟨tb,2,none⟩ = some (.slice A5 s.s.made.length q5):=blk_at hkX (i:=2) rfl
    have x3:X.cell? ⟨tb,3,none⟩ = some (.slice A6 s.s.valid.length q6):=blk_at hkX (i:=3) rfl
    have hth:=there_blk (W:=X) hrX (n:=(#[.int .i64 (p:Int),.bool s.s.sn,.slice A5 s.s.made.length q5,.slice A6 s.s.valid.length q6]:Array Value).size) rfl
    have hsz4:(Tryz.prog.info? 59).map (·.size) = some (#[.int .i64 (p:Int),.bool s.s.sn,.slice A5 s.s.made.length q5,.slice A6 s.s.valid.length q6]:Array Value).size:=stg_size9
    obtain ⟨Y,hY⟩:∃ u,Hid (u = X.setCells rb 0 (#[.int .i64 (p:Int),.bool s.s.sn,.slice A5 s.s.made.length q5,.slice A6 s.s.valid.length q6]:Array Value).toList):=⟨_,rfl⟩
    have hoY:Only (fun k => k = rb) X Y:=by rw [hY.out];exact Only.sets (S:=fun k => k = rb) rfl _ _ (Only.of_below (Below.refl _ _))
    have hkY:Y.heap[rb]? = some (.cells #[.int .i64 (p:Int),.bool s.s.sn,.slice A5 s.s.made.length q5,.slice A6 s.s.valid.length q6] 59 (0,0)):=by
      rw [hY.out]
      exact blk_put (blk_put (blk_put (blk_put hrX rfl) rfl) rfl) rfl
    have y0:Y.cell? ⟨rb,0,none⟩ = some (.int .i64 (p:Int)):=blk_at hkY (i:=0) rfl
    have y1:Y.cell? ⟨rb,1,none⟩ = some (.bool s.s.sn):=blk_at hkY (i:=1) rfl
    have y2:Y.cell? ⟨rb,2,none⟩ = some (.slice A5 s.s.made.length q5):=blk_at hkY (i:=2) rfl
    have y3:Y.cell? ⟨rb,3,none⟩ = some (.slice A6 s.s.valid.length q6):=blk_at hkY (i:=3) rfl
    have hsX:=hoX.size
    have hsY:=hoY.size
    have hs6:=hb6.size
    have HF:Hid (GivesSf w (p:Int) s.s (.returned (.tuple #[.agg #[.int .i64 (p:Int),.bool s.s.sn,.slice A5 s.s.made.length q5,.slice A6 s.s.valid.length q6],.bool true])) Y):=Lib.hid ⟨A5,q5,A6,q6,rfl,
      (m5.only8 (by omega) hoY (fun hl a e e2 => by have h1:W2.heap.size ≤ a.block:=hn5 hl a e;have e2:a.block = rb:=e2;omega)).more (by omega),
      (v6.only8 (by omega) hoY (fun hl a e e2 => by have h1:w5.heap.size ≤ a.block:=hn6 hl a e;have e2:a.block = rb:=e2;omega)).more (by omega),
      HBW.out.trans (((hb6'.mono HBW.out.size).trans (hoX.below (by have:=HBW.out.size;omega) (fun k e => by omega))).trans (hoY.below (by have:=HBW.out.size;omega) (fun k e => by omega))),(fun hl a e => by have h1:W2.heap.size ≤ a.block:=hn5 hl a e;have:=HBW.out.size;omega),(fun hl a e => by have h1:w5.heap.size ≤ a.block:=hn6 hl a e;have:=HBW.out.size;have:=hb5.size;omega)⟩
    clear hb5 hb6 hb6' hr5 hr6 hn5 hn6 hq5 hq6 hoX hkX hrX m5 v6 hX k5 k6 hoY hkY w56 htl hrt
    go_wp2_with (with_reducible refine wpList_store_mid (by kernel_rfl) _ _ _ rfl rb 0 #[.int .i64 (p:Int),.bool s.s.sn,.slice A5 s.s.made.length q5,.slice A6 s.s.valid.length q6] (by kernel_rfl) (by kernel_rfl) hth hsz4 (by kernel_rfl) ?_;rw [← hY.out])
    (try simp only [Exit.inBlock,Exit.then])
    refine bodyPost_ret (v:=.tuple #[.agg #[.int .i64 (p:Int),.bool s.s.sn,.slice A5 s.s.made.length q5,.slice A6 s.s.valid.length q6],.bool true]) (by simp [results,Tryz.results19,go_sem,y0,y1,y2,y3]) rfl ?_
    exact HF.out
end Go.Proofs.YtheeiklgblcjfaaGreatDoor
end
section
namespace Go.Proofs.YtheeiklgblcjfaaGreatDoor
open Go.RowKit Go.Sort
set_option linter.unusedVariables false
set_option linter.unusedSimpArgs false
set_option linter.unusedVariables false
set_option linter.unusedSimpArgs false
set_option maxRecDepth 100000
set_option maxHeartbeats 3200000
theorem sameAns_eq (cd:Int) (vl:Bool) (ct:Int) (ds:List Int) (A A':Option Addr) (c c':Nat) (w:World) (h1:IntRowK .u32 w w.heap.size A ds) (h2:IntRowK .u32 w w.heap.size A' ds) (hl:ds.length ≤ 1000000) :
    Calls Tryz.prog 13 #[.agg #[.int .i64 cd,.slice A ds.length c,.bool vl,.int .i64 ct],.agg #[.int .i64 cd,.slice A' ds.length c',.bool vl,.int .i64 ct]] w (fun e w' => e = .returned (.bool true) ∧ Below w.heap.size w w'):=by
  obtain ⟨W,HW⟩:∃ u,Hid (u = (w.alloc (.cells #[.int .i64 cd,.slice A ds.length c,.bool vl,.int .i64 ct] 42)).alloc (.cells #[.int .i64 cd,.slice A' ds.length c',.bool vl,.int .i64 ct] 42)):=⟨_,rfl⟩
  have hB:Below w.heap.size w W:=by rw [HW.out];exact ((Below.refl _ _).alloc (Nat.le_refl _) _).alloc (by simp) _
  have z2:W.heap[w.heap.size]? = some (.cells #[.int .i64 cd,.slice A ds.length c,.bool vl,.int .i64 ct] 42 (0,0)):=by rw [HW.out,Below.heap_alloc _ _ _ (by simp)];exact heap_alloc_new w _
  have z3:W.heap[w.heap.size + 1]? = some (.cells #[.int .i64 cd,.slice A' ds.length c',.bool vl,.int .i64 ct] 42 (0,0)):=by rw [HW.out];exact heap_new_at10 _ _ (by simp)
  have HZ2:=Lib.hid z2;have HZ3:=Lib.hid z3;have HB:=Lib.hid hB
  have H1:=Lib.hid h1;have H2:=Lib.hid h2
  have a0:=cell_blk z2 (i:=0) rfl
  have a1:=cell_blk z2 (i:=1) rfl
  have a2:=cell_blk z2 (i:=2) rfl
  have a3:=cell_blk z2 (i:=3) rfl
  have b0:=cell_blk z3 (i:=0) rfl
  have b1:=cell_blk z3 (i:=1) rfl
  have b2:=cell_blk z3 (i:=2) rfl
  have b3:=cell_blk z3 (i:=3) rfl
  clear z2 z3 hB h1 h2
  go_enter Tryz.func13,Tryz.ntmps13
  go_wp2_with (rw [← HW.out])
  go_loopw [5] (fun ix wr => ∃ k:Nat,k ≤ ds.length ∧ ix = .int .i64 k ∧ Below W.heap.size W wr) (fun ix _ => ds.length - (intOf ix).toNat)
  case atStart => exact ⟨0,Nat.zero_le _,rfl,Below.refl _ _⟩
  case round =>
    obtain ⟨k,hk,rfl,hb⟩:=hrel
    have y2:=cell_blk ((hb.block _ (Array.getElem?_eq_some_iff.1 HZ2.out).1).trans HZ2.out) (i:=1) rfl
    have y3:=cell_blk ((hb.block _ (Array.getElem?_eq_some_iff.1 HZ3.out).1).trans HZ3.out) (i:=1) rfl
    clear a0 a1 a2 a3 b0 b1 b2 b3
    by_cases hkl:k < ds.length
    · obtain ⟨g,o,rfl,-,e1⟩:=H1.out.at_ hkl
      obtain ⟨g',o',rfl,-,e2⟩:=H2.out.at_ hkl
      have hbw:=HB.out.trans (hb.mono HB.out.size)
      have u1:=e1 wr hbw
      have u2:=e2 wr hbw
      obtain ⟨y,hy⟩:∃ y,ds.getD k 0 = y:=⟨_,rfl⟩
      rw [hy] at u1 u2
      have s1:(k:Int) < (ds.length:Int):=by omega
      have HBR:=Lib.hid hb
      clear e1 e2 hbw hy hb
      go_wp2
      go_region
      go_wp2
      go_roundw
      case rel => exact ⟨k + 1,by omega,by go_num,HBR.out.drew⟩
      case measure => simp [intOf];omega
    · have HBR:=Lib.hid hb
      clear hb
      go_wp2
      go_ret
      exact ⟨rfl,HB.out.trans (HBR.out.mono HB.out.size)⟩
end Go.Proofs.YtheeiklgblcjfaaGreatDoor
end
section
namespace Go.Proofs.YtheeiklgblcjfaaGreatDoor
open Go.RowKit Go.Sort
set_option linter.unusedVariables false
set_option linter.unusedSimpArgs false
set_option linter.unusedVariables false
set_option linter.unusedSimpArgs false
set_option maxRecDepth 100000
theorem low_free9 {w:World} {own:Nat → Tg8} {n0:Nat} {c:Cfg} {M:Md8} {A:Mx8} (h:MAt w own n0 c M A) {k:Nat} (hk:k < n0):own k = .free:=by
  cases e2:own k <;> first | rfl | (exfalso;have:=h.base k (by rw [e2];simp);omega)
theorem do8_t9 (c:Cfg) (M:Md8) (x:CV):(do8 c M x).2.t = M.t + 1:=by
  unfold do8 act8
  repeat' split
  all_goals rfl
/-- A call that is refused: nothing but time passes. -/
theorem do8_refused {c:Cfg} {M:Md8} {x:CV} (h0:¬ (do8 c M x).1.code = 0) (h2:¬ (do8 c M x).1.code = 2) (h1:¬ ((do8 c M x).1.code = 1 ∧ x.op = 4)):do8 c M x = (code8 (ref8 c M x),tick8 M) ∧ do8 c (tick8 M) x = (code8 (ref8 c M x),tick8 (tick8 M)):=by
  by_cases hz:ref8 c M x = 0
  · exfalso
    have hd:do8 c M x = act8 c M x:=by unfold do8;rw [if_pos hz]
    rw [hd] at h0 h1 h2
    unfold act8 at h0 h1 h2
    by_cases o1:x.op = 1
    · rw [if_pos o1] at h0;exact h0 rfl
    rw [if_neg o1] at h0 h1 h2
    by_cases o2:x.op = 2
    · rw [if_pos o2] at h0;exact h0 rfl
    rw [if_neg o2] at h0 h1 h2
    by_cases o3:x.op = 3
    · rw [if_pos o3] at h0;exact h0 rfl
    rw [if_neg o3] at h0 h1 h2
    by_cases o4:x.op = 4
    · rw [if_pos o4] at h0 h1
      cases hw:M.wr (ch8 c x) with
      | none => rw [hw] at h1;exact h1 ⟨rfl,o4⟩
      | some m => rw [hw] at h0;exact h0 rfl
    rw [if_neg o4] at h0 h1 h2
    by_cases o5:x.op = 5
    · rw [if_pos o5] at h0 h2
      split at h0
      · rename_i hq;rw [if_pos hq] at h2;exact h2 rfl
      · exact h0 rfl
    rw [if_neg o5] at h0 h1 h2
    by_cases o6:x.op = 6
    · rw [if_pos o6] at h0 h2
      cases hq:M.qs (ch8 c x) with
      | nil => rw [hq] at h2;exact h2 rfl
      | cons d r => rw [hq] at h0;exact h0 rfl
    rw [if_neg o6] at h0 h1 h2
    by_cases o7:x.op = 7
    · rw [if_pos o7] at h0
      split at h0 <;> exact h0 rfl
    rw [if_neg o7] at h0 h1 h2
    by_cases o8:x.op = 8
    · rw [if_pos o8] at h0;exact h0 rfl
    · rw [if_neg o8] at h0;exact h0 rfl
  · refine ⟨by unfold do8;rw [if_neg hz],?_⟩
    have he:ref8 c (tick8 M) x = ref8 c M x:=rfl
    unfold do8
    rw [he,if_neg hz]
/-- A model,in a law's loop. -/
structure StI (w0:World) (n0:Nat) (c:Cfg) (i mb:Nat) (w:World) (own:Nat → Tg8) (M:Md8) (Z:Mx8):Prop where
  mb:Z.b = mb
  mat:MAt w own n0 c M Z
  tk:M.t ≤ i
  bel:Below w0.heap.size w0 w
  low:w0.heap.size ≤ n0
def StE (w0:World) (n0:Nat) (c:Cfg) (i mb:Nat) (w:World):Prop:=∃ own M Z,StI w0 n0 c i mb w own M Z
section
variable {w0 w:World} {n0:Nat} {c:Cfg} {i mb:Nat} {own:Nat → Tg8} {M:Md8} {Z:Mx8}
theorem StI.later (h:StI w0 n0 c i mb w own M Z) {w':World} (hb:Below w.heap.size w w'):StI w0 n0 c i mb w' own M Z:=
  ⟨h.mb,(MAt.still h.mat hb).1,h.tk,h.bel.trans (hb.mono h.bel.size),h.low⟩
theorem StI.turn (h:StI w0 n0 c i mb w own M Z) {w':World} {M':Md8} (hT:Turn8 w own n0 c M' Z w') (ht:M'.t ≤ M.t + 1):∃ own' Z',StI w0 n0 c (i + 1) mb w' own' M' Z' ∧ Below n0 w w' ∧ (∀ k,k < w.heap.size → own' k = own k) ∧ Only (fun k => (own k).mut) w w':=by
  have hlow:=Turn8.low8 h.mat hT
  obtain ⟨own',Z',e1,-,-,h1,h2,h3⟩:=hT
  exact ⟨own',Z',⟨e1.trans h.mb,h1,by have:=h.tk;omega,h.bel.trans (hlow.mono h.low),h.low⟩,hlow,h2,h3⟩
end
/-- Acts' cells,one behind the other. -/
def asC (l:List AV):List Value:=(l.map aC).flatten
theorem asC_app (a b:List AV):asC (a ++ b) = asC a ++ asC b:=by simp [asC]
theorem asC_one (a:AV):asC [a] = aC a:=by simp [asC]
theorem asC_len:∀ l:List AV,(asC l).length = l.length * 21
  | [] => rfl
  | y :: l => by rw [show asC (y :: l) = aC y ++ asC l from by simp [asC],List.length_append,aC_len,asC_len l,List.length_cons];omega
theorem asC_at:∀ {l:List AV} {i:Nat} {e:AV},l[i]? = some e → ∀ j,j < 21 → (asC l)[i * 21 + j]? = (aC e)[j]?
  | [],i,e,h,_,_ => by simp at h
  | y :: l,0,e,h,j,hj => by
    simp at h;subst h
    rw [show asC (y :: l) = aC y ++ asC l from by simp [asC],Nat.zero_mul,Nat.zero_add,List.getElem?_append_left (by rw [aC_len];exact hj)]
  | y :: l,i + 1,e,h,j,hj => by
    have ih:=asC_at (l:=l) (i:=i) (e:=e) (by simpa using h) j hj
    rw [show asC (y :: l) = aC y ++ asC l from by simp [asC],List.getElem?_append_right (by rw [aC_len];omega),aC_len,show (i + 1) * 21 + j - 21 = i * 21 + j by omega]
    exact ih
theorem aC_ones (a:AV):∀ u ∈ aC a,u.oneCell' = true:=fun u hu => by
  have h:=aC_one a
  simp only [List.all_toArray] at h
  exact List.all_eq_true.1 h u hu
theorem asC_ones (l:List AV):∀ u ∈ asC l,u.oneCell' = true:=fun u hu => by
  unfold asC at hu
  rw [List.mem_flatten] at hu
  obtain ⟨cs,hcs,hu⟩:=hu
  obtain ⟨x,_,rfl⟩:=List.mem_map.1 hcs
  exact aC_ones x u hu
theorem acts_news {w:World} {B:Nat} {a:Addr} {l:List AV} (h:ARow w B (some a) l):∀ j u,(asC l)[j]? = some u → w.cell? (a.add j) = some u:=by
  intro j u hj
  have hjl:j < l.length * 21:=by have:=(List.getElem?_eq_some_iff.1 hj).1;rw [asC_len] at this;exact this
  obtain ⟨b,o,hA,_,hc⟩:=h (by omega)
  cases hA
  have hi:j / 21 < l.length:=by omega
  have hx:l[j / 21]? = some l[j / 21]:=List.getElem?_eq_getElem hi
  have h1:=asC_at hx (j % 21) (by omega)
  rw [show j / 21 * 21 + j % 21 = j by omega,hj] at h1
  obtain ⟨k1,k2,-,-⟩:=hc _ _ hx
  have h2:=(ActAt.mk k1 k2) (j % 21) u h1.symm
  rw [Addr.add_lit]
  rw [show o + j / 21 * 21 + j % 21 = o + j by omega] at h2
  exact h2
theorem infoA21:(Tryz.prog.info? 46).map (fun i => (i.zero,i.size,i.bytes)) = some (some (.agg #[.int .i64 0,.int .i64 0,.int .i64 0,.int .i64 0,.int .u64 0,.slice none 0 0,.int .i64 0,.slice none 0 0,.bool false,.int .i64 0,.bool false,.int .i64 0,.int .i64 0,.int .i64 0,.int .i64 0,.int .i64 0,.int .i64 0,.int .i64 0,.int .i64 0,.int .i64 0,.int .i64 0]),21,200):=by kernel_rfl
theorem bytesA:Tryz.prog.bytesOf 46 = 200:=by kernel_rfl
/-- A list of acts is appended to a list of the call's own. -/
theorem run_append_acts (w:World) (base:Nat) (ty:TypeId) (v:Value) (n:Nat) (xs:List Value) (hown:OwnsOff w base 46 21 v n xs) (A:Option Addr) (k:Nat) (l:List AV) (hrow:ARow w w.heap.size A l) (hnil:A = none → l = [])
    (h63:n + l.length ≤ maxLen) (hbytes:(n + l.length) * 200 ≤ 140737488355328) (hbase:base ≤ w.heap.size) :
    ∃ v' w',(Builtin.append_ #[30,30] ty #[v,.slice A l.length k]).run Tryz.prog w = .ok v' w' ∧ OwnsOff w' base 46 21 v' (n + l.length) (xs ++ asC l) ∧ w.grownBy w' v.ownBlock ∧
      (∀ g,v'.ownBlock = some g → v.ownBlock = some g ∨ w.heap.size ≤ g):=by
  obtain ⟨i,hi,hz,hs,hb⟩:=info_parts infoA21
  cases A with
  | some a => exact run_append_off (P:=Tryz.prog) w base 30 ty 46 i _ 21 200 Tryz.underlying30 hi hz hs hb rfl (by decide) v n xs hown a l.length k (asC l) (asC_len l) (acts_news hrow) (asC_ones l) h63 hbytes hbase
  | none =>
    obtain rfl:=hnil rfl
    refine ⟨v,w,?_,by simpa [asC] using hown,⟨rfl,rfl,rfl,Nat.le_refl _,fun _ _ _ => rfl⟩,fun g h => .inl h⟩
    rcases hown.2 with ⟨rfl,rfl⟩ | ⟨g,off,cap,cur,rfl,hb,hg,hnc,hcm,hcs,htk⟩
    · simp [Builtin.append_,run_underlying Tryz.underlying30,sizeOf,typeInfo,hi,Builtin.lenOf,Builtin.firstCells]
    · simp [Builtin.append_,run_underlying Tryz.underlying30,sizeOf,typeInfo,hi,Builtin.lenOf,Builtin.firstCells,hnc,storeCells]
/-- The same,as a step of a region that draws. -/
theorem step_append_acts {ops:Array Oper} {o:Oper} {a:Act} {w:World} {K:Act → World → Prop} {Q:Exit → Act → World → Prop} {E:Prop} (hgd:o.guard = none) (s x:Operand)
    (ho:o.op = .call { callee:=.builtin .append,args:=#[s,x],argTypes:=#[30,30] }) (base:Nat) (v:Value) (n:Nat) (xs:List Value) (hs:a.eval s = v) (hown:OwnsOff w base 46 21 v n xs) (A:Option Addr) (k:Nat) (l:List AV) (hx:a.eval x = .slice A l.length k) (hrow:ARow w w.heap.size A l) (hnil:A = none → l = [])
    (h63:n + l.length ≤ maxLen) (hbytes:(n + l.length) * 200 ≤ 140737488355328) (hbase:base ≤ w.heap.size)
    (h:∀ v' w',OwnsOff w' base 46 21 v' (n + l.length) (xs ++ asC l) → w.grownBy w' v.ownBlock → (∀ g,v'.ownBlock = some g → v.ownBlock = some g ∨ w.heap.size ≤ g) → K (a.put o.dst v') w') :
    if Region.wanted o (yielded ops a.tmps) = true then Oper.wp Tryz.prog o a w K Q else E:=by
  have hw':Region.wanted o (yielded ops a.tmps) = true:=by simp [Region.wanted,hgd]
  rw [if_pos hw']
  obtain ⟨v',w',hrun,r1,r2,r3⟩:=run_append_acts w base o.type v n xs hown A k l hrow hnil h63 hbytes hbase
  unfold Oper.wp
  simp [execOp,ho,resolve,invoke,builtin,hs,hx,hrun,Result.andThen]
  exact h v' w' r1 r2 r3
theorem fill_act (e:AV):Instr.fill (fun i => some (i * 21,21)) ((Array.range (1 * 21)).map ((Value.agg #[.int .i64 0,.int .i64 0,.int .i64 0,.int .i64 0,.int .u64 0,.slice none 0 0,.int .i64 0,.slice none 0 0,.bool false,.int .i64 0,.bool false,.int .i64 0,.int .i64 0,.int .i64 0,.int .i64 0,.int .i64 0,.int .i64 0,.int .i64 0,.int .i64 0,.int .i64 0,.int .i64 0]).cells[· % (Value.agg #[.int .i64 0,.int .i64 0,.int .i64 0,.int .i64 0,.int .u64 0,.slice none 0 0,.int .i64 0,.slice none 0 0,.bool false,.int .i64 0,.bool false,.int .i64 0,.int .i64 0,.int .i64 0,.int .i64 0,.int .i64 0,.int .i64 0,.int .i64 0,.int .i64 0,.int .i64 0,.int .i64 0]).cells.size]!)) [(0,.agg (aC e).toArray)] = some (aC e).toArray:=by
  unfold aC cCells;kernel_rfl
theorem built_act (x:CV):Tryz.prog.built 46 [(1,.agg (cCells x).toArray)] = some (aC ⟨0,x⟩).toArray:=by
  unfold aC cCells;kernel_rfl
/-- A list of one act,as a step of a region that draws. -/
theorem step_slice_act {ops:Array Oper} {o:Oper} {a:Act} {w:World} {K:Act → World → Prop} {Q:Exit → Act → World → Prop} {E:Prop} (hgd:o.guard = none) (parts:Array (Nat × Operand)) (ho:o.op = .buildSlice 30 1 parts) (e:AV) (hp:(parts.map fun (i,x) => (i,a.eval x)).toList = [(0,.agg (aC e).toArray)])
    (h:K (a.put o.dst (.slice (some ⟨w.heap.size,0,none⟩) 1 1)) (w.alloc (.cells (aC e).toArray 46))):if Region.wanted o (yielded ops a.tmps) = true then Oper.wp Tryz.prog o a w K Q else E:=by
  have hw':Region.wanted o (yielded ops a.tmps) = true:=by simp [Region.wanted,hgd]
  rw [if_pos hw']
  obtain ⟨i,hi,hz,hs,hb⟩:=info_parts infoA21
  refine wp_buildSlice 30 46 1 parts ho _ i _ Tryz.underlying30 hi hz (by rw [hs];decide) (by rw [hs];decide) ?_ h
  rw [hp,hs]
  exact fill_act e
theorem held_build {ops:Array Oper} {St:World → Prop} {o:Oper} {a:Act} (hgd:o.guard = none) (t:TypeId) (parts:Array (Nat × Operand)) (ho:o.op = .build t parts) (ps:List (Nat × Value)) (cells:Array Value) (hb:Tryz.prog.built t ps = some cells) (hp:(parts.map fun (i,x) => (i,a.eval x)).toList = ps):YieldsIf Tryz.prog ops St o (.agg cells) a:=
  Or.inl ⟨by simp [Region.wanted,hgd],fun w _ => by
    simp only [execOp,ho,Sem.run_bind,run_build w t _ cells (by rw [hp];exact hb),Result.andThen_ok]
    rfl⟩
theorem held_loadC {ops:Array Oper} {St:World → Prop} {o:Oper} {a:Act} (hwt:Region.wanted o (yielded ops a.tmps) = true) (x:Operand) (ho:o.op = .load 44 x) (b k:Nat) (v:CV) (hx:a.eval x = .pointer (some ⟨b,k,none⟩)) (hc:∀ w,St w → CAt w b k v):YieldsIf Tryz.prog ops St o (.agg (cCells v).toArray) a:=
  Or.inl ⟨hwt,fun w hw => by
    have h:=CAt.load (hc w hw)
    simp only [execOp,ho,hx,Sem.run_bind,h,Result.andThen_ok]
    rfl⟩
/-- A list of acts of the call's own,as a row. -/
theorem arow_own {w:World} {base:Nat} {v:Value} {l:List AV} (h:OwnsOff w base 46 21 v l.length (asC l)) (hf:∀ (i:Nat) (a:AV),l[i]? = some a → CRows w w.heap.size a.x ∧ CWf a.x):∃ A k,v = .slice A l.length k ∧ ARow w w.heap.size A l:=by
  obtain ⟨A,k,rfl,-,-⟩:=OwnsOff.slice h
  refine ⟨A,k,rfl,fun hn => ?_⟩
  obtain ⟨g,off,cap,hv,_,hg,_,_,_,hc⟩:=OwnsOff.lies h hn
  cases hv
  refine ⟨g,off,rfl,hg,fun i e he => ?_⟩
  obtain ⟨h1,h2⟩:=hf i e he
  have hq:ActAt w g (off + i * 21) e:=fun j v hv => by
    rw [Nat.add_assoc]
    exact hc _ v ((asC_at he j (by have:=(List.getElem?_eq_some_iff.1 hv).1;rw [aC_len] at this;exact this)).trans hv)
  exact ⟨hq.kind,hq.call,h1,h2⟩
structure Lock9 (T:Prop):Prop where
  get:T
theorem cut9 {T G:Prop} (six:T) (body:Lock9 T → G):G:=body ⟨six⟩
/-- Standings in a list: where one stood,and where its rows lie. -/
structure RR where
  p:Int
  s:St8
  A1:Option Addr
  k1:Nat
  A2:Option Addr
  k2:Nat
def rC (r:RR):List Value:=[.int .i64 r.p,.bool r.s.sn,.slice r.A1 r.s.made.length r.k1,.slice r.A2 r.s.valid.length r.k2]
def rsC (l:List RR):List Value:=(l.map rC).flatten
theorem rsC_app (a b:List RR):rsC (a ++ b) = rsC a ++ rsC b:=by simp [rsC]
theorem rsC_one (r:RR):rsC [r] = rC r:=by simp [rsC]
theorem rsC_at:∀ {l:List RR} {i:Nat} {e:RR},l[i]? = some e → ∀ j,j < 4 → (rsC l)[i * 4 + j]? = (rC e)[j]?
  | [],i,e,h,_,_ => by simp at h
  | y :: l,0,e,h,j,hj => by
    simp at h;subst h
    rw [show rsC (y :: l) = rC y ++ rsC l from by simp [rsC],Nat.zero_mul,Nat.zero_add,List.getElem?_append_left (by show j < 4;exact hj)]
  | y :: l,i + 1,e,h,j,hj => by
    have ih:=rsC_at (l:=l) (i:=i) (e:=e) (by simpa using h) j hj
    rw [show rsC (y :: l) = rC y ++ rsC l from by simp [rsC],List.getElem?_append_right (by show 4 ≤ _;omega),show (i + 1) * 4 + j - (rC y).length = i * 4 + j by show (i + 1) * 4 + j - 4 = _;omega]
    exact ih
/-- The list of the standings of the partitions 0 .. p - 1 of M. -/
structure WasAt (w:World) (own:Nat → Tg8) (n0:Nat) (M:Md8) (v:Value) (p:Nat) (l:List RR):Prop where
  len:l.length = p
  own_:OwnsOff w n0 59 4 v p (rsC l)
  off:∀ g,v.ownBlock = some g → own g = .free
  at_:∀ (j:Nat) (r:RR),l[j]? = some r → r.p = (j:Int) ∧ r.s = st8 M (j:Int) ∧ IntRowK .i64 w w.heap.size r.A1 r.s.made ∧ IntRowK .i64 w w.heap.size r.A2 r.s.valid ∧ (0 < r.s.made.length → ∀ a,r.A1 = some a → own a.block = .free ∧ v.ownBlock ≠ some a.block) ∧ (0 < r.s.valid.length → ∀ a,r.A2 = some a → own a.block = .free ∧ v.ownBlock ≠ some a.block)
theorem WasAt.nil (w:World) (own:Nat → Tg8) (n0:Nat) (M:Md8):WasAt w own n0 M (.slice none 0 0) 0 []:=⟨rfl,OwnsOff.nil _ _ _ _,(fun g h => by cases h),(fun j r h => by simp at h)⟩
section
variable {w w':World} {own own':Nat → Tg8} {n0 p:Nat} {M:Md8} {v v':Value} {l:List RR}
theorem WasAt.later (h:WasAt w own n0 M v p l) (hb:Below w.heap.size w w'):WasAt w' own n0 M v p l:=
  ⟨h.len,h.own_.keptB hb,h.off,fun j r hj => by obtain ⟨a,b,c,d,e,f⟩:=h.at_ j r hj;exact ⟨a,b,c.later8 hb,d.later8 hb,e,f⟩⟩
theorem row_lt9 {K:IntKind} {B:Nat} {A:Option Addr} {q:List Int} (h:IntRowK K w B A q) (hn:0 < q.length):∀ a,A = some a → a.block < B:=by
  obtain ⟨b,o,rfl,hlt,-⟩:=h hn
  intro a e;cases e;exact hlt
theorem WasAt.turn (h:WasAt w own n0 M v p l) (he:∀ k,k < w.heap.size → own' k = own k) (ho:Only (fun k => (own k).mut) w w'):WasAt w' own' n0 M v p l:=
  ⟨h.len,h.own_.kept ho (fun k hk hm => by rw [h.off k hk] at hm;exact hm),fun g hg => by rw [he g (h.own_.lt g hg).2];exact h.off g hg,fun j r hj => by
    obtain ⟨a,b,c,d,e,f⟩:=h.at_ j r hj
    refine ⟨a,b,(c.only8 (Nat.le_refl _) ho (fun hn q hq hm => by rw [(e hn q hq).1] at hm;exact hm)).more ho.size,(d.only8 (Nat.le_refl _) ho (fun hn q hq hm => by rw [(f hn q hq).1] at hm;exact hm)).more ho.size,fun hn q hq => ?_,fun hn q hq => ?_⟩
    · exact ⟨by rw [he _ (row_lt9 c hn q hq)];exact (e hn q hq).1,(e hn q hq).2⟩
    · exact ⟨by rw [he _ (row_lt9 d hn q hq)];exact (f hn q hq).1,(f hn q hq).2⟩⟩
/-- One more: the list has grown. -/
theorem WasAt.grow {c:Cfg} {A:Mx8} (hM:MAt w own n0 c M A) {tmp:Obj} (h:WasAt w own n0 M v p l) (r:RR) (hr:r.p = (p:Int) ∧ r.s = st8 M (p:Int)) (h1:IntRowK .i64 w w.heap.size r.A1 r.s.made) (h2:IntRowK .i64 w w.heap.size r.A2 r.s.valid) (h3:0 < r.s.made.length → ∀ a,r.A1 = some a → own a.block = .free ∧ v.ownBlock ≠ some a.block) (h4:0 < r.s.valid.length → ∀ a,r.A2 = some a → own a.block = .free ∧ v.ownBlock ≠ some a.block)
    (ho:OwnsOff w' n0 59 4 v' (p + 1) (rsC l ++ rC r)) (hg:(w.alloc tmp).grownBy w' v.ownBlock) (hfr:∀ g,v'.ownBlock = some g → v.ownBlock = some g ∨ w.heap.size + 1 ≤ g):MAt w' own n0 c M A ∧ WasAt w' own n0 M v' (p + 1) (l ++ [r]) ∧ Below n0 w w':=by
  have hb1:Below w.heap.size w (w.alloc tmp):=(Below.refl _ _).alloc (Nat.le_refl _) _
  have hO:Only (fun k => v.ownBlock = some k) w w':=(Only.of_below hb1).trans ((Only.of_grown hg).mono fun k _ e => e.symm)
  have hkeep:∀ (q:List Int) (B:Option Addr),IntRowK .i64 w w.heap.size B q → (0 < q.length → ∀ a,B = some a → own a.block = .free ∧ v.ownBlock ≠ some a.block) → IntRowK .i64 w' w'.heap.size B q ∧ (0 < q.length → ∀ a,B = some a → own a.block = .free ∧ v'.ownBlock ≠ some a.block):=fun q B hq hf => by
    have h5:=hq.later8 hb1
    refine ⟨(h5.only8 (Nat.le_refl _) (Only.of_grown hg) (fun hn a ha e => (hf hn a ha).2 e.symm)).more hg.size,fun hn a ha => ⟨(hf hn a ha).1,fun e => ?_⟩⟩
    rcases hfr _ e with h6 | h6
    · exact (hf hn a ha).2 h6
    · have:=row_lt9 hq hn a ha;omega
  refine ⟨MAt.later hM hO (fun _ _ => rfl) (fun k hk => hM.free k (Nat.le_trans hO.size hk)) hM.base (fun k _ e => h.off k e),⟨by rw [List.length_append,h.len];rfl,by rw [rsC_app,rsC_one];exact ho,fun g hgv => ?_,fun j r' hj => ?_⟩,hO.below hM.n0le (fun k e => (OwnsOff.lt h.own_ k e).1)⟩
  · rcases hfr g hgv with h5 | h5
    · exact h.off g h5
    · exact hM.free g (by omega)
  · by_cases hjl:j < l.length
    · rw [List.getElem?_append_left hjl] at hj
      obtain ⟨a,b,c,d,e,f⟩:=h.at_ j r' hj
      exact ⟨a,b,(hkeep _ _ c e).1,(hkeep _ _ d f).1,(hkeep _ _ c e).2,(hkeep _ _ d f).2⟩
    · have hjl2:j = l.length:=by have:=(List.getElem?_eq_some_iff.1 hj).1;simp at this;omega
      subst hjl2
      simp at hj;subst hj
      rw [h.len]
      exact ⟨hr.1,hr.2,(hkeep _ _ h1 h3).1,(hkeep _ _ h2 h4).1,(hkeep _ _ h1 h3).2,(hkeep _ _ h2 h4).2⟩
end
end Go.Proofs.YtheeiklgblcjfaaGreatDoor
end
