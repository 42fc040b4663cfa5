/- Texts of the ring, joined, what is used of them. No condition but those in the statements. -/
import Derived.Test.YtheeiklgblcjfaaGreatDoorRows
import Derived.ArgAppend
import Derived.BigQuiet
import Derived.ChangeSlices
import Derived.LaidMore
import Derived.Lib.Hide
import Derived.Lib.QuietBelow
import Derived.OpenShut
import Derived.OwnWalk
import Derived.OwnWalkIn
import Derived.ProofKit
import Derived.RangeFuncBox
import Derived.Stop.Joined
import Derived.WalkKit
import Derived.WalkLawsBesides
import Derived.WalkSpells
section
namespace Go.Proofs.YtheeiklgblcjfaaGreatDoor
open Go.RowKit Go.Sort
section
variable {P:Program} {ops:Array Oper} {C:World → Prop}
/-- A plain region's list,walked quietly. -/
theorem wpList_of_quiet {Q:Act → Prop} {Q':Exit → Act → World → Prop} (hQ:∀ a w,C w → Q a → Q' .normal a w):∀ (l:List Oper) (a:Act) (w:World),C w →
    wpQuiet P ops C Q l a → wpList P ops Q' l a w
  | [],a,w,hC,h => wpList_nil (hQ a w hC h)
  | o :: l,a,w,hC,h => by
    unfold wpQuiet at h
    unfold wpList
    split
    · rename_i hw;rw [if_pos hw] at h
      exact .inl (Oper.wp_of_quiet hC (fun a' w' hw' h' => wpList_of_quiet hQ l a' w' hw' h') h)
    · rename_i hw;rw [if_neg hw] at h
      exact wpList_of_quiet hQ l _ w hC h
end
theorem wpQuiet_mono {P:Program} {ops:Array Oper} {C:World → Prop} {Q Q':Act → Prop} (h:∀ a,Q a → Q' a):∀ (l:List Oper) (a:Act),wpQuiet P ops C Q l a → wpQuiet P ops C Q' l a
  | [],a,hh => h a hh
  | o :: l,a,hh => by
    unfold wpQuiet at hh ⊢
    split
    · rename_i hw;rw [if_pos hw] at hh;exact Oper.quiet_mono (fun a' => wpQuiet_mono h l a') hh
    · rename_i hw;rw [if_neg hw] at hh;exact wpQuiet_mono h l _ hh
theorem regrown_refl (w:World):∃ p:Regrown,w = grow (redrawn w p.d) p.os:=regrown_of_below (Below.refl _ _)
/-- THE CLASS: the worlds that are as W below W's blocks. A list of operations of a plain region,from a world of the class: behind it some world of the class. -/
theorem wpList_on {P:Program} {ops:Array Oper} {Q:Exit → Act → World → Prop} {a:Act} {W w:World} {l:List Oper} (hw:Below W.heap.size W w)
    (h:wpQuiet P ops (fun w' => ∃ p:Regrown,w' = grow (redrawn W p.d) p.os) (fun a' => ∀ w',Below W.heap.size W w' → Q .normal a' w') l a):wpList P ops Q l a w:=
  wpList_of_quiet (C:=fun w' => ∃ p:Regrown,w' = grow (redrawn W p.d) p.os) (fun _ _ ⟨p,hp⟩ hq => hq _ (by rw [hp];exact below_regrown W p.d p.os)) l a w (regrown_of_below hw) h
/-- A region that draws its order. -/
theorem wp_on {P:Program} {id:Nat} {Q:Exit → Act → World → Prop} {a:Act} {W w:World} {l:List Oper} (hw:Below W.heap.size W w) (hm:P.follows .mixedOrders = true) (hB:Region.lexB .any l.toArray = true)
    (h:wpQuiet P l.toArray (fun w' => ∃ p:Regrown,w' = grow (redrawn W p.d) p.os) (fun a' => ∀ w',Below W.heap.size W w' → Q .normal a' w') l a):(Code.region id l.toArray true).wp P Q a w:=
  wp_region_quiet (C:=fun w' => ∃ p:Regrown,w' = grow (redrawn W p.d) p.os) hm hB (regrown_of_below (hw.trans ⟨rfl,rfl,rfl,Nat.le_refl _,fun _ _ => rfl⟩))
    (wpQuiet_mono (fun _ hq w' hp => by obtain ⟨p,hp⟩:=hp;exact hq w' (by rw [hp];exact below_regrown W p.d p.os)) l a h)
/-- What a cell of an old block holds in every world that a quiet walk may meet. -/
theorem cell_on {W W':World} {a:Addr} {v:Value} (h:∀ p:Regrown,(grow (redrawn W p.d) p.os).cell? a = some v) (hb:Below W.heap.size W W'):∀ p:Regrown,(grow (redrawn W' p.d) p.os).cell? a = some v:=by
  intro p
  obtain ⟨q,hq⟩:=regrown_of_below (hb.trans ((below_regrown W' p.d p.os).mono hb.size))
  rw [hq];exact h q
theorem cell_of {W:World} {a:Addr} {v:Value} (h:∀ p:Regrown,(grow (redrawn W p.d) p.os).cell? a = some v):W.cell? a = some v:=by
  obtain ⟨q,hq⟩:=regrown_refl W
  rw [hq];exact h q
/-- A contract's Bool,where the context says which one it is. -/
theorem regrown_is {P:Program} {f:FuncId} {args:Array Value} {w:World} {d:Nat} {os:Array Obj} {v b:Bool} (h:v = b)
    (hc:Calls P f args (grow (redrawn w d) os) fun e w' => e = .returned (.bool v) ∧ Below (grow (redrawn w d) os).heap.size (grow (redrawn w d) os) w'):Calls P f args (grow (redrawn w d) os) fun e w'' => e = .returned (.bool b) ∧ ∃ p:Regrown,w'' = grow (redrawn w p.d) p.os:=by
  subst h;exact Calls.regrown_of hc
/-- A struct of two cells in a box. -/
theorem one_box (w:World) (v0 v1:Value) (t:TypeId):∃ W,Hid (W = w.alloc (.cells #[v0,v1] t)) ∧ Below w.heap.size w W ∧ w.heap.size < W.heap.size ∧
    (∀ p:Regrown,(grow (redrawn W p.d) p.os).cell? ⟨w.heap.size,0,none⟩ = some v0) ∧ (∀ p:Regrown,(grow (redrawn W p.d) p.os).cell? ⟨w.heap.size,1,none⟩ = some v1):=
  ⟨_,rfl,((Below.refl _ _).alloc (Nat.le_refl _) _),by simp,fun p => cell_regrown (by go_simp) _ _,fun p => cell_regrown (by go_simp) _ _⟩
theorem bool_of {a:Bool} {p:Prop} (h:a = true ↔ p):(p → a = true) ∧ (¬ p → a = false):=
  ⟨h.2,fun hn => by cases a <;> simp_all⟩
end Go.Proofs.YtheeiklgblcjfaaGreatDoor
end
section
namespace Go.Proofs.YtheeiklgblcjfaaGreatDoor
open Go.RowKit Go.Sort
set_option linter.unusedVariables false
set_option linter.unusedSimpArgs false
set_option linter.unusedVariables false
set_option linter.unusedSimpArgs false
def tabL:List ByteArray:=[⟨#[99,114,101,97,116,101]⟩,⟨#[110,111,114,109,97,108]⟩,⟨#[119,114,105,116,101]⟩,⟨#[114,101,97,100]⟩,⟨#[115,101,110,100]⟩,⟨#[114,101,99,101,105,118,101]⟩,⟨#[115,116,97,116,117,115]⟩,⟨#[112,101,101,107]⟩,⟨#[112,111,107,101]⟩]
/-- The table holds its texts. -/
def TabsAt (w:World):Prop:=0 < w.heap.size ∧ ∀ i (h:i < 9),w.cell? ⟨0,i,none⟩ = some (.string (tabL.getD i ⟨#[]⟩))
theorem TabsAt.later {w w':World} (h:TabsAt w) (hb:Below w.heap.size w w'):TabsAt w':=⟨Nat.lt_of_lt_of_le h.1 hb.size,fun i hi => (hb.cell (p:=⟨0,i,none⟩) h.1).trans (h.2 i hi)⟩
end Go.Proofs.YtheeiklgblcjfaaGreatDoor
end
section
namespace Go.Proofs.YtheeiklgblcjfaaGreatDoor
open Go.ChangeShapes Go.WideShapes Go.ChangeAt Go.RowKit
set_option linter.unusedVariables false
theorem gTab:Tryz.prog.globalNamed "porthole/sign.words" = some 0:=by kernel_rfl
theorem tTab:(Tryz.prog.globals[0]?).map (·.type) = some 186:=by kernel_rfl
def laidL:List (String × DataW Unit):=[("porthole/sign.words",Rows.laid_porthole_sign_words)]
theorem door_met (os:Os) (args:Array Value):laidMetH Tryz.prog laidL ((World.doorLaid Tryz.prog 400 os).forCall (fun _ _ => 0) ⟨#[],args,[]⟩).memory:=
  laidMetH_of_parts3 (fuel:=8) (laidMet_of_run' 8 (by kernel_rfl) (by kernel_rfl)) (by kernel_rfl) (by kernel_rfl)
theorem bytes_eq {s t:ByteArray} (h:s.data.toList = t.data.toList):s = t:=by
  cases s;cases t
  simp at h
  exact congrArg _ h
theorem of_laid {W:World} (h:laidMetH Tryz.prog laidL W):TabsAt W:=by
  rw [MakeChecks.laidMetH_plain _ _ _ (by kernel_rfl)] at h
  obtain ⟨ps,⟨g0,t0,cs0,f0,p0,q0,hg0,ht0,hv0,hd0,_,_⟩,_,_⟩:=h
  obtain rfl:=Option.some.inj (gTab.symm.trans hg0)
  obtain rfl:=Option.some.inj (tTab.symm.trans ht0)
  obtain ⟨xs,m1,_,hx1,hlen,hn3,hel⟩:=DataW.trod_array Tryz.underlying186 hd0
  have c9:Tryz.prog.cellsOf 9 = 1:=by kernel_rfl
  simp only [Prod.mk.injEq] at hx1
  have hx2:=hx1.1
  have cellAt:∀ i (hi:i < 9),W.cell? ⟨0,i,none⟩ = some (.string (tabL.getD i ⟨#[]⟩)):=by
    intro i hi
    have he:=hel i hi
    have hix:i < xs.length:=by omega
    rw [c9,List.getElem?_eq_getElem hix] at he
    obtain ⟨s,e1,e2,_⟩:=DataW.trod_string Tryz.underlying9 he
    have hv:=World.var?_cell hg0 hv0 i
    have hc:cs0[i]? = some (.string s):=by
      have h0:=congrArg (fun l => l[0]?) e1
      simpa using h0
    have hd:=congrArg (fun d => match d with | DataW.agg l => l[i]? | _ => none) hx2
    have hd2:(tabL.map (fun b => (DataW.lit (.string b.data.toList):DataW Unit)))[i]? = (xs.map (·.1))[i]?:=hd
    have hit:i < tabL.length:=hi
    rw [List.getElem?_map,List.getElem?_map,List.getElem?_eq_getElem hix,List.getElem?_eq_getElem hit,e2] at hd2
    simp only [Option.map_some,Option.some.injEq,DataW.lit.injEq,Lit.string.injEq] at hd2
    rw [hv,hc,bytes_eq hd2.symm,List.getD_eq_getElem?_getD,List.getElem?_eq_getElem hit]
    rfl
  exact ⟨World.block_lt_of_cell? W _ (cellAt 0 (by decide)),cellAt⟩
end Go.Proofs.YtheeiklgblcjfaaGreatDoor
end
section
namespace Go.Proofs.YtheeiklgblcjfaaGreatDoor
open Go.RowKit Go.Sort Go.ChangeShapes Go.WideShapes
/-- A slice's row of integers of kind k,at a block below number B. -/
def IntRowK (k:IntKind) (w:World) (B:Nat) (A:Option Addr) (xs:List Int):Prop:=
  0 < xs.length → ∃ b o,A = some ⟨b,o,none⟩ ∧ b < B ∧ ∀ i,i < xs.length → w.cell? ⟨b,o + i,none⟩ = some (.int k (xs.getD i 0))
theorem IntRowK.below {k:IntKind} {w w':World} {B:Nat} {A:Option Addr} {l:List Int} (h:IntRowK k w B A l) (hb:Below B w w'):IntRowK k w' B A l:=fun hn => by
  obtain ⟨b,o,hA,hlt,hc⟩:=h hn
  exact ⟨b,o,hA,hlt,fun i hi => (hb.cell (p:=⟨b,o + i,none⟩) hlt).trans (hc i hi)⟩
theorem IntRowK.more {k:IntKind} {w:World} {B B':Nat} {A:Option Addr} {l:List Int} (h:IntRowK k w B A l) (hb:B ≤ B'):IntRowK k w B' A l:=fun hn => by
  obtain ⟨b,o,hA,hlt,hc⟩:=h hn
  exact ⟨b,o,hA,by omega,hc⟩
/-- The integer at place i,in every world that is as w below B. -/
theorem IntRowK.at_ {k:IntKind} {w:World} {B:Nat} {A:Option Addr} {l:List Int} (h:IntRowK k w B A l) {i:Nat} (hi:i < l.length):∃ b o,A = some ⟨b,o,none⟩ ∧ b < B ∧
    ∀ w',Below B w w' → w'.cell? ⟨b,o + i,none⟩ = some (.int k (l.getD i 0)):=by
  obtain ⟨b,o,hA,hlt,hc⟩:=h (by omega)
  exact ⟨b,o,hA,hlt,fun w' hb => (hb.cell (p:=⟨b,o + i,none⟩) hlt).trans (hc i hi)⟩
theorem ints_argK {H:Type} {enc:TypeId × Value → H} {P:Program} {W:World} {t e:TypeId} {a:Option Addr} {len cap:Nat} {d:DataW H} {p:List MemPlace} (k:IntKind)
    (ht:P.underlying t = some (.slice e)) (he:P.underlying e = some (.int k)) (ce:P.cellsOf e = 1)
    (h:DataW.Trod enc P W 0 (fun _ => true) true t (.slice a len cap) d p) :
    ∃ l:List Int,len = l.length ∧ len ≤ cap ∧ cap ≤ maxLen ∧ (a = none → l = []) ∧ IntRowK k W W.heap.size a l ∧ ∀ q ∈ l,(Lit.int k q).wf = true:=by
  obtain ⟨fuel,hf⟩:=h
  rcases open_ints ht he ce hf with ⟨hcs,_⟩ | ⟨a',len',cap',zs,hcs,_,hl,hm,hzl,_,hx,hw⟩
  · simp [Value.cells] at hcs
    obtain ⟨rfl,rfl,rfl⟩:=hcs
    exact ⟨[],rfl,Nat.le_refl _,by unfold maxLen;omega,fun _ => rfl,(fun h => by simp at h),fun q hq => by cases hq⟩
  · simp [Value.cells] at hcs
    obtain ⟨rfl,rfl,rfl⟩:=hcs
    simp at hzl
    refine ⟨zs.take len,by simp;omega,hl,hm,(fun h => by cases h),fun hp => ?_,fun q hq => hw q (List.mem_of_mem_take hq)⟩
    simp at hp
    obtain ⟨b,off,spot⟩:=a'
    have hc:=hx 0 (by omega)
    have hspot:spot = none:=by simpa [Addr.add] using World.cell?_spot hc
    subst hspot
    have hblk:b < W.heap.size:=by
      have:=World.block_lt_of_cell? W _ hc
      simpa [Addr.add] using this
    refine ⟨b,off,rfl,hblk,fun i hi => ?_⟩
    simp at hi
    have h1:=hx i (by omega)
    have ea:(⟨b,off,none⟩:Addr).add i = ⟨b,off + i,none⟩:=Addr.add_lit ..
    rw [ea] at h1
    rw [h1]
    congr 2
    have hz:i < zs.length:=by omega
    simp [List.getD_eq_getElem?_getD,hi,hz]
theorem IntRowK.take {K:IntKind} {w:World} {B:Nat} {A:Option Addr} {l:List Int} (h:IntRowK K w B A l) (k:Nat):IntRowK K w B A (l.take k):=fun hp => by
  simp at hp
  obtain ⟨b,o,rfl,hb,hcell⟩:=h (by omega)
  refine ⟨b,o,rfl,hb,fun j hj => ?_⟩
  simp at hj
  rw [hcell j (by omega)]
  have hj2:j < l.length:=by omega
  simp [List.getD_eq_getElem?_getD,hj,hj2]
end Go.Proofs.YtheeiklgblcjfaaGreatDoor
end
section
namespace Go.Proofs.YtheeiklgblcjfaaGreatDoor
open Go.RowKit Go.Sort
/-- A slice into a block of the call's own,from whatever place of it on. -/
def OwnsOff (w:World) (base:Nat) (e:TypeId) (size:Nat) (v:Value) (n:Nat) (xs:List Value):Prop:=
  xs.length = n * size ∧ ((v = .slice none 0 0 ∧ n = 0) ∨
    ∃ g off cap cur,v = .slice (some ⟨g,off,none⟩) n cap ∧ base ≤ g ∧ w.heap[g]? = some (.cells cur e (0,0)) ∧ n ≤ cap ∧ cap ≤ maxLen ∧ off + cap * size ≤ cur.size ∧ (cur.toList.drop off).take (n * size) = xs)
/-- Only blocks of S have turned,of those that were there. -/
structure Only (S:Nat → Prop) (w w':World):Prop where
  os:w'.os = w.os
  tape:w'.tape = w.tape
  output:w'.output = w.output
  size:w.heap.size ≤ w'.heap.size
  block:∀ k,k < w.heap.size → ¬ S k → w'.heap[k]? = w.heap[k]?
theorem Only.refl (S:Nat → Prop) (w:World):Only S w w:=⟨rfl,rfl,rfl,Nat.le_refl _,fun _ _ _ => rfl⟩
theorem Only.trans {S:Nat → Prop} {a b c:World} (h:Only S a b) (k:Only S b c):Only S a c:=
  ⟨k.os.trans h.os,k.tape.trans h.tape,k.output.trans h.output,Nat.le_trans h.size k.size,fun i hi hs => (k.block i (Nat.lt_of_lt_of_le hi h.size) hs).trans (h.block i hi hs)⟩
theorem Only.mono {S T:Nat → Prop} {w w':World} (h:Only S w w') (hs:∀ k,k < w.heap.size → S k → T k):Only T w w':=
  ⟨h.os,h.tape,h.output,h.size,fun k hk ht => h.block k hk (fun s => ht (hs k hk s))⟩
theorem Only.of_below {S:Nat → Prop} {w w':World} (h:Below w.heap.size w w'):Only S w w':=⟨h.os,h.tape,h.output,h.size,fun k hk _ => h.block k hk⟩
theorem Only.of_grown {w w':World} {row:Option Nat} (h:w.grownBy w' row):Only (fun k => some k = row) w w':=⟨h.os,h.tape,h.output,h.size,fun k hk hs => h.block k hk hs⟩
theorem Only.setCell (w:World) (a:Addr) (v:Value):Only (fun k => k = a.block) w (w.setCell a v):=⟨rfl,rfl,rfl,by simp [World.setCell],fun k _ hk => Below.heap_setCell _ _ _ _ hk⟩
theorem Only.below {S:Nat → Prop} {w w':World} {B:Nat} (h:Only S w w') (hB:B ≤ w.heap.size) (hs:∀ k,S k → B ≤ k):Below B w w':=
  ⟨h.os,h.tape,h.output,h.size,fun k hk => h.block k (Nat.lt_of_lt_of_le hk hB) (fun s => by have:=hs k s;omega)⟩
section
variable {w:World} {base:Nat} {e:TypeId} {size:Nat} {v:Value} {n:Nat} {xs:List Value}
theorem OwnsOff.nil (w:World) (base:Nat) (e:TypeId) (size:Nat):OwnsOff w base e size (.slice none 0 0) 0 []:=⟨by simp,.inl ⟨rfl,rfl⟩⟩
theorem OwnsOff.of_own (h:w.ownsRow base e size v n xs):OwnsOff w base e size v n xs:=by
  obtain ⟨h1,h2 | ⟨g,cap,cur,rfl,hb,hg,hn,hc,hs,ht⟩⟩:=h
  · exact ⟨h1,.inl h2⟩
  · exact ⟨h1,.inr ⟨g,0,cap,cur,rfl,hb,hg,hn,hc,by omega,by simpa using ht⟩⟩
theorem OwnsOff.mono (h:OwnsOff w base e size v n xs) {base':Nat} (hb:base' ≤ base):OwnsOff w base' e size v n xs:=by
  obtain ⟨h1,h2 | ⟨g,off,cap,cur,a,b,c⟩⟩:=h
  · exact ⟨h1,.inl h2⟩
  · exact ⟨h1,.inr ⟨g,off,cap,cur,a,by omega,c⟩⟩
theorem OwnsOff.lt (h:OwnsOff w base e size v n xs):∀ k,v.ownBlock = some k → base ≤ k ∧ k < w.heap.size:=by
  intro k hk
  rcases h.2 with ⟨rfl,_⟩ | ⟨g,off,cap,cur,rfl,hb,hg,_⟩
  · cases hk
  · cases hk;exact ⟨hb,(Array.getElem?_eq_some_iff.1 hg).1⟩
/-- Its block is one of its elements' type. -/
theorem OwnsOff.typed (h:OwnsOff w base e size v n xs):∀ k,v.ownBlock = some k → ∃ cs,w.heap[k]? = some (.cells cs e (0,0)):=by
  intro k hk
  rcases h.2 with ⟨rfl,_⟩ | ⟨g,off,cap,cur,rfl,hb,hg,_⟩
  · cases hk
  · cases hk;exact ⟨_,hg⟩
theorem OwnsOff.kept (h:OwnsOff w base e size v n xs) {S:Nat → Prop} {w':World} (ho:Only S w w') (hs:∀ k,v.ownBlock = some k → ¬ S k):OwnsOff w' base e size v n xs:=by
  refine ⟨h.1,?_⟩
  rcases h.2 with hn | ⟨g,off,cap,cur,rfl,hb,hg,rest⟩
  · exact .inl hn
  · exact .inr ⟨g,off,cap,cur,rfl,hb,(ho.block g (Array.getElem?_eq_some_iff.1 hg).1 (hs g rfl)).trans hg,rest⟩
theorem OwnsOff.keptB (h:OwnsOff w base e size v n xs) {w':World} (hb:Below w.heap.size w w'):OwnsOff w' base e size v n xs:=h.kept (Only.of_below (S:=fun _ => False) hb) (fun _ _ h => h)
theorem OwnsOff.slice (h:OwnsOff w base e size v n xs):∃ a c,v = .slice a n c ∧ n ≤ c ∧ c ≤ maxLen:=by
  rcases h.2 with ⟨rfl,rfl⟩ | ⟨g,off,cap,cur,rfl,hb,hg,hn,hc,_⟩
  · exact ⟨none,0,rfl,Nat.le_refl _,by unfold maxLen;omega⟩
  · exact ⟨_,cap,rfl,hn,hc⟩
/-- A slice with an element at least: where it lies,and its cells. -/
theorem OwnsOff.lies (h:OwnsOff w base e size v n xs) (hn:0 < n):∃ g off cap,v = .slice (some ⟨g,off,none⟩) n cap ∧ base ≤ g ∧ g < w.heap.size ∧ n ≤ cap ∧ cap ≤ maxLen ∧ (∀ o,w.frozen? ⟨g,o,none⟩ = false) ∧
    (∀ j u,xs[j]? = some u → w.cell? ⟨g,off + j,none⟩ = some u):=by
  rcases h.2 with ⟨_,h0⟩ | ⟨g,off,cap,cur,rfl,hb,hg,hnc,hc,hs,ht⟩
  · omega
  · refine ⟨g,off,cap,rfl,hb,(Array.getElem?_eq_some_iff.1 hg).1,hnc,hc,fun o => by simp [World.frozen?,hg],fun j u hj => ?_⟩
    rw [← ht,List.getElem?_take] at hj
    split at hj
    · rw [List.getElem?_drop] at hj
      simp [World.cell?,hg]
      simpa using hj
    · cases hj
end
/-- Behind an append onto what a variable's box holds,and the store back. -/
theorem Boxed.appendedOff {W w1:World} {n₀ B:Nat} {t e:TypeId} {size:Nat} {v v':Value} {k m:Nat} {xs ys:List Value} {tmp:Obj}
    (hv:Boxed W B t v) (hte:t ≠ e) (hrow:OwnsOff W n₀ e size v k xs) (hn₀:n₀ ≤ W.heap.size) (hB:n₀ ≤ B)
    (hown':OwnsOff w1 n₀ e size v' m ys) (hgrow:(W.alloc tmp).grownBy w1 v.ownBlock) :
    Boxed w1 B t v ∧ Boxed (w1.setCell ⟨B,0,none⟩ v') B t v' ∧ OwnsOff (w1.setCell ⟨B,0,none⟩ v') n₀ e size v' m ys ∧ KeepsOthers W (w1.setCell ⟨B,0,none⟩ v') ∧ Below n₀ W (w1.setCell ⟨B,0,none⟩ v'):=by
  have typed:∀ {w:World} {u:Value} {j:Nat} {zs:List Value},Boxed w B t v ∨ Boxed w B t v' → OwnsOff w n₀ e size u j zs → u.ownBlock ≠ some B:=by
    intro w u j zs hb ho hk
    obtain ⟨cs,hc⟩:=ho.typed B hk
    rcases hb with hb | hb <;> (rw [show w.heap[B]? = _ from hb] at hc;injection hc with hc;injection hc with _ hc;exact hte hc)
  have hv1:Boxed w1 B t v:=(hv.alloc tmp).kept hgrow (fun e => typed (.inl hv) hrow e.symm)
  refine ⟨hv1,hv1.set v',hown'.kept (Only.setCell w1 ⟨B,0,none⟩ v') (fun k hk e => typed (.inl hv1) hown' (by rw [hk];exact congrArg _ e)),?_,?_⟩
  · refine ((KeepsOthers.alloc W tmp).trans (KeepsOthers.of_grownBy hgrow fun j o ej hj => ?_)).trans (KeepsOthers.setCell _ _ _)
    obtain ⟨cs,hc⟩:=hrow.typed j ej
    rw [(Below.heap_alloc W tmp j (Array.getElem?_eq_some_iff.1 hc).1).trans hc] at hj
    cases hj;rfl
  · exact (((Below.refl n₀ W).alloc hn₀ tmp).grown hgrow (by simp;omega) fun j ej => (hrow.lt j ej).1).setCell (p:=⟨B,0,none⟩) hB v'
theorem drop_take_append {α:Type} (L news:List α) (off m:Nat) (h:off + m + news.length ≤ L.length) :
    ((L.take (off + m) ++ news ++ L.drop (off + m + news.length)).drop off).take (m + news.length) = (L.drop off).take m ++ news:=by
  rw [List.append_assoc,List.drop_append_of_le_length (by simp;omega),List.drop_take,show off + m - off = m by omega,← List.append_assoc]
  exact List.take_left' (by simp;omega)
section
variable {P:Program} (w:World)
/-- append at a slice of the call's own,wherever in its block it begins. -/
theorem run_append_off (base:Nat) (t ty e:TypeId) (i:TypeInfo) (z:Value) (size bytes:Nat) (ht:P.underlying t = some (.slice e)) (hi:P.info? e = some i) (hz:i.zero = some z)
    (hsize:i.size = size) (hby:i.bytes = bytes) (hzs:z.cells.size = size) (hsz:0 < size)
    (v:Value) (n:Nat) (xs:List Value) (hown:OwnsOff w base e size v n xs)
    (a:Addr) (m c:Nat) (news:List Value) (hl:news.length = m * size) (hnews:∀ j u,news[j]? = some u → w.cell? (a.add j) = some u) (h1:∀ u ∈ news,u.oneCell' = true)
    (h63:n + m ≤ maxLen) (hbytes:(n + m) * bytes ≤ 140737488355328) (hbase:base ≤ w.heap.size) :
    ∃ v' w',(Builtin.append_ #[t,t] ty #[v,.slice (some a) m c]).run P w = .ok v' w' ∧ OwnsOff w' base e size v' (n + m) (xs ++ news) ∧ w.grownBy w' v.ownBlock ∧
      (∀ g,v'.ownBlock = some g → v.ownBlock = some g ∨ w.heap.size ≤ g):=by
  have hlen:(xs ++ news).length = (n + m) * size:=by rw [List.length_append,hown.1,hl,Nat.add_mul]
  rcases hown.2 with ⟨rfl,rfl⟩ | ⟨g,off,cap,cur,rfl,hb,hg,hnc,hcm,hcs,htk⟩
  · obtain rfl:xs = []:=List.eq_nil_of_length_eq_zero (by simpa using hown.1)
    obtain ⟨v',w',hr,h2,h3,_⟩:=run_append_own (P:=P) w w.heap.size t ty e i z size bytes ht hi hz hsize hby hzs hsz (.slice none 0 0) 0 [] (World.ownsRow_nil w _ e size) a m c news hl hnews h1 h63 hbytes (Nat.le_refl _)
    exact ⟨v',w',hr,(OwnsOff.of_own h2).mono hbase,h3,fun g hg => .inr (h2.lt g hg).1⟩
  · by_cases hroom:n + m ≤ cap
    · subst hsize
      have hf:=run_firstCells_some (P:=P) w i.size m a m c news hl hnews
      have hcap:(n + m) * i.size ≤ cap * i.size:=Nat.mul_le_mul_right _ hroom
      have hfit:off + n * i.size + news.length ≤ cur.size:=by rw [hl];rw [Nat.add_mul] at hcap;omega
      have hst:=run_storeCells_at P g (off + n * i.size) e news 0 cur w hg (by simpa using hfit) h1
      simp only [Nat.add_zero] at hst
      refine ⟨_,_,by simp [Builtin.append_,run_underlying ht,sizeOf,typeInfo,hi,Builtin.lenOf,hroom,hf,Addr.add_lit,hst];rfl,⟨hlen,.inr ⟨g,off,cap,_,rfl,hb,setRow_heap w g cur _ e _ hg,hroom,hcm,?_,?_⟩⟩,⟨rfl,rfl,rfl,by simp,fun k _ hk => setRow_other w g k _ (fun e => hk (by simp [Value.ownBlock,e]))⟩,fun k hk => .inl hk⟩
      · simp only [List.size_toArray,List.length_append,List.length_take,List.length_drop,Array.length_toList]
        omega
      · have:=drop_take_append cur.toList news off (n * i.size) (by simpa using hfit)
        rw [htk] at this
        rw [Nat.add_mul,← hl]
        simpa using this
    · obtain ⟨v',w',hr,h2,h3⟩:=run_append_arg_grows (P:=P) w t ty e i z size bytes ht hi hz hsize hby hzs hsz ⟨g,off,none⟩ n cap xs hown.1
        (fun j u hj => by
          obtain ⟨g',o',c',hv,_,_,_,_,_,hcell⟩:=hown.lies (by
            rcases Nat.eq_zero_or_pos n with h0 | h0
            · subst h0
              have:=hown.1
              simp at this;subst this;cases hj
            · exact h0)
          cases hv
          rw [Addr.add_lit]
          exact hcell j u hj) a m c news hl hnews (by omega) h63 hbytes
      exact ⟨v',w',hr,(OwnsOff.of_own h2).mono hbase,⟨h3.os,h3.tape,h3.output,h3.size,fun k hk _ => h3.block k hk (by simp)⟩,fun k hk => .inr (h2.lt k hk).1⟩
theorem wpList_append_off {ops:Array Oper} {rest:List Oper} {o:Oper} {a:Act} {Q:Exit → Act → World → Prop} (hgd:o.guard = none) (s x:Operand) (t:TypeId)
    (ho:o.op = .call { callee:=.builtin .append,args:=#[s,x],argTypes:=#[t,t] })
    (base:Nat) (e:TypeId) (i:TypeInfo) (z:Value) (size bytes:Nat) (ht:P.underlying t = some (.slice e)) (hi:P.info? e = some i) (hz:i.zero = some z)
    (hsize:i.size = size) (hby:i.bytes = bytes) (hzs:z.cells.size = size) (hsz:0 < size)
    (v:Value) (n:Nat) (xs:List Value) (hs:a.eval s = v) (hown:OwnsOff w base e size v n xs)
    (ad:Addr) (m c:Nat) (news:List Value) (hx:a.eval x = .slice (some ad) m c) (hl:news.length = m * size) (hnews:∀ j u,news[j]? = some u → w.cell? (ad.add j) = some u) (h1:∀ u ∈ news,u.oneCell' = true)
    (h63:n + m ≤ maxLen) (hbytes:(n + m) * bytes ≤ 140737488355328) (hbase:base ≤ w.heap.size)
    (h:∀ v' w',OwnsOff w' base e size v' (n + m) (xs ++ news) → w.grownBy w' v.ownBlock → (∀ g,v'.ownBlock = some g → v.ownBlock = some g ∨ w.heap.size ≤ g) → wpList P ops Q rest (a.put o.dst v') w'):wpList P ops Q (o :: rest) a w:=by
  refine wpList_plain hgd fun K hK' => ?_
  obtain ⟨v',w',hrun,r1,r2,r3⟩:=run_append_off (P:=P) w base t o.type e i z size bytes ht hi hz hsize hby hzs hsz v n xs hown ad m c news hl hnews h1 h63 hbytes hbase
  unfold Oper.wp
  simp [execOp,ho,resolve,invoke,builtin,hs,hx,hrun,Result.andThen]
  exact hK' _ _ (h v' w' r1 r2 r3)
/-- The slice behind the first element: s[1:]. -/
theorem run_tail_off (base:Nat) (t e:TypeId) (i:TypeInfo) (size:Nat) (ht:P.underlying t = some (.slice e)) (hi:P.info? e = some i) (hsize:i.size = size)
    (v:Value) (n:Nat) (xs:List Value) (hown:OwnsOff w base e size v (n + 1) xs) :
    ∃ v',(Instr.sliceAt t v (some (.int .i64 1)) none none).run P w = .ok v' w ∧ OwnsOff w base e size v' n (xs.drop size) ∧ v'.ownBlock = v.ownBlock:=by
  subst hsize
  rcases hown.2 with ⟨_,h0⟩ | ⟨g,off,cap,cur,rfl,hb,hg,hnc,hcm,hcs,htk⟩
  · omega
  · have hl:(xs.drop i.size).length = n * i.size:=by rw [List.length_drop,hown.1,Nat.add_mul,Nat.one_mul];omega
    have h2:((1:Int) ≤ (n:Int) + 1):=by omega
    by_cases hc:cap = 1
    · subst hc
      obtain rfl:n = 0:=by omega
      refine ⟨.slice (some ⟨g,off,none⟩) 0 0,?_,⟨hl,.inr ⟨g,off,0,cur,rfl,hb,hg,Nat.le_refl _,by unfold maxLen;omega,by omega,?_⟩⟩,rfl⟩
      · simp [Instr.sliceAt,Instr.slice,run_underlying ht,Instr.sliceBounds,Instr.sliceBound,asIntOf,sizeOf,typeInfo,hi]
      · have:xs.drop i.size = []:=List.eq_nil_of_length_eq_zero (by simpa using hl)
        rw [this];simp
    · refine ⟨.slice (some ⟨g,off + i.size,none⟩) n (cap - 1),?_,⟨hl,.inr ⟨g,off + i.size,cap - 1,cur,rfl,hb,hg,by omega,by omega,?_,?_⟩⟩,rfl⟩
      · simp [Instr.sliceAt,Instr.slice,run_underlying ht,Instr.sliceBounds,Instr.sliceBound,asIntOf,sizeOf,typeInfo,hi,h2,hc,Addr.add_lit]
      · have:(cap - 1) * i.size = cap * i.size - i.size:=by rw [Nat.sub_mul,Nat.one_mul]
        have h3:1 * i.size ≤ cap * i.size:=Nat.mul_le_mul_right _ (by omega)
        omega
      · rw [← htk,List.drop_take,List.drop_drop,Nat.add_mul,Nat.one_mul,Nat.add_sub_cancel]
theorem wpList_tail_off {ops:Array Oper} {rest:List Oper} {o:Oper} {a:Act} {Q:Exit → Act → World → Prop} (hgd:o.guard = none) (s:Operand) (t:TypeId)
    (ho:o.op = .slice t s (some (.const (.int .i64 1))) none none)
    (base:Nat) (e:TypeId) (i:TypeInfo) (size:Nat) (ht:P.underlying t = some (.slice e)) (hi:P.info? e = some i) (hsize:i.size = size)
    (v:Value) (n:Nat) (xs:List Value) (hs:a.eval s = v) (hown:OwnsOff w base e size v (n + 1) xs)
    (h:∀ v',OwnsOff w base e size v' n (xs.drop size) → v'.ownBlock = v.ownBlock → wpList P ops Q rest (a.put o.dst v') w):wpList P ops Q (o :: rest) a w:=by
  refine wpList_plain hgd fun K hK' => ?_
  obtain ⟨v',hrun,r1,r2⟩:=run_tail_off (P:=P) w base t e i size ht hi hsize v n xs hown
  have he:a.eval (.const (.int .i64 1)) = .int .i64 1:=rfl
  unfold Oper.wp
  simp [execOp,ho,hs,he,hrun,Result.andThen]
  exact hK' _ _ (h v' r1 r2)
end
end Go.Proofs.YtheeiklgblcjfaaGreatDoor
end
