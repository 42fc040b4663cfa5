/- Texts of the ring, joined, what is used of them. No condition but those in the statements. -/
import Derived.Test.YtjfolhkblbakiaaGreatDoorProg
import Derived.ArgAppend
import Derived.BigQuiet
import Derived.ChangeSlices
import Derived.Deep.OwnRows
import Derived.Deep.RegionHeld3
import Derived.IntWalk
import Derived.Laws.CopyOwn
import Derived.Lib.Hide
import Derived.Lib.QuietBelow
import Derived.OneCell
import Derived.OrdersHeld
import Derived.OwnWalk
import Derived.OwnWalkIn
import Derived.ProofKit
import Derived.RangeFuncBox
import Derived.RangeFuncWrites
import Derived.WalkKit
import Derived.WalkLawsBesides
import Derived.WalkSpells
section
namespace Go.Proofs.YtjfolhkblbakiaaGreatDoor
open Go.RowKit Go.Sort
section
variable {P:Program} {ops:Array Oper} {C:World → Prop}
/-- A plain region's list,walked quietly. -/
theorem wpList_of_quiet {Q:Act → Prop} {Q':Exit → Act → World → Prop} (hQ:∀ a w,C w → Q a → Q' .normal a w):∀ (l:List Oper) (a:Act) (w:World),C w →
    wpQuiet P ops C Q l a → wpList P ops Q' l a w
  | [],a,w,hC,h => wpList_nil (hQ a w hC h)
  | o :: l,a,w,hC,h => by
    unfold wpQuiet at h
    unfold wpList
    split
    · rename_i hw;rw [if_pos hw] at h
      exact .inl (Oper.wp_of_quiet hC (fun a' w' hw' h' => wpList_of_quiet hQ l a' w' hw' h') h)
    · rename_i hw;rw [if_neg hw] at h
      exact wpList_of_quiet hQ l _ w hC h
end
theorem wpQuiet_mono {P:Program} {ops:Array Oper} {C:World → Prop} {Q Q':Act → Prop} (h:∀ a,Q a → Q' a):∀ (l:List Oper) (a:Act),wpQuiet P ops C Q l a → wpQuiet P ops C Q' l a
  | [],a,hh => h a hh
  | o :: l,a,hh => by
    unfold wpQuiet at hh ⊢
    split
    · rename_i hw;rw [if_pos hw] at hh;exact Oper.quiet_mono (fun a' => wpQuiet_mono h l a') hh
    · rename_i hw;rw [if_neg hw] at hh;exact wpQuiet_mono h l _ hh
/-- THE CLASS: the worlds that are as W below W's blocks. A list of operations of a plain region,from a world of the class: behind it some world of the class. -/
theorem wpList_on {P:Program} {ops:Array Oper} {Q:Exit → Act → World → Prop} {a:Act} {W w:World} {l:List Oper} (hw:Below W.heap.size W w)
    (h:wpQuiet P ops (fun w' => ∃ p:Regrown,w' = grow (redrawn W p.d) p.os) (fun a' => ∀ w',Below W.heap.size W w' → Q .normal a' w') l a):wpList P ops Q l a w:=
  wpList_of_quiet (C:=fun w' => ∃ p:Regrown,w' = grow (redrawn W p.d) p.os) (fun _ _ ⟨p,hp⟩ hq => hq _ (by rw [hp];exact below_regrown W p.d p.os)) l a w (regrown_of_below hw) h
/-- A region that draws its order. -/
theorem wp_on {P:Program} {id:Nat} {Q:Exit → Act → World → Prop} {a:Act} {W w:World} {l:List Oper} (hw:Below W.heap.size W w) (hm:P.follows .mixedOrders = true) (hB:Region.lexB .any l.toArray = true)
    (h:wpQuiet P l.toArray (fun w' => ∃ p:Regrown,w' = grow (redrawn W p.d) p.os) (fun a' => ∀ w',Below W.heap.size W w' → Q .normal a' w') l a):(Code.region id l.toArray true).wp P Q a w:=
  wp_region_quiet (C:=fun w' => ∃ p:Regrown,w' = grow (redrawn W p.d) p.os) hm hB (regrown_of_below (hw.trans ⟨rfl,rfl,rfl,Nat.le_refl _,fun _ _ => rfl⟩))
    (wpQuiet_mono (fun _ hq w' hp => by obtain ⟨p,hp⟩:=hp;exact hq w' (by rw [hp];exact below_regrown W p.d p.os)) l a h)
/-- A contract's Bool,where the context says which one it is. -/
theorem regrown_is {P:Program} {f:FuncId} {args:Array Value} {w:World} {d:Nat} {os:Array Obj} {v b:Bool} (h:v = b)
    (hc:Calls P f args (grow (redrawn w d) os) fun e w' => e = .returned (.bool v) ∧ Below (grow (redrawn w d) os).heap.size (grow (redrawn w d) os) w'):Calls P f args (grow (redrawn w d) os) fun e w'' => e = .returned (.bool b) ∧ ∃ p:Regrown,w'' = grow (redrawn w p.d) p.os:=by
  subst h;exact Calls.regrown_of hc
/-- A struct of two cells in a box. -/
theorem one_box (w:World) (v0 v1:Value) (t:TypeId):∃ W,Hid (W = w.alloc (.cells #[v0,v1] t)) ∧ Below w.heap.size w W ∧ w.heap.size < W.heap.size ∧
    (∀ p:Regrown,(grow (redrawn W p.d) p.os).cell? ⟨w.heap.size,0,none⟩ = some v0) ∧ (∀ p:Regrown,(grow (redrawn W p.d) p.os).cell? ⟨w.heap.size,1,none⟩ = some v1):=
  ⟨_,rfl,((Below.refl _ _).alloc (Nat.le_refl _) _),by simp,fun p => cell_regrown (by go_simp) _ _,fun p => cell_regrown (by go_simp) _ _⟩
theorem bool_of {a:Bool} {p:Prop} (h:a = true ↔ p):(p → a = true) ∧ (¬ p → a = false):=
  ⟨h.2,fun hn => by cases a <;> simp_all⟩
end Go.Proofs.YtjfolhkblbakiaaGreatDoor
end
section
namespace Go.Proofs.YtjfolhkblbakiaaGreatDoor
open Go.RowKit Go.Sort
/-- A slice into a block of the call's own,from whatever place of it on. -/
def OwnsOff (w:World) (base:Nat) (e:TypeId) (size:Nat) (v:Value) (n:Nat) (xs:List Value):Prop:=
  xs.length = n * size ∧ ((v = .slice none 0 0 ∧ n = 0) ∨
    ∃ g off cap cur,v = .slice (some ⟨g,off,none⟩) n cap ∧ base ≤ g ∧ w.heap[g]? = some (.cells cur e (0,0)) ∧ n ≤ cap ∧ cap ≤ maxLen ∧ off + cap * size ≤ cur.size ∧ (cur.toList.drop off).take (n * size) = xs)
/-- Only blocks of S have turned,of those that were there. -/
structure Only (S:Nat → Prop) (w w':World):Prop where
  os:w'.os = w.os
  tape:w'.tape = w.tape
  output:w'.output = w.output
  size:w.heap.size ≤ w'.heap.size
  block:∀ k,k < w.heap.size → ¬ S k → w'.heap[k]? = w.heap[k]?
theorem Only.refl (S:Nat → Prop) (w:World):Only S w w:=⟨rfl,rfl,rfl,Nat.le_refl _,fun _ _ _ => rfl⟩
theorem Only.trans {S:Nat → Prop} {a b c:World} (h:Only S a b) (k:Only S b c):Only S a c:=
  ⟨k.os.trans h.os,k.tape.trans h.tape,k.output.trans h.output,Nat.le_trans h.size k.size,fun i hi hs => (k.block i (Nat.lt_of_lt_of_le hi h.size) hs).trans (h.block i hi hs)⟩
theorem Only.mono {S T:Nat → Prop} {w w':World} (h:Only S w w') (hs:∀ k,k < w.heap.size → S k → T k):Only T w w':=
  ⟨h.os,h.tape,h.output,h.size,fun k hk ht => h.block k hk (fun s => ht (hs k hk s))⟩
theorem Only.of_below {S:Nat → Prop} {w w':World} (h:Below w.heap.size w w'):Only S w w':=⟨h.os,h.tape,h.output,h.size,fun k hk _ => h.block k hk⟩
theorem Only.of_grown {w w':World} {row:Option Nat} (h:w.grownBy w' row):Only (fun k => some k = row) w w':=⟨h.os,h.tape,h.output,h.size,fun k hk hs => h.block k hk hs⟩
theorem Only.setCell (w:World) (a:Addr) (v:Value):Only (fun k => k = a.block) w (w.setCell a v):=⟨rfl,rfl,rfl,by simp [World.setCell],fun k _ hk => Below.heap_setCell _ _ _ _ hk⟩
theorem Only.below {S:Nat → Prop} {w w':World} {B:Nat} (h:Only S w w') (hB:B ≤ w.heap.size) (hs:∀ k,S k → B ≤ k):Below B w w':=
  ⟨h.os,h.tape,h.output,h.size,fun k hk => h.block k (Nat.lt_of_lt_of_le hk hB) (fun s => by have:=hs k s;omega)⟩
section
variable {w:World} {base:Nat} {e:TypeId} {size:Nat} {v:Value} {n:Nat} {xs:List Value}
theorem OwnsOff.nil (w:World) (base:Nat) (e:TypeId) (size:Nat):OwnsOff w base e size (.slice none 0 0) 0 []:=⟨by simp,.inl ⟨rfl,rfl⟩⟩
theorem OwnsOff.of_own (h:w.ownsRow base e size v n xs):OwnsOff w base e size v n xs:=by
  obtain ⟨h1,h2 | ⟨g,cap,cur,rfl,hb,hg,hn,hc,hs,ht⟩⟩:=h
  · exact ⟨h1,.inl h2⟩
  · exact ⟨h1,.inr ⟨g,0,cap,cur,rfl,hb,hg,hn,hc,by omega,by simpa using ht⟩⟩
theorem OwnsOff.mono (h:OwnsOff w base e size v n xs) {base':Nat} (hb:base' ≤ base):OwnsOff w base' e size v n xs:=by
  obtain ⟨h1,h2 | ⟨g,off,cap,cur,a,b,c⟩⟩:=h
  · exact ⟨h1,.inl h2⟩
  · exact ⟨h1,.inr ⟨g,off,cap,cur,a,by omega,c⟩⟩
theorem OwnsOff.lt (h:OwnsOff w base e size v n xs):∀ k,v.ownBlock = some k → base ≤ k ∧ k < w.heap.size:=by
  intro k hk
  rcases h.2 with ⟨rfl,_⟩ | ⟨g,off,cap,cur,rfl,hb,hg,_⟩
  · cases hk
  · cases hk;exact ⟨hb,(Array.getElem?_eq_some_iff.1 hg).1⟩
/-- Its block is one of its elements' type. -/
theorem OwnsOff.typed (h:OwnsOff w base e size v n xs):∀ k,v.ownBlock = some k → ∃ cs,w.heap[k]? = some (.cells cs e (0,0)):=by
  intro k hk
  rcases h.2 with ⟨rfl,_⟩ | ⟨g,off,cap,cur,rfl,hb,hg,_⟩
  · cases hk
  · cases hk;exact ⟨_,hg⟩
theorem OwnsOff.kept (h:OwnsOff w base e size v n xs) {S:Nat → Prop} {w':World} (ho:Only S w w') (hs:∀ k,v.ownBlock = some k → ¬ S k):OwnsOff w' base e size v n xs:=by
  refine ⟨h.1,?_⟩
  rcases h.2 with hn | ⟨g,off,cap,cur,rfl,hb,hg,rest⟩
  · exact .inl hn
  · exact .inr ⟨g,off,cap,cur,rfl,hb,(ho.block g (Array.getElem?_eq_some_iff.1 hg).1 (hs g rfl)).trans hg,rest⟩
theorem OwnsOff.keptB (h:OwnsOff w base e size v n xs) {w':World} (hb:Below w.heap.size w w'):OwnsOff w' base e size v n xs:=h.kept (Only.of_below (S:=fun _ => False) hb) (fun _ _ h => h)
theorem OwnsOff.slice (h:OwnsOff w base e size v n xs):∃ a c,v = .slice a n c ∧ n ≤ c ∧ c ≤ maxLen:=by
  rcases h.2 with ⟨rfl,rfl⟩ | ⟨g,off,cap,cur,rfl,hb,hg,hn,hc,_⟩
  · exact ⟨none,0,rfl,Nat.le_refl _,by unfold maxLen;omega⟩
  · exact ⟨_,cap,rfl,hn,hc⟩
/-- A slice with an element at least: where it lies,and its cells. -/
theorem OwnsOff.lies (h:OwnsOff w base e size v n xs) (hn:0 < n):∃ g off cap,v = .slice (some ⟨g,off,none⟩) n cap ∧ base ≤ g ∧ g < w.heap.size ∧ n ≤ cap ∧ cap ≤ maxLen ∧ (∀ o,w.frozen? ⟨g,o,none⟩ = false) ∧
    (∀ j u,xs[j]? = some u → w.cell? ⟨g,off + j,none⟩ = some u):=by
  rcases h.2 with ⟨_,h0⟩ | ⟨g,off,cap,cur,rfl,hb,hg,hnc,hc,hs,ht⟩
  · omega
  · refine ⟨g,off,cap,rfl,hb,(Array.getElem?_eq_some_iff.1 hg).1,hnc,hc,fun o => by simp [World.frozen?,hg],fun j u hj => ?_⟩
    rw [← ht,List.getElem?_take] at hj
    split at hj
    · rw [List.getElem?_drop] at hj
      simp [World.cell?,hg]
      simpa using hj
    · cases hj
end
/-- Behind an append onto what a variable's box holds,and the store back. -/
theorem Boxed.appendedOff {W w1:World} {n₀ B:Nat} {t e:TypeId} {size:Nat} {v v':Value} {k m:Nat} {xs ys:List Value} {tmp:Obj}
    (hv:Boxed W B t v) (hte:t ≠ e) (hrow:OwnsOff W n₀ e size v k xs) (hn₀:n₀ ≤ W.heap.size) (hB:n₀ ≤ B)
    (hown':OwnsOff w1 n₀ e size v' m ys) (hgrow:(W.alloc tmp).grownBy w1 v.ownBlock) :
    Boxed w1 B t v ∧ Boxed (w1.setCell ⟨B,0,none⟩ v') B t v' ∧ OwnsOff (w1.setCell ⟨B,0,none⟩ v') n₀ e size v' m ys ∧ KeepsOthers W (w1.setCell ⟨B,0,none⟩ v') ∧ Below n₀ W (w1.setCell ⟨B,0,none⟩ v'):=by
  have typed:∀ {w:World} {u:Value} {j:Nat} {zs:List Value},Boxed w B t v ∨ Boxed w B t v' → OwnsOff w n₀ e size u j zs → u.ownBlock ≠ some B:=by
    intro w u j zs hb ho hk
    obtain ⟨cs,hc⟩:=ho.typed B hk
    rcases hb with hb | hb <;> (rw [show w.heap[B]? = _ from hb] at hc;injection hc with hc;injection hc with _ hc;exact hte hc)
  have hv1:Boxed w1 B t v:=(hv.alloc tmp).kept hgrow (fun e => typed (.inl hv) hrow e.symm)
  refine ⟨hv1,hv1.set v',hown'.kept (Only.setCell w1 ⟨B,0,none⟩ v') (fun k hk e => typed (.inl hv1) hown' (by rw [hk];exact congrArg _ e)),?_,?_⟩
  · refine ((KeepsOthers.alloc W tmp).trans (KeepsOthers.of_grownBy hgrow fun j o ej hj => ?_)).trans (KeepsOthers.setCell _ _ _)
    obtain ⟨cs,hc⟩:=hrow.typed j ej
    rw [(Below.heap_alloc W tmp j (Array.getElem?_eq_some_iff.1 hc).1).trans hc] at hj
    cases hj;rfl
  · exact (((Below.refl n₀ W).alloc hn₀ tmp).grown hgrow (by simp;omega) fun j ej => (hrow.lt j ej).1).setCell (p:=⟨B,0,none⟩) hB v'
theorem drop_take_append {α:Type} (L news:List α) (off m:Nat) (h:off + m + news.length ≤ L.length) :
    ((L.take (off + m) ++ news ++ L.drop (off + m + news.length)).drop off).take (m + news.length) = (L.drop off).take m ++ news:=by
  rw [List.append_assoc,List.drop_append_of_le_length (by simp;omega),List.drop_take,show off + m - off = m by omega,← List.append_assoc]
  exact List.take_left' (by simp;omega)
section
variable {P:Program} (w:World)
/-- append at a slice of the call's own,wherever in its block it begins. -/
theorem run_append_off (base:Nat) (t ty e:TypeId) (i:TypeInfo) (z:Value) (size bytes:Nat) (ht:P.underlying t = some (.slice e)) (hi:P.info? e = some i) (hz:i.zero = some z)
    (hsize:i.size = size) (hby:i.bytes = bytes) (hzs:z.cells.size = size) (hsz:0 < size)
    (v:Value) (n:Nat) (xs:List Value) (hown:OwnsOff w base e size v n xs)
    (a:Addr) (m c:Nat) (news:List Value) (hl:news.length = m * size) (hnews:∀ j u,news[j]? = some u → w.cell? (a.add j) = some u) (h1:∀ u ∈ news,u.oneCell' = true)
    (h63:n + m ≤ maxLen) (hbytes:(n + m) * bytes ≤ 140737488355328) (hbase:base ≤ w.heap.size) :
    ∃ v' w',(Builtin.append_ #[t,t] ty #[v,.slice (some a) m c]).run P w = .ok v' w' ∧ OwnsOff w' base e size v' (n + m) (xs ++ news) ∧ w.grownBy w' v.ownBlock ∧
      (∀ g,v'.ownBlock = some g → v.ownBlock = some g ∨ w.heap.size ≤ g):=by
  have hlen:(xs ++ news).length = (n + m) * size:=by rw [List.length_append,hown.1,hl,Nat.add_mul]
  rcases hown.2 with ⟨rfl,rfl⟩ | ⟨g,off,cap,cur,rfl,hb,hg,hnc,hcm,hcs,htk⟩
  · obtain rfl:xs = []:=List.eq_nil_of_length_eq_zero (by simpa using hown.1)
    obtain ⟨v',w',hr,h2,h3,_⟩:=run_append_own (P:=P) w w.heap.size t ty e i z size bytes ht hi hz hsize hby hzs hsz (.slice none 0 0) 0 [] (World.ownsRow_nil w _ e size) a m c news hl hnews h1 h63 hbytes (Nat.le_refl _)
    exact ⟨v',w',hr,(OwnsOff.of_own h2).mono hbase,h3,fun g hg => .inr (h2.lt g hg).1⟩
  · by_cases hroom:n + m ≤ cap
    · subst hsize
      have hf:=run_firstCells_some (P:=P) w i.size m a m c news hl hnews
      have hcap:(n + m) * i.size ≤ cap * i.size:=Nat.mul_le_mul_right _ hroom
      have hfit:off + n * i.size + news.length ≤ cur.size:=by rw [hl];rw [Nat.add_mul] at hcap;omega
      have hst:=run_storeCells_at P g (off + n * i.size) e news 0 cur w hg (by simpa using hfit) h1
      simp only [Nat.add_zero] at hst
      refine ⟨_,_,by simp [Builtin.append_,run_underlying ht,sizeOf,typeInfo,hi,Builtin.lenOf,hroom,hf,Addr.add_lit,hst];rfl,⟨hlen,.inr ⟨g,off,cap,_,rfl,hb,setRow_heap w g cur _ e _ hg,hroom,hcm,?_,?_⟩⟩,⟨rfl,rfl,rfl,by simp,fun k _ hk => setRow_other w g k _ (fun e => hk (by simp [Value.ownBlock,e]))⟩,fun k hk => .inl hk⟩
      · simp only [List.size_toArray,List.length_append,List.length_take,List.length_drop,Array.length_toList]
        omega
      · have:=drop_take_append cur.toList news off (n * i.size) (by simpa using hfit)
        rw [htk] at this
        rw [Nat.add_mul,← hl]
        simpa using this
    · obtain ⟨v',w',hr,h2,h3⟩:=run_append_arg_grows (P:=P) w t ty e i z size bytes ht hi hz hsize hby hzs hsz ⟨g,off,none⟩ n cap xs hown.1
        (fun j u hj => by
          obtain ⟨g',o',c',hv,_,_,_,_,_,hcell⟩:=hown.lies (by
            rcases Nat.eq_zero_or_pos n with h0 | h0
            · subst h0
              have:=hown.1
              simp at this;subst this;cases hj
            · exact h0)
          cases hv
          rw [Addr.add_lit]
          exact hcell j u hj) a m c news hl hnews (by omega) h63 hbytes
      exact ⟨v',w',hr,(OwnsOff.of_own h2).mono hbase,⟨h3.os,h3.tape,h3.output,h3.size,fun k hk _ => h3.block k hk (by simp)⟩,fun k hk => .inr (h2.lt k hk).1⟩
theorem wpList_append_off {ops:Array Oper} {rest:List Oper} {o:Oper} {a:Act} {Q:Exit → Act → World → Prop} (hgd:o.guard = none) (s x:Operand) (t:TypeId)
    (ho:o.op = .call { callee:=.builtin .append,args:=#[s,x],argTypes:=#[t,t] })
    (base:Nat) (e:TypeId) (i:TypeInfo) (z:Value) (size bytes:Nat) (ht:P.underlying t = some (.slice e)) (hi:P.info? e = some i) (hz:i.zero = some z)
    (hsize:i.size = size) (hby:i.bytes = bytes) (hzs:z.cells.size = size) (hsz:0 < size)
    (v:Value) (n:Nat) (xs:List Value) (hs:a.eval s = v) (hown:OwnsOff w base e size v n xs)
    (ad:Addr) (m c:Nat) (news:List Value) (hx:a.eval x = .slice (some ad) m c) (hl:news.length = m * size) (hnews:∀ j u,news[j]? = some u → w.cell? (ad.add j) = some u) (h1:∀ u ∈ news,u.oneCell' = true)
    (h63:n + m ≤ maxLen) (hbytes:(n + m) * bytes ≤ 140737488355328) (hbase:base ≤ w.heap.size)
    (h:∀ v' w',OwnsOff w' base e size v' (n + m) (xs ++ news) → w.grownBy w' v.ownBlock → (∀ g,v'.ownBlock = some g → v.ownBlock = some g ∨ w.heap.size ≤ g) → wpList P ops Q rest (a.put o.dst v') w'):wpList P ops Q (o :: rest) a w:=by
  refine wpList_plain hgd fun K hK' => ?_
  obtain ⟨v',w',hrun,r1,r2,r3⟩:=run_append_off (P:=P) w base t o.type e i z size bytes ht hi hz hsize hby hzs hsz v n xs hown ad m c news hl hnews h1 h63 hbytes hbase
  unfold Oper.wp
  simp [execOp,ho,resolve,invoke,builtin,hs,hx,hrun,Result.andThen]
  exact hK' _ _ (h v' w' r1 r2 r3)
end
end Go.Proofs.YtjfolhkblbakiaaGreatDoor
end
section
namespace Go.Proofs.YtjfolhkblbakiaaGreatDoor
open Go.RowKit Go.Sort Go.ChangeShapes Go.WideShapes
/-- A slice's row of integers of kind k,at a block below number B. -/
def IntRowK (k:IntKind) (w:World) (B:Nat) (A:Option Addr) (xs:List Int):Prop:=
  0 < xs.length → ∃ b o,A = some ⟨b,o,none⟩ ∧ b < B ∧ ∀ i,i < xs.length → w.cell? ⟨b,o + i,none⟩ = some (.int k (xs.getD i 0))
theorem IntRowK.below {k:IntKind} {w w':World} {B:Nat} {A:Option Addr} {l:List Int} (h:IntRowK k w B A l) (hb:Below B w w'):IntRowK k w' B A l:=fun hn => by
  obtain ⟨b,o,hA,hlt,hc⟩:=h hn
  exact ⟨b,o,hA,hlt,fun i hi => (hb.cell (p:=⟨b,o + i,none⟩) hlt).trans (hc i hi)⟩
theorem IntRowK.more {k:IntKind} {w:World} {B B':Nat} {A:Option Addr} {l:List Int} (h:IntRowK k w B A l) (hb:B ≤ B'):IntRowK k w B' A l:=fun hn => by
  obtain ⟨b,o,hA,hlt,hc⟩:=h hn
  exact ⟨b,o,hA,by omega,hc⟩
/-- The integer at place i,in every world that is as w below B. -/
theorem IntRowK.at_ {k:IntKind} {w:World} {B:Nat} {A:Option Addr} {l:List Int} (h:IntRowK k w B A l) {i:Nat} (hi:i < l.length):∃ b o,A = some ⟨b,o,none⟩ ∧ b < B ∧
    ∀ w',Below B w w' → w'.cell? ⟨b,o + i,none⟩ = some (.int k (l.getD i 0)):=by
  obtain ⟨b,o,hA,hlt,hc⟩:=h (by omega)
  exact ⟨b,o,hA,hlt,fun w' hb => (hb.cell (p:=⟨b,o + i,none⟩) hlt).trans (hc i hi)⟩
theorem ints_argK {H:Type} {enc:TypeId × Value → H} {P:Program} {W:World} {t e:TypeId} {a:Option Addr} {len cap:Nat} {d:DataW H} {p:List MemPlace} (k:IntKind)
    (ht:P.underlying t = some (.slice e)) (he:P.underlying e = some (.int k)) (ce:P.cellsOf e = 1)
    (h:DataW.Trod enc P W 0 (fun _ => true) true t (.slice a len cap) d p) :
    ∃ l:List Int,len = l.length ∧ len ≤ cap ∧ cap ≤ maxLen ∧ (a = none → l = []) ∧ IntRowK k W W.heap.size a l ∧ ∀ q ∈ l,(Lit.int k q).wf = true:=by
  obtain ⟨fuel,hf⟩:=h
  rcases open_ints ht he ce hf with ⟨hcs,_⟩ | ⟨a',len',cap',zs,hcs,_,hl,hm,hzl,_,hx,hw⟩
  · simp [Value.cells] at hcs
    obtain ⟨rfl,rfl,rfl⟩:=hcs
    exact ⟨[],rfl,Nat.le_refl _,by unfold maxLen;omega,fun _ => rfl,(fun h => by simp at h),fun q hq => by cases hq⟩
  · simp [Value.cells] at hcs
    obtain ⟨rfl,rfl,rfl⟩:=hcs
    simp at hzl
    refine ⟨zs.take len,by simp;omega,hl,hm,(fun h => by cases h),fun hp => ?_,fun q hq => hw q (List.mem_of_mem_take hq)⟩
    simp at hp
    obtain ⟨b,off,spot⟩:=a'
    have hc:=hx 0 (by omega)
    have hspot:spot = none:=by simpa [Addr.add] using World.cell?_spot hc
    subst hspot
    have hblk:b < W.heap.size:=by
      have:=World.block_lt_of_cell? W _ hc
      simpa [Addr.add] using this
    refine ⟨b,off,rfl,hblk,fun i hi => ?_⟩
    simp at hi
    have h1:=hx i (by omega)
    have ea:(⟨b,off,none⟩:Addr).add i = ⟨b,off + i,none⟩:=Addr.add_lit ..
    rw [ea] at h1
    rw [h1]
    congr 2
    have hz:i < zs.length:=by omega
    simp [List.getD_eq_getElem?_getD,hi,hz]
theorem IntRowK.take {K:IntKind} {w:World} {B:Nat} {A:Option Addr} {l:List Int} (h:IntRowK K w B A l) (k:Nat):IntRowK K w B A (l.take k):=fun hp => by
  simp at hp
  obtain ⟨b,o,rfl,hb,hcell⟩:=h (by omega)
  refine ⟨b,o,rfl,hb,fun j hj => ?_⟩
  simp at hj
  rw [hcell j (by omega)]
  have hj2:j < l.length:=by omega
  simp [List.getD_eq_getElem?_getD,hj,hj2]
end Go.Proofs.YtjfolhkblbakiaaGreatDoor
end
section
namespace Go.Proofs.YtjfolhkblbakiaaGreatDoor
open Go.RowKit Go.Sort
set_option linter.unusedVariables false
set_option linter.unusedSimpArgs false
section
variable {P:Program} {md:Region.Mode} {ops:Array Oper} {Q:Exit → Act → World → Prop} {S:World → Prop} {k:Nat}
/-- Whatever order comes: behind each operation but number k S holds,as long as k has not come up. -/
def Till (P:Program) (md:Region.Mode) (ops:Array Oper) (Q:Exit → Act → World → Prop) (S:World → Prop) (k:Nat):Nat → Array Bool → Act → World → Prop
  | 0,l,a,w => Region.ready md ops l = [] ∧ Q .normal a w
  | n + 1,l,a,w => (Region.ready md ops l = [] → Q .normal a w) ∧ ∀ i ∈ Region.ready md ops l,wpOp P ops Q i (fun a' w' => (i ≠ k → l.getD k true = false → S w') ∧ Till P md ops Q S k n (l.setIfInBounds i true) a' w') a w
theorem Till.any:∀ (n:Nat) (l:Array Bool) (a:Act) (w:World),Till P md ops Q S k n l a w → wpAny P md ops Q n l a w
  | 0,_,_,_,h => h
  | n + 1,_,_,_,h => ⟨h.1,fun i hi => wpOp_mono (fun a' w' h' => Till.any n _ a' w' h'.2) (h.2 i hi)⟩
/-- Does operation k wait for operation i? -/
def waitsFor (md:Region.Mode) (ops:Array Oper) (k i:Nat):Bool:=match ops[k]? with
  | some o => o.after.toList.any (fun e => Region.binds md e && e.on == i)
  | none => true
theorem not_ready {i:Nat} {l:Array Bool} (hw:waitsFor md ops k i = true) (hi:l.getD i true = false):k ∉ Region.ready md ops l:=fun hk => by
  obtain ⟨_,o,ho,hall⟩:=mem_ready.1 hk
  unfold waitsFor at hw
  rw [ho] at hw
  obtain ⟨e,he,hb⟩:=List.any_eq_true.1 hw
  rw [Bool.and_eq_true] at hb
  have h1:=hall e (by simpa using he) hb.1
  rw [show e.on = i by simpa using hb.2] at h1
  have:(true:Bool) = false:=by
    rcases Nat.lt_or_ge i l.size with h | h
    · simp [h] at h1 hi;rw [hi] at h1;cases h1
    · simp [Array.getElem?_eq_none h] at h1
  cases this
theorem unlisted_of_ready {i:Nat} {l:Array Bool} (h:i ∈ Region.ready md ops l):l.getD i true = false:=(mem_ready.1 h).1
/-- An operation that yields v in every world of T,and comes up ahead of k,may be taken first. T: every world;or S. -/
theorem Till.first {i:Nat} {oi:Oper} {v:Value} {T:World → Prop} (hi:ops[i]? = some oi) (hsel:∀ (j:Nat) (o:Oper) cs b,ops[j]? = some o → o.op ≠ .select cs b)
    (hQ:∀ c a w,Q (.panic c) (a.put oi.dst v) w → Q (.panic c) a w) (hik:i ≠ k) (hT:(∀ w,T w) ∨ (waitsFor md ops k i = true ∧ ∀ w,S w → T w)) :
    ∀ (n:Nat) (l:Array Bool) (a:Act) (w:World),
      (∀ j oj,ops[j]? = some oj → j ≠ i → l.getD j true = false → (∀ e ∈ oj.after,Region.binds md e = true → e.on ≠ i) → oi.apart ops oj = true) →
      i ∈ Region.ready md ops l → ((∀ w,T w) ∨ l.getD k true = false) → YieldsIf P ops T oi v a → (l.getD k true = false → S w) →
      Till P md ops Q S k n (l.setIfInBounds i true) (a.put oi.dst v) w → Till P md ops Q S k (n + 1) l a w:=by
  intro n
  induction n with
  | zero =>
    intro l a w _ hr hc hy hS H
    have hTw:T w:=by
      rcases hc with h | h
      · exact h w
      · rcases hT with h' | ⟨_,h'⟩
        · exact h' w
        · exact h' w (hS h)
    refine ⟨fun h => (by rw [h] at hr;cases hr),fun j hj => ?_⟩
    by_cases hji:j = i
    · subst hji;exact hy.wpOp hi hTw ⟨fun _ h => hS h,H⟩
    · have:=ready_mono hj hji
      rw [H.1] at this
      cases this
  | succ n ih =>
    intro l a w hfree hr hc hy hS H
    have hTw:T w:=by
      rcases hc with h | h
      · exact h w
      · rcases hT with h' | ⟨_,h'⟩
        · exact h' w
        · exact h' w (hS h)
    refine ⟨fun h => (by rw [h] at hr;cases hr),fun j hj => ?_⟩
    by_cases hji:j = i
    · subst hji;exact hy.wpOp hi hTw ⟨fun _ h => hS h,H⟩
    · have h1:=H.2 j (ready_mono hj hji)
      obtain ⟨hjun,oj,hoj,hall⟩:=mem_ready.1 hj
      have hiun:=unlisted_of_ready hr
      have hno:∀ e ∈ oj.after,Region.binds md e = true → e.on ≠ i:=fun e he hb heq => by
        have h2:=hall e he hb
        rw [heq] at h2
        rcases Nat.lt_or_ge i l.size with h | h
        · simp [h] at h2 hiun;rw [hiun] at h2;cases h2
        · simp [Array.getElem?_eq_none h] at h2
      have h2:=wpOp_putIf hoj (hfree j oj hoj hji hjun hno) (fun cs b => hsel i oi cs b hi) (fun cs b => hsel j oj cs b hoj) hQ hy h1
      have hfree':∀ m om,ops[m]? = some om → m ≠ i → (l.setIfInBounds j true).getD m true = false → (∀ e ∈ om.after,Region.binds md e = true → e.on ≠ i) → oi.apart ops om = true:=fun m om hm hmi hun hn => by
        refine hfree m om hm hmi ?_ hn
        by_cases hjm:j = m
        · subst hjm;exact hjun
        · rw [getD_set_ne true hjm] at hun;exact hun
      refine wpOp_mono (fun a' w' h3 => ?_) h2
      have hSw:j ≠ k → l.getD k true = false → S w':=fun hjk hl => h3.2.1 hjk (by rw [getD_set_ne true hik];exact hl)
      refine ⟨hSw,ih (l.setIfInBounds j true) a' w' hfree' (ready_mono hr (Ne.symm hji)) ?_ h3.1 ?_ ?_⟩
      · rcases hc with h | h
        · exact .inl h
        · rcases hT with h' | ⟨hw,_⟩
          · exact .inl h'
          · refine .inr ?_
            have hjk:j ≠ k:=fun e => not_ready hw hiun (e ▸ hj)
            rw [getD_set_ne true hjk];exact h
      · intro hl
        by_cases hjk:j = k
        · subst hjk
          exfalso
          rcases Nat.lt_or_ge j l.size with h | h
          · simp [h] at hl
          · simp [h] at hl
        · rw [getD_set_ne true hjk] at hl;exact hSw hjk hl
      · rw [Array.setIfInBounds_comm _ _ hji]
        exact h3.2.2
/-- Take number i first: a load that S tells of,for which k waits. -/
theorem till_load {i:Nat} {oi:Oper} {v:Value} {n:Nat} {l:Array Bool} {a:Act} {w:World} (hi:ops[i]? = some oi) (hs:Region.noSelect ops = true) (hf:Region.free md ops l i = true) (hr:(Region.ready md ops l).contains i = true)
    (hQ:∀ c a w,Q (.panic c) (a.put oi.dst v) w → Q (.panic c) a w) (hik:(i != k) = true) (hw:waitsFor md ops k i = true) (hl:l.getD k true = false) (hy:YieldsIf P ops S oi v a) (hS:S w)
    (h:Till P md ops Q S k n (l.setIfInBounds i true) (a.put oi.dst v) w):Till P md ops Q S k (n + 1) l a w:=
  Till.first hi (Region.noSelect_spec hs) hQ (by simpa using hik) (.inr ⟨hw,fun _ h => h⟩) n l a w (Region.free_spec hi hf) (by simpa using hr) (.inr hl) hy (fun _ => hS) h
/-- Take number i first: it yields v in whatever world. -/
theorem till_take {i:Nat} {oi:Oper} {v:Value} {n:Nat} {l:Array Bool} {a:Act} {w:World} (hi:ops[i]? = some oi) (hs:Region.noSelect ops = true) (hf:Region.free md ops l i = true) (hr:(Region.ready md ops l).contains i = true)
    (hQ:∀ c a w,Q (.panic c) (a.put oi.dst v) w → Q (.panic c) a w) (hik:(i != k) = true) (hy:YieldsIf P ops (fun _ => True) oi v a) (hS:S w)
    (h:Till P md ops Q S k n (l.setIfInBounds i true) (a.put oi.dst v) w):Till P md ops Q S k (n + 1) l a w:=
  Till.first hi (Region.noSelect_spec hs) hQ (by simpa using hik) (.inl fun _ => trivial) n l a w (Region.free_spec hi hf) (by simpa using hr) (.inl fun _ => trivial) hy (fun _ => hS) h
/-- What may come up comes up,ahead of k. -/
theorem till_one {i:Nat} {o:Oper} {n:Nat} {l:Array Bool} {a:Act} {w:World} (hr:Region.ready md ops l = [i]) (ho:ops[i]? = some o)
    (h:∀ K':Act → World → Prop,Shut (∀ a w,S w → (S w → Till P md ops Q S k n (l.setIfInBounds i true) a w) → K' a w) → if Region.wanted o (yielded ops a.tmps) = true then Oper.wp P o a w K' Q else K' (a.put o.dst undef) w):Till P md ops Q S k (n + 1) l a w:=
  ⟨fun h0 => (by rw [hr] at h0;cases h0),fun j hj => by
    rw [hr] at hj
    obtain rfl:=List.mem_singleton.1 hj
    exact wpOp_step ho (fun K' hK => h K' (fun a w hS hW => hK a w ⟨fun _ _ => hS,hW hS⟩))⟩
/-- Number k itself comes up: behind it nothing is asked. -/
theorem till_last {o:Oper} {n:Nat} {l:Array Bool} {a:Act} {w:World} (hr:Region.ready md ops l = [k]) (ho:ops[k]? = some o)
    (h:∀ K':Act → World → Prop,Shut (∀ a w,Till P md ops Q S k n (l.setIfInBounds k true) a w → K' a w) → if Region.wanted o (yielded ops a.tmps) = true then Oper.wp P o a w K' Q else K' (a.put o.dst undef) w):Till P md ops Q S k (n + 1) l a w:=
  ⟨fun h0 => (by rw [hr] at h0;cases h0),fun j hj => by
    rw [hr] at hj
    obtain rfl:=List.mem_singleton.1 hj
    exact wpOp_step ho (fun K' hK => h K' (fun a w hW => hK a w ⟨fun h => absurd rfl h,hW⟩))⟩
theorem till_done {l:Array Bool} {a:Act} {w:World} (hr:Region.ready md ops l = []) (h:Q .normal a w):∀ n,Till P md ops Q S k n l a w
  | 0 => ⟨hr,h⟩
  | _ + 1 => ⟨fun _ => h,by rw [hr];simp⟩
/-- The beginning. -/
theorem wp_region_till {id:Nat} {a:Act} {w:World} (S:World → Prop) (k:Nat) (hm:P.follows .mixedOrders = true) (hS:S w.drew)
    (h:S w.drew → Till P .any ops Q S k ops.size (Array.replicate ops.size false) a w.drew):(Code.region id ops true).wp P Q a w:=
  wp_region_any hm (Till.any _ _ _ _ (h hS))
end
end Go.Proofs.YtjfolhkblbakiaaGreatDoor
end
section
namespace Go.Proofs.YtjfolhkblbakiaaGreatDoor
open Go.RowKit Go.Sort
set_option linter.unusedVariables false
set_option linter.unusedSimpArgs false
set_option maxRecDepth 100000
/-- Words as cells. -/
def wcells (ws:List Int):List Value:=ws.map (Value.int .u32)
@[simp] theorem wcells_len (ws:List Int):(wcells ws).length = ws.length:=by simp [wcells]
theorem wcells_at (ws:List Int) (k:Nat) (h:k < ws.length):(wcells ws)[k]? = some (.int .u32 (ws.getD k 0)):=by simp [wcells,List.getD_eq_getElem?_getD,h]
theorem wcells_set (ws:List Int) (k:Nat) (x:Int):(wcells ws).set k (.int .u32 x) = wcells (ws.set k x):=by simp [wcells,List.map_set]
theorem wcells_one (ws:List Int):∀ u ∈ wcells ws,u.oneCell' = true:=by intro u hu;obtain ⟨x,_,rfl⟩:=List.mem_map.1 hu;rfl
/-- A block of words,as a list. -/
def WordsAt (w:World) (b:Nat) (ws:List Int):Prop:=w.heap[b]? = some (.cells (wcells ws).toArray 45 (0,0))
theorem WordsAt.lt {w:World} {b:Nat} {ws:List Int} (h:WordsAt w b ws):b < w.heap.size:=(Array.getElem?_eq_some_iff.1 h).1
theorem WordsAt.cell {w:World} {b:Nat} {ws:List Int} (h:WordsAt w b ws) {k:Nat} (hk:k < ws.length):w.cell? ⟨b,k,none⟩ = some (.int .u32 (ws.getD k 0)):=by
  unfold WordsAt at h
  simp [World.cell?,h,wcells_at ws k hk]
theorem WordsAt.frozen {w:World} {b:Nat} {ws:List Int} (h:WordsAt w b ws) (k:Nat):w.frozen? ⟨b,k,none⟩ = false:=by
  unfold WordsAt at h
  simp [World.frozen?,h]
theorem WordsAt.set {w:World} {b:Nat} {ws:List Int} (h:WordsAt w b ws) (k:Nat) (x:Int):WordsAt (w.setCell ⟨b,k,none⟩ (.int .u32 x)) b (ws.set k x):=by
  unfold WordsAt at h ⊢
  rw [← wcells_set]
  simp [World.setCell,Array.getElem?_modify,h]
theorem WordsAt.of {w w':World} {b:Nat} {ws:List Int} (h:WordsAt w b ws) (e:w'.heap[b]? = w.heap[b]?):WordsAt w' b ws:=e.trans h
theorem WordsAt.below {w w':World} {b:Nat} {ws:List Int} (h:WordsAt w b ws) (hb:Below w.heap.size w w'):WordsAt w' b ws:=h.of (hb.block b h.lt)
/-- A memory: its struct lies in block mb,its words in block rb. -/
structure MemAt (w:World) (mb rb:Nat) (ws:List Int):Prop where
  head:w.heap[mb]? = some (.cells #[.slice (some ⟨rb,0,none⟩) ws.length ws.length] 128 (0,0))
  row:WordsAt w rb ws
theorem MemAt.lt {w:World} {mb rb:Nat} {ws:List Int} (h:MemAt w mb rb ws):mb < w.heap.size ∧ rb < w.heap.size:=⟨(Array.getElem?_eq_some_iff.1 h.head).1,h.row.lt⟩
theorem MemAt.ne {w:World} {mb rb:Nat} {ws:List Int} (h:MemAt w mb rb ws):mb ≠ rb:=by
  rintro rfl
  have:=h.head.symm.trans h.row
  simp at this
theorem MemAt.cell {w:World} {mb rb:Nat} {ws:List Int} (h:MemAt w mb rb ws):w.cell? ⟨mb,0,none⟩ = some (.slice (some ⟨rb,0,none⟩) ws.length ws.length):=cell_of_one h.head
theorem MemAt.set {w:World} {mb rb:Nat} {ws:List Int} (h:MemAt w mb rb ws) (k:Nat) (x:Int):MemAt (w.setCell ⟨rb,k,none⟩ (.int .u32 x)) mb rb (ws.set k x):=by
  refine ⟨?_,h.row.set k x⟩
  rw [Below.heap_setCell _ _ _ _ h.ne,List.length_set]
  exact h.head
theorem MemAt.below {w w':World} {mb rb:Nat} {ws:List Int} (h:MemAt w mb rb ws) (hb:Below w.heap.size w w'):MemAt w' mb rb ws:=⟨(hb.block mb h.lt.1).trans h.head,h.row.below hb⟩
theorem MemAt.of {w w':World} {mb rb:Nat} {ws:List Int} (h:MemAt w mb rb ws) (h1:w'.heap[mb]? = w.heap[mb]?) (h2:w'.heap[rb]? = w.heap[rb]?):MemAt w' mb rb ws:=⟨h1.trans h.head,h.row.of h2⟩
theorem Tryz.infoW:(Tryz.prog.info? 45).map (fun i => (i.zero,i.size,i.bytes)) = some (some (.int .u32 0),1,4):=by kernel_rfl
theorem made_words (n:Nat):madeCells #[Value.int .u32 0] n = (wcells (List.replicate n 0)).toArray:=by
  apply Array.ext
  · simp [size_madeCells,wcells]
  · intro i h1 h2
    simp [madeCells,wcells,Nat.mod_one]
/-- Does a memory of that length have that address? -/
theorem memHas_b (mb rb:Nat) (ws:List Int) (a:Int) (w:World) (h:MemAt w mb rb ws) (hl:ws.length ≤ 1000000) :
    Calls Tryz.prog 80 #[.pointer (some ⟨mb,0,none⟩),.int .u64 a] w fun e w' => e = .returned (.bool (decide (a < (ws.length:Int)))) ∧ w = w':=by
  have c0:=h.cell
  clear h
  go_enter Tryz.func80,Tryz.ntmps80
  go_wp2
  go_ret
  exact ⟨rfl,rfl⟩
theorem memLoad_in (mb rb:Nat) (ws:List Int) (k:Nat) (w:World) (h:MemAt w mb rb ws) (hl:ws.length ≤ 1000000) (hk:k < ws.length) :
    Calls Tryz.prog 172 #[.pointer (some ⟨mb,0,none⟩),.int .u64 (k:Int)] w fun e w' => e = .returned (.tuple #[.int .u32 (ws.getD k 0),.int .i64 0]) ∧ w = w':=by
  have c0:=h.cell
  have c1:=h.row.cell hk
  obtain ⟨x,hx⟩:∃ x,ws.getD k 0 = x:=⟨_,rfl⟩
  rw [hx] at c1 ⊢
  clear hx
  have d1:decide ((k:Int) < (ws.length:Int)) = true:=by simpa using hk
  go_enter Tryz.func172,Tryz.ntmps172
  go_wp2_with (go_at_call 80;refine (memHas_b mb rb ws _ _ h hl).mono ?_;rintro e w' ⟨rfl,rfl⟩)
  go_ret2
  exact ⟨rfl,rfl⟩
/-- A new memory,all noughts. -/
def GivesMem (w:World) (ws:List Int) (e:Ending) (w':World):Prop:=
  ∃ mb rb,e = .returned (.tuple #[.pointer (some ⟨mb,0,none⟩),.int .i64 0]) ∧ w.heap.size ≤ mb ∧ w.heap.size ≤ rb ∧ MemAt w' mb rb ws ∧ Below w.heap.size w w'
theorem memNew_in (n:Nat) (w:World) (hn:n ≤ 65536) :
    Calls Tryz.prog 19 #[.int .i64 (n:Int)] w (GivesMem w (List.replicate n 0)):=by
  obtain ⟨i0,hi,hz0,hz1,hz2⟩:=info_parts Tryz.infoW
  go_enter Tryz.func19,Tryz.ntmps19
  go_wp2_with (refine wpList_make_row _ rfl _ _ 34 rfl 45 i0 (.int .u32 0) Tryz.underlying34 hi hz0 hz1 rfl .i64 .i64 n rfl rfl (by rw [hz2];omega) (by omega) ?_)
  go_ret2
  have hb1:Below w.heap.size w (w.alloc (.cells (madeCells #[Value.int .u32 0] n) 45)):=(Below.refl _ _).alloc (Nat.le_refl _) _
  refine ⟨w.heap.size + 1,w.heap.size,rfl,by omega,by omega,⟨?_,?_⟩,hb1.alloc (by simp) _⟩
  · have:=heap_alloc_new (w.alloc (.cells (madeCells #[Value.int .u32 0] n) 45)) (.cells #[.slice (some ⟨w.heap.size,0,none⟩) n n] 128)
    simpa using this
  · unfold WordsAt
    rw [← made_words,Below.heap_alloc _ _ _ (by simp)]
    exact heap_alloc_new w _
end Go.Proofs.YtjfolhkblbakiaaGreatDoor
end
section
namespace Go.Proofs.YtjfolhkblbakiaaGreatDoor
open Go.RowKit
set_option linter.unusedVariables false
set_option linter.unusedSimpArgs false
/-- What such an iterator does for a loop that goes on: it tells values x with G pre x (of the world at the telling),to its end. -/
def Tells {α:Type} (F:Fence) (n:Nat) (P:Program) (g:Nat) (lb:Array Value) (encs:α → Array Value) (Kp:World → World → Prop) (G:List α → α → World → Prop) (S:List α → Prop) (N:Nat) (w:World):Prop:=
  ∀ (lp:Nat) (J:List α → World → Prop) (X:World),Below w.heap.size w X → AbidesFrom X.heap.size J →
    (∀ pre x Y,J pre Y → G pre x Y → pre.length < N → YieldAt F (n - 1) P lp (encs x) Y fun e Z => e = .returned (.bool true) ∧ J (pre ++ [x]) Z ∧ Kp Y Z) →
    J [] X → CallsIn F n P g (#[.func (.yield lp) #[] #[]] ++ lb) X fun e Z => (∃ v,e = .returned v) ∧ ∃ xs,S xs ∧ J xs Z
/-- The loop's two blocks: its record r at L,the rounds' deferred calls at D. -/
structure UnderT (D L:Nat) (r:Loop) (X:World):Prop where
  record:X.heap[L]? = some (.loop r)
  sink:X.heap[D]? = some (.deferred (some []))
section
variable {D L:Nat} {r:Loop} {X Y:World}
theorem UnderT.grown (h:UnderT D L r X) {k:Option Nat} (hg:X.grownBy Y k) (hr:∀ j,k = some j → ∃ o:Obj,X.heap[j]? = some o ∧ o.isWalk = true):UnderT D L r Y:=
  ⟨(grownBy_keeps hg hr h.record rfl).trans h.record,(grownBy_keeps hg hr h.sink rfl).trans h.sink⟩
theorem UnderT.from (h:UnderT D L r X) {B:Nat} (hk:KeepsFrom B X Y) (hL:B ≤ L) (hD:B ≤ D):UnderT D L r Y:=⟨hk.same _ _ hL h.record rfl,hk.same _ _ hD h.sink rfl⟩
theorem UnderT.put (h:UnderT D L r X) (s:Loop) (hne:D ≠ L):UnderT D L s (X.putObj L (.loop s)):=
  ⟨World.putObj_heap_same (Array.getElem?_eq_some_iff.1 h.record).1,(World.putObj_heap_other hne).trans h.sink⟩
end
theorem walk_rowT {B B':Nat} (hB:B ≤ B') {X:World} {k:Option Nat} (hr:∀ j,k = some j → B' ≤ j ∧ ∃ o:Obj,X.heap[j]? = some o ∧ o.isWalk = true):∀ j,k = some j → B ≤ j ∧ ∃ o:Obj,X.heap[j]? = some o ∧ o.isCells = false:=fun j e => by
  obtain ⟨h1,o,ho,hw⟩:=hr j e
  exact ⟨by omega,o,ho,Obj.not_cells_of_walk hw⟩
section
variable {F:Fence} {n:Nat} {P:Program} {α:Type}
/-- A round that goes on. -/
def goesOn (B:Nat) (Kp:World → World → Prop) (I:List α → World → Prop) (xs:List α) (Y:World):Exit → Act → World → Prop
  | .normal,_,Z => KeepsFrom B Y Z ∧ Kp Y Z ∧ I xs Z
  | _,_,_ => False
theorem roundT_ends {B D L:Nat} (hD:B ≤ D) (hL:B ≤ L) (hDL:D ≠ L) {mk:LoopState → Option Code → Loop} (hmk:∀ st pe,({ mk .ready none with state:=st,pending:=pe }:Loop) = mk st pe) {Kp:World → World → Prop} {I:List α → World → Prop}
    (hI:OwnFrom B I) (hKt:∀ {A B C:World},Kp A B → Kp B C → Kp A C) (hKb:∀ (X:World) (l:Nat) (o o':Obj),B ≤ l → X.heap[l]? = some o → o.isCells = false → o.isWalk = false → Kp X (X.putObj l o'))
    {xs:List α} {X Y:World} (hXY:Kp X Y) (hU:UnderT D L (mk .busy none) Y):∀ (e:Exit) (a:Act) (Z:World),goesOn B Kp I xs Y e a Z →
      roundPost P L (fun e Z => e = .returned (.bool true) ∧ (I xs Z ∧ UnderT D L (mk .ready none) Z) ∧ Kp X Z) e a Z:=by
  intro e a Z hp
  match e,hp with
  | .normal,⟨hk,hkp,hi⟩ =>
    have hU2:=hU.from hk hL hD
    have hrun:=run_endRound (P:=P) none hU2.record
    rw [show ({ mk .busy none with state:=if (none:Option Code).isNone then .ready else .done,pending:=none }:Loop) = mk .ready none by rw [← hmk .busy none,← hmk .ready none];rfl] at hrun
    exact ⟨_,_,hrun,rfl,⟨hI.putObj _ hi hL hU2.record rfl,hU2.put _ hDL⟩,hKt (hKt hXY hkp) (hKb _ _ _ _ hL hU2.record rfl rfl)⟩
  | .ret,hp => exact hp.elim
  | .exit id,hp => exact hp.elim
  | .goto t,hp => exact hp.elim
  | .panic _,hp => exact hp.elim
  | .outgrown,hp => exact hp.elim
/-- THE LAW: the statement 'for x:=range g' whose body goes on: done at the iterator's end. -/
theorem wpIn_rangeFunc_tells {g:Operand} {ps:Array Tmp} {assign body:Code} {Q:Exit → Act → World → Prop} {a:Act} {w:World} (hro:F.round = none) (h1:1 ≤ n)
    {gf:Nat} {lb:Array Value} (hg:a.eval g = .func (.func gf) #[] lb) (hFg:F.fn gf) (eg:∀ args w,(callFunc gf args).run P w = .ok (.enter gf args) w)
    {encs:α → Array Value} {Kp:World → World → Prop} {G:List α → α → World → Prop} {S:List α → Prop} {N:Nat} {w0:World} (hseq:Tells F (n - 1) P gf lb encs Kp G S N w0)
    (hKt:∀ {A B C:World},Kp A B → Kp B C → Kp A C) (hKb:∀ (X:World) (l:Nat) (o o':Obj),w.heap.size ≤ l → X.heap[l]? = some o → o.isCells = false → o.isWalk = false → Kp X (X.putObj l o')) (hb0:Below w0.heap.size w0 w) (hps:∀ x,(encs x).size = ps.size)
    (I:List α → World → Prop) (hI:OwnFrom w.heap.size I) (hG:∀ pre,OwnFrom w.heap.size (G pre)) (h0:I [] w) (a₁:α → Act)
    (hassign:∀ (lp:Nat) (x:α) (X:World) (K:Act → World → Prop),K (a₁ x) X →
      assign.wpIn (F.inRound lp) (n - 1 - 1) P (Exit.then K (fun _ _ _ => False)) { tmps:=(ps.zip (encs x)).foldl (fun t (p,v) => t.setIfInBounds p v) a.tmps,defers:=[] } X)
    (hbody:∀ (lp:Nat) (pre:List α) (x:α) (X:World),I pre X → G pre x X → pre.length < N → body.wpIn (F.inRound lp) (n - 1 - 1) P (goesOn w.heap.size Kp I (pre ++ [x]) X) (a₁ x) X)
    (hdone:∀ (D:Nat) (xs:List α) (X:World),w.heap.size ≤ D → S xs → I xs X → X.heap[D]? = some (.deferred (some [])) → Q .normal { a with defers:={ target:=.collected D,args:=#[] } :: a.defers } X) :
    (Code.rangeFunc g ps assign body).wpIn F n P Q a w:=by
  refine wpIn_rangeFunc fun fn hfn => ?_
  rw [hro]
  obtain ⟨mk,hmk⟩:∃ mk:LoopState → Option Code → Loop,mk = fun st pe => { state:=st,pending:=pe,fn,tmps:=a.tmps,params:=ps,assign,body,defers:=w.heap.size }:=⟨_,rfl⟩
  obtain ⟨V,hV⟩:∃ V,(w.alloc (.deferred (some []))).alloc (.loop (mk .ready none)) = V:=⟨_,rfl⟩
  have hU:UnderT w.heap.size (w.heap.size + 1) (mk .ready none) V:=by
    rw [← hV]
    refine ⟨?_,(Below.heap_alloc _ _ _ (by simp)).trans (World.alloc_heap_new w _)⟩
    have:=World.alloc_heap_new (w.alloc (.deferred (some []))) (.loop (mk .ready none))
    rwa [World.size_alloc] at this
  have hbV:Below w.heap.size w V:=by rw [← hV];exact ((Below.refl _ w).alloc (Nat.le_refl _) _).alloc (by simp) _
  have hIV:I [] V:=by rw [← hV];exact hI.alloc _ (hI.alloc _ h0)
  have hVs:=hbV.size
  refine ⟨w.heap.size + 1,[{ target:=.collected w.heap.size,args:=#[] }],V,{ target:=.fn (.func gf) lb,args:=#[.func (.yield (w.heap.size + 1)) #[] #[]] },V,gf,#[.func (.yield (w.heap.size + 1)) #[] #[]] ++ lb,V,?_,?_,?_,?_,fun _ => h1,?_⟩
  · rw [← hV,hmk];exact run_enterLoop_outer _ _ _ _ _
  · simp only [resolve,hg];simp [go_sem]
  · intro f' hf';simp [Target.leads] at hf';subst hf';exact hFg
  · simp [invoke,go_sem,eg]
  refine (hseq (w.heap.size + 1) (fun pre X => I pre X ∧ UnderT w.heap.size (w.heap.size + 1) (mk .ready none) X) V (hb0.trans (hbV.mono hb0.size))
    (fun s X Y k hs hg' hr => ⟨hI s X Y k hs.1 hg' (walk_rowT hVs hr),hs.2.grown hg' (fun j e => (hr j e).2)⟩) ?_ ⟨hIV,hU⟩).mono ?_
  · rintro pre x X ⟨hi,hu⟩ hGx hlt
    have hy:=run_yield (P:=P) (args:=encs x) hu.record (by rw [hmk];exact hps x)
    have hbeg:(Instr.beginRound (w.heap.size + 1)).run P X = .ok () (X.putObj (w.heap.size + 1) (.loop (mk .busy none))):=by
      have:=run_beginRound (P:=P) hu.record (by rw [hmk])
      rw [hmk] at this ⊢
      exact this
    have hu2:=hu.put (mk .busy none) (by omega)
    have hk2:Kp X (X.putObj (w.heap.size + 1) (.loop (mk .busy none))):=hKb _ _ _ _ (by omega) hu.record rfl rfl
    have hround:=roundT_ends (P:=P) (Kp:=Kp) (I:=I) (X:=X) (xs:=pre ++ [x]) (Nat.le_refl w.heap.size) (by omega) (by omega) (mk:=mk) (fun st pe => by rw [hmk]) hI (fun h k => hKt h k) hKb hk2 hu2
    have hb:=wpIn_mono (hbody (w.heap.size + 1) pre x _ (hI.putObj _ hi (by omega) hu.record rfl) ((hG pre).putObj _ hGx (by omega) hu.record rfl) hlt) hround
    rw [hmk] at hy
    exact ⟨fn,_,assign,body,hy,roundIn_of_wpIn hfn (hassign _ x X _ ⟨_,hbeg,hb⟩)⟩
  · rintro e Z ⟨⟨v,rfl⟩,xs,hS,hi,hu⟩
    have hend:=run_endLoop (P:=P) hu.record (by rw [hmk];simp)
    have hp:(mk .ready none).pending = none:=by rw [hmk]
    rw [hp] at hend
    exact ⟨none,_,hend,hdone _ xs _ (Nat.le_refl _) hS (hI.putObj _ hi (by omega) hu.record rfl) ((World.putObj_heap_other (by omega)).trans hu.sink)⟩
end
end Go.Proofs.YtjfolhkblbakiaaGreatDoor
end
