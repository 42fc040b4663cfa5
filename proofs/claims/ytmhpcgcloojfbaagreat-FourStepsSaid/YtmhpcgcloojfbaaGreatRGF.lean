/- Texts of the ring, joined, what is used of them. No condition but those in the statements. -/
import Derived.BigQuiet
import Derived.BigRegion
import Derived.Deep.MidRow
import Derived.Deep.RegionHeld3
import Derived.Deep.Upon
import Derived.IntWalk
import Derived.Shelf.Abstract
import Derived.Test.YtmhpcgcloojfbaaGreatRRK
import Derived.Test.YtmhpcgcloojfbaaGreatRgA
import Derived.Test.YtmhpcgcloojfbaaGreatRgO
namespace Go.Proofs.YtmhpcgcloojfbaaGreat
open Go.RowKit Go.Sort
set_option linter.unusedVariables false
set_option linter.unusedSimpArgs false
set_option linter.unusedVariables false
set_option linter.unusedSimpArgs false
def cfg2 (n per:Int):Cfg:=⟨[[0,1],[1,0]],[[1,0,1,n,0,per,0]],1,[[0,0,1]],1,[[1,0,1]]⟩
theorem cfg2_acc {n per:Int} (h1:1 ≤ n) (h2:n ≤ 16) (h3:0 ≤ per) (h4:per ≤ 1048576):acceptsB (cfg2 n per) = true:=by
  have h8:holdsB (cfg2 n per) 8 = false:=by
    show (chanBad 2 8 [1,0,1,n,0,per,0] || false) = false
    rw [Bool.or_false]
    show decide (n < 1 ∨ 16 < n) = false
    exact decide_eq_false (by omega)
  have h10:holdsB (cfg2 n per) 10 = false:=by
    show (chanBad 2 10 [1,0,1,n,0,per,0] || false) = false
    rw [Bool.or_false]
    show decide (((1:Int) = 1 ∧ (per < 0 ∨ 1048576 < per)) ∨ ((1:Int) = 2 ∧ per ≠ 0)) = false
    exact decide_eq_false (by omega)
  unfold acceptsB allB
  rw [decide_eq_true_eq,List.filter_eq_nil_iff]
  intro k hk
  obtain ⟨i,hi,rfl⟩:=List.mem_map.1 hk
  have hi:=List.mem_range.1 hi
  rw [Bool.not_eq_true]
  match i,hi with
  | 0,_ => exact rfl
  | 1,_ => exact rfl
  | 2,_ => exact rfl
  | 3,_ => exact rfl
  | 4,_ => exact rfl
  | 5,_ => exact rfl
  | 6,_ => exact rfl
  | 7,_ => exact h8
  | 8,_ => exact rfl
  | 9,_ => exact h10
  | 10,_ => exact rfl
  | 11,_ => exact rfl
  | 12,_ => exact rfl
  | 13,_ => exact rfl
  | 14,_ => exact rfl
  | 15,_ => exact rfl
  | 16,_ => exact rfl
  | j + 17,hj => exact absurd hj (by omega)
theorem cfg2_wf {n per:Int} (h1:(Lit.int .i64 n).wf = true) (h2:(Lit.int .i64 per).wf = true):CfgWf (cfg2 n per):=
  ⟨fun q hq => by simp [cfg2] at hq;rcases hq with rfl | rfl <;> exact wfN2_mk rfl rfl,fun q hq => by simp [cfg2] at hq;subst hq;exact wfN7_mk rfl rfl rfl h1 rfl h2 rfl,fun q hq => by simp [cfg2] at hq;subst hq;exact wfN3_mk rfl rfl rfl,fun q hq => by simp [cfg2] at hq;subst hq;exact wfN3_mk rfl rfl rfl,rfl,rfl⟩
theorem cfg2_few (n per:Int):CfgFew (cfg2 n per):=⟨by simp [cfg2],by simp [cfg2],by simp [cfg2],by simp [cfg2]⟩
section
variable {n per:Int} (h1:1 ≤ n) (h2:n ≤ 16) (h3:0 ≤ per) (h4:per ≤ 1048576)
include h1 h2 h3 h4
theorem cfg2_chan:chanB (cfg2 n per) 0 = true:=by unfold chanB;rw [cfg2_acc h1 h2 h3 h4];rfl
theorem cfg2_src:srcSpan (cfg2 n per) 0 = (1,11 + 4 * n):=by
  unfold srcSpan
  rw [if_pos (cfg2_chan h1 h2 h3 h4)]
  refine Prod.ext (by rfl) ?_
  show srcN [1,0,1,n,0,per,0] = 11 + 4 * n
  unfold srcN
  simp [fld] <;> omega
theorem cfg2_dst:dstSpan (cfg2 n per) 0 = (12 + 4 * n,1):=by
  have hs:=cfg2_src h1 h2 h3 h4
  unfold srcSpan at hs
  unfold dstSpan
  rw [if_pos (cfg2_chan h1 h2 h3 h4)] at hs ⊢
  have e1:=congrArg Prod.fst hs
  have e2:=congrArg Prod.snd hs
  simp only at e1 e2
  rw [e1,e2]
  refine Prod.ext ?_ rfl
  show 1 + (11 + 4 * n) = 12 + 4 * n
  omega
theorem cfg2_size:sizeN (cfg2 n per) = 13 + 4 * n:=by
  unfold sizeN
  rw [if_pos (cfg2_acc h1 h2 h3 h4)]
  show beforeN (cfg2 n per) 1 = _
  have hs:=congrArg Prod.snd (cfg2_src h1 h2 h3 h4)
  unfold srcSpan at hs
  rw [if_pos (cfg2_chan h1 h2 h3 h4)] at hs
  unfold beforeN
  show privUp [[0,1],[1,0]] 2 + (0 + srcN (row [[1,0,1,n,0,per,0]] 0) + 1) = _
  have hs2:srcN (row [[1,0,1,n,0,per,0]] 0) = 11 + 4 * n:=hs
  rw [hs2]
  show (0 + 1 + 0:Int) + (0 + (11 + 4 * n) + 1) = _
  omega
end
end Go.Proofs.YtmhpcgcloojfbaaGreat
namespace Go.Proofs.YtmhpcgcloojfbaaGreat
open Go.RowKit Go.Sort
set_option linter.unusedVariables false
set_option linter.unusedSimpArgs false
set_option linter.unusedVariables false
set_option linter.unusedSimpArgs false
open Go.Proofs.YtmhpcgcloojfbaaGreat.Simp
set_option maxRecDepth 100000
set_option maxHeartbeats 1600000
/-- A memory,a write and a read of one channel (or none),and blocks E that are not theirs;what was there ahead of w1 stands (B: its size,or less). -/
structure Duo (w1 w:World) (B:Nat) (E:Nat → Prop) (mb rb:Nat) (F:Fr) (ws:List Int) (ow or_:Option (Nat × FS)):Prop where
  below:Below B w1 w
  mem:MemAt w mb rb ws
  low:B ≤ mb ∧ B ≤ rb ∧ B ≤ w1.heap.size
  fin:FIn F ws.length
  w32:W32 ws
  two:∃ Sw Sr:Nat → Prop,(∀ k,Sw k → ¬ Sr k) ∧ (∀ k,Sw k ∨ Sr k → B ≤ k ∧ k ≠ mb ∧ k ≠ rb ∧ k < w.heap.size) ∧ (∀ k,E k → ¬ Sw k ∧ ¬ Sr k ∧ k ≠ mb ∧ k ≠ rb ∧ k < w.heap.size) ∧
    (∀ wb s,ow = some (wb,s) → WAt w Sw wb F s ∧ W32 s.data) ∧ (∀ wb s,or_ = some (wb,s) → RAt w Sr wb F s ∧ W32 s.data)
section
variable {w1 w w':World} {B mb rb:Nat} {E:Nat → Prop} {F:Fr} {ws:List Int} {ow or_:Option (Nat × FS)}
theorem Duo.first (hb:Below B w1 w) (hm:MemAt w mb rb ws) (hl:B ≤ mb ∧ B ≤ rb ∧ B ≤ w1.heap.size) (hf:FIn F ws.length) (h32:W32 ws) (hE:∀ k,E k → k ≠ mb ∧ k ≠ rb ∧ k < w.heap.size):Duo w1 w B E mb rb F ws none none:=
  ⟨hb,hm,hl,hf,h32,fun _ => False,fun _ => False,fun _ h => h.elim,fun _ h => h.elim False.elim False.elim,fun k hk => ⟨fun h => h,fun h => h,hE k hk⟩,(fun _ _ h => by cases h),(fun _ _ h => by cases h)⟩
/-- Other blocks turn,or new ones come. -/
theorem Duo.only (h:Duo w1 w B E mb rb F ws ow or_) {T:Nat → Prop} (ho:Only T w w') (hT:∀ k,k < w.heap.size → T k → E k ∧ B ≤ k) {E':Nat → Prop} (hE:∀ k,E' k → E k ∨ (w.heap.size ≤ k ∧ k < w'.heap.size)):Duo w1 w' B E' mb rb F ws ow or_:=by
  obtain ⟨Sw,Sr,h1,h2,h3,h4,h5⟩:=h.two
  have hnT:∀ k,k < w.heap.size → ¬ E k → ¬ T k:=fun k hk he ht => he (hT k hk ht).1
  have hTw:∀ k,Sw k → ¬ T k:=fun k hk => hnT k (h2 k (.inl hk)).2.2.2 (fun he => (h3 k he).1 hk)
  have hTr:∀ k,Sr k → ¬ T k:=fun k hk => hnT k (h2 k (.inr hk)).2.2.2 (fun he => (h3 k he).2.1 hk)
  have hml:=h.mem.lt
  have hbs:=h.below.size
  have hbl:=h.low.2.2
  have hB:Below B w w':=⟨ho.os,ho.tape,ho.output,ho.size,fun k hk => ho.block k (by omega) (fun ht => by have:=(hT k (by omega) ht).2;omega)⟩
  refine ⟨h.below.trans hB,h.mem.only ho (hnT mb hml.1 (fun he => (h3 mb he).2.2.1 rfl)) (hnT rb hml.2 (fun he => (h3 rb he).2.2.2.1 rfl)),h.low,h.fin,h.w32,Sw,Sr,h1,fun k hk => ?_,fun k hk => ?_,fun wb s e => ⟨(h4 wb s e).1.only ho hTw,(h4 wb s e).2⟩,fun wb s e => ⟨(h5 wb s e).1.only ho hTr,(h5 wb s e).2⟩⟩
  · have:=h2 k hk;exact ⟨this.1,this.2.1,this.2.2.1,Nat.lt_of_lt_of_le this.2.2.2 ho.size⟩
  · rcases hE k hk with he | ⟨hk1,hk2⟩
    · have:=h3 k he;exact ⟨this.1,this.2.1,this.2.2.1,this.2.2.2.1,Nat.lt_of_lt_of_le this.2.2.2.2 ho.size⟩
    · refine ⟨fun hs => ?_,fun hs => ?_,by omega,by omega,hk2⟩
      · have:=(h2 k (.inl hs)).2.2.2;omega
      · have:=(h2 k (.inr hs)).2.2.2;omega
theorem Duo.later (h:Duo w1 w B E mb rb F ws ow or_) (hb:Below w.heap.size w w'):Duo w1 w' B E mb rb F ws ow or_:=h.only (T:=fun _ => False) (Only.of_below hb) (fun _ _ h => h.elim) (fun _ h => .inl h)
theorem Duo.newW (h:Duo w1 w B E mb rb F ws ow or_) {S:Nat → Prop} {wb:Nat} {s:FS} (hat:WAt w' S wb F s) (hS:∀ k,S k → w.heap.size ≤ k) (hb:Below w.heap.size w w') (hd:W32 s.data):Duo w1 w' B E mb rb F ws (some (wb,s)) or_:=by
  have hl:=h.later hb
  obtain ⟨Sw,Sr,h1,h2,h3,h4,h5⟩:=h.two
  have hlow:∀ k,S k → k < w'.heap.size:=by obtain ⟨_,_,_,_,hx⟩:=hat;exact hx.low
  have hml:=h.mem.lt
  have hbs:=h.below.size
  have hbl:=h.low.2.2
  have hs:=hb.size
  refine ⟨hl.below,hl.mem,hl.low,hl.fin,hl.w32,S,Sr,fun k a b => ?_,fun k hk => ?_,fun k he => ?_,(fun wb' s' e => by cases e;exact ⟨hat,hd⟩),fun wb' s' e => ⟨(h5 wb' s' e).1.only (T:=fun _ => False) (Only.of_below hb) (fun _ _ h => h),(h5 wb' s' e).2⟩⟩
  · have:=hS k a;have:=(h2 k (.inr b)).2.2.2;omega
  · rcases hk with a | a
    · have:=hS k a;have:=hlow k a;exact ⟨by omega,by omega,by omega,by omega⟩
    · have:=h2 k (.inr a);exact ⟨this.1,this.2.1,this.2.2.1,by omega⟩
  · have:=h3 k he;exact ⟨fun a => by have:=hS k a;omega,this.2.1,this.2.2.1,this.2.2.2.1,by omega⟩
theorem Duo.newR (h:Duo w1 w B E mb rb F ws ow or_) {S:Nat → Prop} {wb:Nat} {s:FS} (hat:RAt w' S wb F s) (hS:∀ k,S k → w.heap.size ≤ k) (hb:Below w.heap.size w w') (hd:W32 s.data):Duo w1 w' B E mb rb F ws ow (some (wb,s)):=by
  have hl:=h.later hb
  obtain ⟨Sw,Sr,h1,h2,h3,h4,h5⟩:=h.two
  have hlow:∀ k,S k → k < w'.heap.size:=by obtain ⟨_,_,hx⟩:=hat;exact hx.low
  have hml:=h.mem.lt
  have hbs:=h.below.size
  have hbl:=h.low.2.2
  have hs:=hb.size
  refine ⟨hl.below,hl.mem,hl.low,hl.fin,hl.w32,Sw,S,fun k a b => ?_,fun k hk => ?_,fun k he => ?_,fun wb' s' e => ⟨(h4 wb' s' e).1.only (T:=fun _ => False) (Only.of_below hb) (fun _ _ h => h),(h4 wb' s' e).2⟩,(fun wb' s' e => by cases e;exact ⟨hat,hd⟩)⟩
  · have:=hS k b;have:=(h2 k (.inl a)).2.2.2;omega
  · rcases hk with a | a
    · have:=h2 k (.inl a);exact ⟨this.1,this.2.1,this.2.2.1,by omega⟩
    · have:=hS k a;have:=hlow k a;exact ⟨by omega,by omega,by omega,by omega⟩
  · have:=h3 k he;exact ⟨this.1,fun a => by have:=hS k a;omega,this.2.2.1,this.2.2.2.1,by omega⟩
theorem Duo.stepW {wb:Nat} {s:FS} (now:Int) (h:Duo w1 w B E mb rb F ws (some (wb,s)) or_) :
    Calls Tryz.prog 15 #[.pointer (some ⟨wb,0,none⟩),.pointer (some ⟨mb,0,none⟩),.int .i64 now] w fun e w' => e = .returned (.agg (didOf (wstep F s ws now).2.2 (.slice none 0 0))) ∧ Duo w1 w' B E mb rb F (wstep F s ws now).2.1 (some (wb,(wstep F s ws now).1)) or_ ∧ Only (fun k => ¬ E k ∧ B ≤ k) w w':=by
  obtain ⟨Sw,Sr,h1,h2,h3,h4,h5⟩:=h.two
  obtain ⟨hat,hd⟩:=h4 wb s rfl
  have hn2:=h.fin.n2
  have hq:s.pair ≤ 1 ∧ s.index ≤ 1 ∧ s.data.length ≤ F.n:=by obtain ⟨_,_,_,_,hx⟩:=hat;exact ⟨hx.pi.1,hx.pi.2,hx.len.2⟩
  obtain ⟨q1,q2,q3,q4,-⟩:=wstep_w32 (F:=F) (now:=now) h.w32 hd (by omega) hq.1 hq.2.1
  have hml:=h.mem.lt
  refine (wstep_b now hat h.mem ⟨fun a => (h2 mb (.inl a)).2.1 rfl,fun a => (h2 rb (.inl a)).2.2.1 rfl⟩ h.fin h.w32 hd).mono ?_
  rintro e w' ⟨S',rfl,hat',hm',ho,hS'⟩
  have hlow:∀ k,S' k → k < w'.heap.size:=by obtain ⟨_,_,_,_,hx⟩:=hat';exact hx.low
  have hbs:=h.below.size
  have hbl:=h.low
  have hs:=ho.size
  have ho2:Only (fun k => ¬ E k ∧ B ≤ k) w w':=ho.mono (fun k hk a => a.elim (fun a => ⟨fun e => (h3 k e).1 a,(h2 k (.inl a)).1⟩) (fun a => ⟨fun e => (h3 k e).2.2.2.1 a,by omega⟩))
  refine ⟨rfl,⟨h.below.trans ⟨ho2.os,ho2.tape,ho2.output,ho2.size,fun k hk => ho2.block k (by omega) (fun a => by omega)⟩,hm',h.low,by rw [q2];exact h.fin,q1,S',Sr,fun k a b => ?_,fun k hk => ?_,fun k he => ?_,(fun wb' s' e => by cases e;exact ⟨hat',q3⟩),fun wb' s' e => ⟨(h5 wb' s' e).1.only ho (fun k a b => b.elim (fun b => h1 k b a) (fun b => (h2 k (.inr a)).2.2.1 b)),(h5 wb' s' e).2⟩⟩,ho2⟩
  · rcases hS' k a with a | a
    · exact h1 k a b
    · have:=(h2 k (.inr b)).2.2.2;omega
  · rcases hk with a | a
    · have:=hlow k a
      rcases hS' k a with a | a
      · have:=h2 k (.inl a);exact ⟨this.1,this.2.1,this.2.2.1,by omega⟩
      · exact ⟨by omega,by omega,by omega,by omega⟩
    · have:=h2 k (.inr a);exact ⟨this.1,this.2.1,this.2.2.1,by omega⟩
  · have:=h3 k he
    exact ⟨fun a => (hS' k a).elim this.1 (fun a => by omega),this.2.1,this.2.2.1,this.2.2.2.1,by omega⟩
theorem Duo.stepR {wb:Nat} {s:FS} (now:Int) (hnow:0 ≤ now ∧ now ≤ 1000000000000) (h:Duo w1 w B E mb rb F ws ow (some (wb,s))) :
    Calls Tryz.prog 17 #[.pointer (some ⟨wb,0,none⟩),.pointer (some ⟨mb,0,none⟩),.int .i64 now] w fun e w' => ∃ v,e = .returned (.agg (didOf (rstep F s ws now).2.2 v)) ∧ OwnsOff w' 0 34 1 v (rstep F s ws now).2.2.data.length (wcells (rstep F s ws now).2.2.data) ∧ Duo w1 w' B E mb rb F (rstep F s ws now).2.1 ow (some (wb,(rstep F s ws now).1)) ∧
      Duo w1 w' B (fun k => E k ∨ v.ownBlock = some k) mb rb F (rstep F s ws now).2.1 ow none ∧ (∀ g,v.ownBlock = some g → ¬ E g ∧ B ≤ g) ∧ Only (fun k => ¬ E k ∧ B ≤ k) w w':=by
  obtain ⟨Sw,Sr,h1,h2,h3,h4,h5⟩:=h.two
  obtain ⟨hat,hd⟩:=h5 wb s rfl
  have hq:s.pair ≤ 1 ∧ s.index ≤ 1:=by obtain ⟨_,_,hx⟩:=hat;exact hx.pi
  obtain ⟨q1,q2,q3,-⟩:=rstep_w32 (F:=F) (now:=now) h.w32 hd hq.1 hq.2
  have hml:=h.mem.lt
  refine (rstep_b now hat h.mem ⟨fun a => (h2 mb (.inr a)).2.1 rfl,fun a => (h2 rb (.inr a)).2.2.1 rfl⟩ h.fin h.w32 hnow).mono ?_
  rintro e w' ⟨S',v,rfl,hat',hv,hvS,hm',ho,hS'⟩
  have hlow:∀ k,S' k → k < w'.heap.size:=by obtain ⟨_,_,hx⟩:=hat';exact hx.low
  have hbs:=h.below.size
  have hbl:=h.low
  have hs:=ho.size
  have ho2:Only (fun k => ¬ E k ∧ B ≤ k) w w':=ho.mono (fun k hk a => a.elim (fun a => ⟨fun e => (h3 k e).2.1 a,(h2 k (.inr a)).1⟩) (fun a => ⟨fun e => (h3 k e).2.2.2.1 a,by omega⟩))
  have hdis:∀ k,Sw k → ¬ S' k:=fun k a b => by
    rcases hS' k b with b | b
    · exact h1 k a b
    · have:=(h2 k (.inl a)).2.2.2;omega
  have hall:∀ k,Sw k ∨ S' k → B ≤ k ∧ k ≠ mb ∧ k ≠ rb ∧ k < w'.heap.size:=fun k hk => by
    rcases hk with a | a
    · have:=h2 k (.inl a);exact ⟨this.1,this.2.1,this.2.2.1,by omega⟩
    · have:=hlow k a
      rcases hS' k a with a | a
      · have:=h2 k (.inr a);exact ⟨this.1,this.2.1,this.2.2.1,by omega⟩
      · exact ⟨by omega,by omega,by omega,by omega⟩
  have hE:∀ k,E k → ¬ Sw k ∧ ¬ S' k ∧ k ≠ mb ∧ k ≠ rb ∧ k < w'.heap.size:=fun k he => by
    have:=h3 k he
    exact ⟨this.1,fun a => (hS' k a).elim this.2.1 (fun a => by omega),this.2.2.1,this.2.2.2.1,by omega⟩
  have hbel:Below B w1 w':=h.below.trans ⟨ho2.os,ho2.tape,ho2.output,ho2.size,fun k hk => ho2.block k (by omega) (fun a => by omega)⟩
  have hwr:∀ wb s,ow = some (wb,s) → WAt w' Sw wb F s ∧ W32 s.data:=fun wb' s' e => ⟨(h4 wb' s' e).1.only ho (fun k a b => b.elim (fun b => h1 k a b) (fun b => (h2 k (.inl a)).2.2.1 b)),(h4 wb' s' e).2⟩
  refine ⟨v,rfl,hv,⟨hbel,hm',h.low,by rw [q2];exact h.fin,q1,Sw,S',hdis,hall,hE,hwr,(fun wb' s' e => by cases e;exact ⟨hat',q3⟩)⟩,⟨hbel,hm',h.low,by rw [q2];exact h.fin,q1,Sw,fun _ => False,fun _ _ h => h,fun k hk => hall k (hk.imp id False.elim),fun k hk => ?_,hwr,(fun _ _ e => by cases e)⟩,fun g hg => ⟨fun he => (hE g he).2.1 (hvS g hg),(hall g (.inr (hvS g hg))).1⟩,ho2⟩
  rcases hk with a | a
  · have:=hE k a;exact ⟨this.1,fun h => h,this.2.2.1,this.2.2.2.1,this.2.2.2.2⟩
  · have:=hall k (.inr (hvS k a));exact ⟨fun b => hdis k b (hvS k a),fun h => h,this.2.1,this.2.2.1,this.2.2.2⟩
end
end Go.Proofs.YtmhpcgcloojfbaaGreat
namespace Go.Proofs.YtmhpcgcloojfbaaGreat
open Go.RowKit Go.Sort
set_option linter.unusedVariables false
set_option linter.unusedSimpArgs false
set_option linter.unusedVariables false
set_option linter.unusedSimpArgs false
open Go.Proofs.YtmhpcgcloojfbaaGreat.Simp
set_option maxRecDepth 100000
set_option maxHeartbeats 1600000
theorem two_b (n per:Int) (w:World) (h1:(Lit.int .i64 n).wf = true) (h2:(Lit.int .i64 per).wf = true):Calls Tryz.prog 29 #[.int .i64 n,.int .i64 per] w fun e w' => ∃ x,e = .returned (.agg (cfgCells (cfg2 n per) x)) ∧ CfgIn w' w'.heap.size (cfg2 n per) x ∧ Below w.heap.size w w':=by
  have hwf:=cfg2_wf h1 h2
  go_enter Tryz.func29,Tryz.ntmps29
  go_wp2
  obtain ⟨V,hV⟩:∃ u,Hid (u = ((((((w.alloc (.cells #[.slice (some ⟨w.heap.size + 1,0,none⟩) 2 2,.slice (some ⟨w.heap.size + 1 + 1,0,none⟩) 1 1,.int .i64 1,.slice (some ⟨w.heap.size + 1 + 1 + 1 + 1,0,none⟩) 1 1,.int .i64 1,.slice (some ⟨w.heap.size + 1 + 1 + 1 + 1 + 1,0,none⟩) 1 1] 29)).alloc (.cells #[.int .i64 0,.int .i64 1,.int .i64 1,.int .i64 0] 123)).alloc (.cells #[.int .i64 1,.int .i64 0,.int .i64 1,.int .i64 n,.int .i64 0,.int .i64 per,.int .u32 0] 36)).alloc (.cells #[.slice (some ⟨w.heap.size + 1,0,none⟩) 2 2,.slice (some ⟨w.heap.size + 1 + 1,0,none⟩) 1 1,.int .i64 1,.slice (some ⟨w.heap.size + 1 + 1 + 1 + 1,0,none⟩) 1 1,.int .i64 1,.slice (some ⟨w.heap.size + 1 + 1 + 1 + 1 + 1,0,none⟩) 1 1] 29)).alloc (.cells #[.int .i64 0,.int .i64 0,.int .i64 1] 125)).alloc (.cells #[.int .i64 1,.int .i64 0,.int .i64 1] 125))):=⟨_,rfl⟩
  rw [← hV.out]
  have h0:V.heap[w.heap.size]? = some (.cells #[.slice (some ⟨w.heap.size + 1,0,none⟩) 2 2,.slice (some ⟨w.heap.size + 1 + 1,0,none⟩) 1 1,.int .i64 1,.slice (some ⟨w.heap.size + 1 + 1 + 1 + 1,0,none⟩) 1 1,.int .i64 1,.slice (some ⟨w.heap.size + 1 + 1 + 1 + 1 + 1,0,none⟩) 1 1] 29):=by rw [hV.out];rw [Below.heap_alloc _ _ _ (by simp;try omega)];rw [Below.heap_alloc _ _ _ (by simp;try omega)];rw [Below.heap_alloc _ _ _ (by simp;try omega)];rw [Below.heap_alloc _ _ _ (by simp;try omega)];rw [Below.heap_alloc _ _ _ (by simp;try omega)];exact heap_new_at _ _ (by simp)
  have h1:V.heap[w.heap.size + 1]? = some (.cells #[.int .i64 0,.int .i64 1,.int .i64 1,.int .i64 0] 123):=by rw [hV.out];rw [Below.heap_alloc _ _ _ (by simp;try omega)];rw [Below.heap_alloc _ _ _ (by simp;try omega)];rw [Below.heap_alloc _ _ _ (by simp;try omega)];rw [Below.heap_alloc _ _ _ (by simp;try omega)];exact heap_new_at _ _ (by simp)
  have h2:V.heap[w.heap.size + 1 + 1]? = some (.cells #[.int .i64 1,.int .i64 0,.int .i64 1,.int .i64 n,.int .i64 0,.int .i64 per,.int .u32 0] 36):=by rw [hV.out];rw [Below.heap_alloc _ _ _ (by simp;try omega)];rw [Below.heap_alloc _ _ _ (by simp;try omega)];rw [Below.heap_alloc _ _ _ (by simp;try omega)];exact heap_new_at _ _ (by simp)
  have h3:V.heap[w.heap.size + 1 + 1 + 1]? = some (.cells #[.slice (some ⟨w.heap.size + 1,0,none⟩) 2 2,.slice (some ⟨w.heap.size + 1 + 1,0,none⟩) 1 1,.int .i64 1,.slice (some ⟨w.heap.size + 1 + 1 + 1 + 1,0,none⟩) 1 1,.int .i64 1,.slice (some ⟨w.heap.size + 1 + 1 + 1 + 1 + 1,0,none⟩) 1 1] 29):=by rw [hV.out];rw [Below.heap_alloc _ _ _ (by simp;try omega)];rw [Below.heap_alloc _ _ _ (by simp;try omega)];exact heap_new_at _ _ (by simp)
  have h4:V.heap[w.heap.size + 1 + 1 + 1 + 1]? = some (.cells #[.int .i64 0,.int .i64 0,.int .i64 1] 125):=by rw [hV.out];rw [Below.heap_alloc _ _ _ (by simp;try omega)];exact heap_new_at _ _ (by simp)
  have h5:V.heap[w.heap.size + 1 + 1 + 1 + 1 + 1]? = some (.cells #[.int .i64 1,.int .i64 0,.int .i64 1] 125):=by rw [hV.out];exact heap_new_at _ _ (by simp)
  have hB:Below w.heap.size w V:=by rw [hV.out];exact ((((((Below.refl _ _).alloc (Nat.le_refl _) _).alloc (by simp;try omega) _).alloc (by simp;try omega) _).alloc (by simp;try omega) _).alloc (by simp;try omega) _).alloc (by simp;try omega) _
  have hS:V.heap.size = w.heap.size + 6:=by rw [hV.out];simp
  have y0:=cell_blk h0 (i:=0) rfl
  have y1:=cell_blk h0 (i:=1) rfl
  have y2:=cell_blk h0 (i:=2) rfl
  have y3:=cell_blk h0 (i:=3) rfl
  have y4:=cell_blk h0 (i:=4) rfl
  have y5:=cell_blk h0 (i:=5) rfl
  clear hV
  refine bodyPost_ret (v:=.agg #[.slice (some ⟨w.heap.size + 1,0,none⟩) 2 2,.slice (some ⟨w.heap.size + 1 + 1,0,none⟩) 1 1,.int .i64 1,.slice (some ⟨w.heap.size + 1 + 1 + 1 + 1,0,none⟩) 1 1,.int .i64 1,.slice (some ⟨w.heap.size + 1 + 1 + 1 + 1 + 1,0,none⟩) 1 1]) (by simp [results,Tryz.results29,go_sem,y0,y1,y2,y3,y4,y5]) rfl ⟨⟨some ⟨w.heap.size + 1,0,none⟩,2,some ⟨w.heap.size + 1 + 1,0,none⟩,1,some ⟨w.heap.size + 1 + 1 + 1 + 1,0,none⟩,1,some ⟨w.heap.size + 1 + 1 + 1 + 1 + 1,0,none⟩,1⟩,rfl,⟨?_,?_,?_,?_,?_,?_,?_,?_⟩,hB⟩
  · exact row_lit [.i64,.i64] (l:=(cfg2 n per).parts) h1 (by omega) hwf.wp rfl
  · exact row_lit [.i64,.i64,.i64,.i64,.i64,.i64,.u32] (l:=(cfg2 n per).chans) h2 (by omega) hwf.wc rfl
  · exact row_lit [.i64,.i64,.i64] (l:=(cfg2 n per).win0) h4 (by omega) hwf.wa rfl
  · exact row_lit [.i64,.i64,.i64] (l:=(cfg2 n per).win1) h5 (by omega) hwf.wb rfl
  all_goals exact ⟨by simp [cfg2],by simp [maxLen],fun h => by cases h⟩
theorem frOf2 {n:Nat} {per:Int} (h1:1 ≤ n) (h2:n ≤ 16) (h3:0 ≤ per) (h4:per ≤ 1048576):FrOf (cfg2 n per) 0 (fr2 n per):=by
  have hs:=cfg2_src (n:=(n:Int)) (per:=per) (by omega) (by omega) h3 h4
  have hd:=cfg2_dst (n:=(n:Int)) (per:=per) (by omega) (by omega) h3 h4
  have h:=frOf (c:=cfg2 n per) (cfg2_acc (by omega) (by omega) h3 h4) 0 (by show 0 < 1;omega) rfl ⟨h3,h4⟩
  have e1:=h.src
  have e2:=h.dst
  rw [show (((0:Nat):Int)) = 0 from rfl] at e1 e2
  rw [hs] at e1
  rw [hd] at e2
  have e1:(1:Int) = ((beforeN (cfg2 n per) 0).toNat:Int):=e1
  have e2:(12 + 4 * (n:Int)) = ((beforeN (cfg2 n per) 0 + srcN (row (cfg2 n per).chans 0)).toNat:Int):=e2
  have e3:(fr2 n per) = ⟨(beforeN (cfg2 n per) 0).toNat,(beforeN (cfg2 n per) 0 + srcN (row (cfg2 n per).chans 0)).toNat,(fld (row (cfg2 n per).chans 0) 3).toNat,fld (row (cfg2 n per).chans 0) 5⟩:=by
    unfold fr2
    congr 1
    all_goals (first | rfl | omega)
  rw [e3];exact h
end Go.Proofs.YtmhpcgcloojfbaaGreat
namespace Go.Proofs.YtmhpcgcloojfbaaGreat
open Go.RowKit Go.Sort
set_option linter.unusedVariables false
set_option linter.unusedSimpArgs false
set_option linter.unusedVariables false
set_option linter.unusedSimpArgs false
open Go.Proofs.YtmhpcgcloojfbaaGreat.Simp
set_option maxRecDepth 100000
set_option maxHeartbeats 1600000
theorem run_did0 (dn:Bool) (cd:Int) (v:Value) (vl mk st:Bool) (bf:Int) (w:World):(Instr.field 56 (.agg (didV dn cd v vl mk st bf)) 0).run Tryz.prog w = .ok (.bool dn) w:=by kernel_rfl
section
variable {w1 w w':World} {B mb rb:Nat} {E:Nat → Prop} {F:Fr} {ws:List Int} {ow or_:Option (Nat × FS)}
theorem Duo.stW {wb:Nat} {s:FS} (now:Int) (h:Duo w1 w B E mb rb F ws (some (wb,s)) or_) :
    Calls Tryz.prog 15 #[.pointer (some ⟨wb,0,none⟩),.pointer (some ⟨mb,0,none⟩),.int .i64 now] w fun e w' => ∃ dn mk st bf s' ws',e = .returned (.agg (didV dn 0 (.slice none 0 0) false mk st bf)) ∧ (∃ d,wstep F s ws now = (s',ws',d) ∧ dn = d.done ∧ mk = d.mark ∧ st = d.stamped ∧ bf = d.buffer ∧ d.code = 0 ∧ d.valid = false ∧ d.data = []) ∧ Duo w1 w' B E mb rb F ws' (some (wb,s')) or_ ∧ Only (fun k => ¬ E k ∧ B ≤ k) w w':=by
  refine (h.stepW now).mono ?_
  rintro e w' ⟨rfl,hd,ho⟩
  have hc:(wstep F s ws now).2.2.code = 0 ∧ (wstep F s ws now).2.2.valid = false ∧ (wstep F s ws now).2.2.data = []:=by
    unfold wstep
    split;exact ⟨rfl,rfl,rfl⟩
    split;exact ⟨rfl,rfl,rfl⟩
    split;exact ⟨rfl,rfl,rfl⟩
    split;exact ⟨rfl,rfl,rfl⟩
    split;exact ⟨rfl,rfl,rfl⟩
    split;exact ⟨rfl,rfl,rfl⟩
    split;exact ⟨rfl,rfl,rfl⟩
    exact ⟨rfl,rfl,rfl⟩
  obtain ⟨R,hR⟩:∃ R,wstep F s ws now = R:=⟨_,rfl⟩
  rw [hR] at hd hc ⊢
  obtain ⟨s',ws',d⟩:=R
  refine ⟨d.done,d.mark,d.stamped,d.buffer,s',ws',?_,⟨d,rfl,rfl,rfl,rfl,rfl,hc⟩,hd,ho⟩
  have h1:d.code = 0:=hc.1
  have h2:d.valid = false:=hc.2.1
  show Ending.returned (.agg (didV d.done d.code (.slice none 0 0) d.valid d.mark d.stamped d.buffer)) = _
  rw [h1,h2]
theorem Duo.stR {wb:Nat} {s:FS} (now:Int) (hnow:0 ≤ now ∧ now ≤ 1000000000000) (h:Duo w1 w B E mb rb F ws ow (some (wb,s))) :
    Calls Tryz.prog 17 #[.pointer (some ⟨wb,0,none⟩),.pointer (some ⟨mb,0,none⟩),.int .i64 now] w fun e w' => ∃ a c n,∃ dn cd vl mk st bf s' ws',e = .returned (.agg (didV dn cd (.slice a n c) vl mk st bf)) ∧ (∃ d,rstep F s ws now = (s',ws',d) ∧ dn = d.done ∧ cd = d.code ∧ vl = d.valid ∧ mk = d.mark ∧ st = d.stamped ∧ bf = d.buffer ∧ n = d.data.length ∧ OwnsOff w' 0 34 1 (.slice a n c) n (wcells d.data) ∧ W32 d.data) ∧ Duo w1 w' B E mb rb F ws' ow (some (wb,s')) ∧
      Duo w1 w' B (fun k => E k ∨ Value.ownBlock (.slice a n c) = some k) mb rb F ws' ow none ∧ (∀ g,Value.ownBlock (.slice a n c) = some g → ¬ E g ∧ B ≤ g) ∧ Only (fun k => ¬ E k ∧ B ≤ k) w w':=by
  have hdd:W32 (rstep F s ws now).2.2.data:=by
    obtain ⟨Sw,Sr,h1,h2,h3,h4,h5⟩:=h.two
    obtain ⟨hat,hd⟩:=h5 wb s rfl
    have h0:W32 []:=fun a => by unfold rd;simp
    have hr:W32 (s.data ++ [rd ws (bufOf F s + (s.no - 3).toNat)]):=hd.app (h.w32 _)
    unfold rstep
    split;exact h0
    split;exact h0
    split;exact h0
    split;exact h0
    split
    · split;exact h0
      exact h0
    split;exact h0
    split;exact hr
    exact h0
  refine (h.stepR now hnow).mono ?_
  rintro e w' ⟨v,rfl,hv,hd,hd2,hg,ho⟩
  obtain ⟨R,hR⟩:∃ R,rstep F s ws now = R:=⟨_,rfl⟩
  rw [hR] at hv hd hd2 hdd ⊢
  obtain ⟨s',ws',d⟩:=R
  obtain ⟨a,c,rfl,-⟩:=hv.slice
  exact ⟨a,c,d.data.length,d.done,d.code,d.valid,d.mark,d.stamped,d.buffer,s',ws',rfl,⟨d,rfl,rfl,rfl,rfl,rfl,rfl,rfl,rfl,hv,hdd⟩,hd,hd2,hg,ho⟩
end
theorem rd_repl (n a:Nat):rd (List.replicate n 0) a = 0:=by
  unfold rd
  rw [List.getD_eq_getElem?_getD,List.getElem?_replicate]
  split <;> rfl
theorem fL_zero (N:Nat):fL N (List.replicate (13 + 4 * N) 0) = 0:=by
  unfold fL lenOf
  rw [rd_repl]
  rw [if_pos (by show (0:Int) ≤ _;omega)]
theorem rd_nn0 (n:Nat):∀ a,0 ≤ rd (List.replicate n 0) a:=fun a => by rw [rd_repl];exact Int.le_refl _
end Go.Proofs.YtmhpcgcloojfbaaGreat
namespace Go.Proofs.YtmhpcgcloojfbaaGreat
open Go.RowKit Go.Sort
set_option linter.unusedVariables false
set_option linter.unusedSimpArgs false
set_option linter.unusedVariables false
set_option linter.unusedSimpArgs false
open Go.Proofs.YtmhpcgcloojfbaaGreat.Simp
set_option maxRecDepth 100000
set_option maxHeartbeats 3200000
theorem wakes_b (w:World):Calls Tryz.prog 5 #[] w fun e w' => e = .returned (.bool true) ∧ Below w.heap.size w w':=by
  have hF:FrOf (cfg2 1 3) 0 (fr2 1 3):=frOf2 (n:=1) (per:=3) (by omega) (by omega) (by omega) (by omega)
  have hwf:=cfg2_wf (n:=1) (per:=3) rfl rfl
  have hfw:=cfg2_few 1 3
  have hsz:=cfg2_size (n:=1) (per:=3) (by omega) (by omega) (by omega) (by omega)
  have hfd:=run_did0
  go_enter Tryz.func5,Tryz.ntmps5
  go_wp2_with fail
  refine (two_b 1 3 w rfl rfl).mono ?_
  rintro e w1 ⟨x,rfl,hx,hb1⟩
  obtain ⟨W,HW,hB,hWs,bx⟩:=one_cbox w1 (cfg2 1 3) x 29
  have hxW:=hx.later hB
  have HB:=Lib.hid (hb1.trans (hB.mono hb1.size))
  have HXC:=Lib.hid (fun (W':World) (h:Below W.heap.size W W') => hxW.later h)
  have HSZ:=Lib.hid (rsize_b (cfg2 1 3) x W hxW hwf hfw)
  rw [hsz] at HSZ
  have HNR:=Lib.hid (fun (W':World) (h:Below W.heap.size W W') => newR_b (cfg2 1 3) x 0 (fr2 1 3) W' (hxW.later h) hwf hfw hF)
  have HNW:=Lib.hid (fun (W':World) (h:Below W.heap.size W W') (g:Nat) hd => newW_b (cfg2 1 3) x 0 (fr2 1 3) [9] g 0 1 W' (hxW.later h) hwf hfw hF hd ⟨by decide,by decide⟩)
  have hFn:=hF.fin
  rw [hsz] at hFn
  have HFN:=Lib.hid hFn
  obtain ⟨pa,pc,ca,cc,aa,ac,ba,bc⟩:=x
  obtain ⟨c0,c1,c2,c3,c4,c5⟩:=bx _ (Below.refl _ _)
  simp only [cfgCells] at HW HSZ HNR HNW ⊢
  clear hb1 hB hx hxW hF hwf hfw hsz hWs hFn
  go_wp2_with (rw [← HW.out])
  refine HSZ.out.mono ?_
  rintro e w2 ⟨rfl,hb2⟩
  have HB2:=Lib.hid hb2
  clear hb2 c0 c1 c2 c3 c4 c5
  have HNM:=Lib.hid (memNew_at 17 (13 + 4 * 1) (by decide) w2 (by omega))
  go_wp2_with fail
  refine HNM.out.mono ?_
  rintro e w3 ⟨mb,rb,rfl,hm1,hm2,hmem,hb3⟩
  have HD0:Hid (Duo W w3 W.heap.size (fun _ => False) mb rb (fr2 1 3) (List.replicate 17 0) none none):=Lib.hid (Duo.first (HB2.out.trans (hb3.mono HB2.out.size)) hmem ⟨by have:=HB2.out.size;omega,by have:=HB2.out.size;omega,Nat.le_refl _⟩ (by rw [List.length_replicate];exact HFN.out) (w32_zero 17) (fun _ h => h.elim))
  obtain ⟨c0,c1,c2,c3,c4,c5⟩:=bx _ HD0.out.below
  clear hm1 hm2 hmem hb3
  go_wp2_with fail
  refine (HNR.out w3 HD0.out.below).mono ?_
  rintro e w4 ⟨rq,Sr,rfl,hat4,hS4,hb4⟩
  have HD1:=Lib.hid (HD0.out.newR hat4 hS4 hb4 (fun a => by unfold rd;simp [Simp.start]))
  clear hat4 hS4 hb4 c0 c1 c2 c3 c4 c5
  obtain ⟨c0,c1,c2,c3,c4,c5⟩:=bx _ HD1.out.below
  obtain ⟨w5,HW5⟩:∃ u,Hid (u = w4.alloc (.cells #[.int .u32 9] 34)):=⟨_,rfl⟩
  have HD2:=Lib.hid (HD1.out.later (w':=w5) (by rw [HW5.out];exact (Below.refl _ _).alloc (Nat.le_refl _) _))
  have h9:w5.heap[w4.heap.size]? = some (.cells #[.int .u32 9] 34 (0,0)):=by rw [HW5.out];exact heap_alloc_new _ _
  have HN5:=Lib.hid (HNW.out w5 HD2.out.below w4.heap.size (fun k x hk => by
    have:k = 0 ∧ x = 9:=by
      match k,hk with
      | 0,hk => exact ⟨rfl,(by simpa using hk.symm)⟩
    obtain ⟨rfl,rfl⟩:=this
    exact blk_cell h9 rfl))
  clear h9
  clear c0 c1 c2 c3 c4 c5
  have HC4:=Lib.hid (bx _ HD1.out.below)
  obtain ⟨c0,c1,c2,c3,c4,c5⟩:=HC4.out
  go_wp2_with (rw [← HW5.out])
  refine HN5.out.mono ?_
  rintro e w6 ⟨wq,Sw,rfl,hat6,hS6,hb6⟩
  have HD3:=Lib.hid (HD2.out.newW hat6 hS6 hb6 (show W32 [9] from w32_of (fun x hx => by simp at hx;subst hx;decide)))
  clear hat6 hS6 hb6 c0 c1 c2 c3 c4 c5
  go_wp2
  go_loopw [31] (fun ix wr => ∃ (j:Nat) (t:FS) (mm:List Int),j ≤ 3 ∧ ix = .int .i64 j ∧ RS 1 (List.replicate 17 0) t mm j ∧ Duo W wr W.heap.size (fun _ => False) mb rb (fr2 1 3) mm (some (wq,Simp.start [9])) (some (rq,t))) (fun ix _ => 3 - (intOf ix).toNat)
  case atStart => exact ⟨0,_,_,by omega,rfl,rs_start 1 _,HD3.out⟩
  case round =>
    obtain ⟨j,t,mm,hj,rfl,hrs,hduo⟩:=hrel
    have HST:=Lib.hid (hduo.stR 0 (by omega))
    have hst:=hrs.step (per:=3) (now:=0) (rd_nn0 17)
    have hz:fL 1 (List.replicate 17 0) = 0:=fL_zero 1
    by_cases hj3:j < 3
    · have HST2:=Lib.hid hst;have HJ:=Lib.hid hj
      clear hrs hduo hst hz
      go_wp2_with fail
      refine HST.out.mono ?_
      rintro e w7 ⟨a,cp,n,dn,cd,vl,mk,st,bf,s',ws',rfl,⟨d,hd,rfl,rfl,rfl,rfl,rfl,rfl,rfl,hv,-⟩,hd2,-,-,-⟩
      have hst:=HST2.out
      rw [hd] at hst
      have hz:fL 1 (List.replicate 17 0) = 0:=fL_zero 1
      obtain ⟨h1,h2,-,-⟩:=hst.resolve_right (fun h => by rcases h.2.2.2 with h | h <;> omega)
      have h1:d.done = false:=h1
      rw [h1]
      have HD4:=Lib.hid hd2
      have HRS:=Lib.hid h2
      clear hst hd2 h1 h2 hv hd hz
      go_wp2
      go_roundw
      case rel => exact ⟨j + 1,_,_,by omega,by go_num,HRS.out,HD4.out⟩
      case measure => simp [intOf];omega
    · obtain rfl:j = 3:=by omega
      have HST2:=Lib.hid hst
      clear hrs hduo hst hz
      go_wp2_with fail
      refine HST.out.mono ?_
      rintro e w7 ⟨a,cp,n,dn,cd,vl,mk,st,bf,s',ws',rfl,⟨d,hd,rfl,rfl,rfl,rfl,rfl,rfl,rfl,hv,-⟩,hd2,-,-,-⟩
      have hst:=HST2.out
      rw [hd] at hst
      have hz:fL 1 (List.replicate 17 0) = 0:=fL_zero 1
      rcases hst with h | ⟨h1,h1m,-⟩
      · exact absurd hz (h.2.2.2 (by trivial))
      have HLN:Hid (ws'.length = 17):=Lib.hid (by rw [show ws' = fM 1 (List.replicate 17 0) from h1m];unfold fM;simp)
      clear h1m
      have h1:d = fAns 1 3 (List.replicate 17 0) 0:=h1
      unfold fAns at h1
      rw [if_pos hz] at h1
      subst h1
      have HD4:=Lib.hid hd2
      clear hd2 hd hz hv HST2 HST hj3
      go_wp2
      go_loopw [50] (fun ix wr => ∃ (j:Nat) (t:FS) (mm:List Int) (wp wi:Nat),j ≤ 6 ∧ ix = .int .i64 j ∧ WS 1 ws' [9] 0 t mm j wp wi ∧ Duo W wr W.heap.size (fun _ => False) mb rb (fr2 1 3) mm (some (wq,t)) (some (rq,s'))) (fun ix _ => 6 - (intOf ix).toNat)
      case atStart => exact ⟨0,_,_,_,_,by omega,rfl,ws_start HLN.out,HD4.out.later ((Below.refl _ _).alloc (Nat.le_refl _) _)⟩
      case round =>
        obtain ⟨j,t2,mm2,wp,wi,hj,rfl,hws,hduo⟩:=hrel
        have HST:=Lib.hid (hduo.stW 0)
        obtain ⟨wp',wi',hst⟩:=hws.step (per:=3) (now:=0) (by decide)
        by_cases hj6:j < 6
        · have HST2:=Lib.hid hst;have HJ:=Lib.hid hj6
          clear hws hduo hst
          go_wp2_with fail
          refine HST.out.mono ?_
          rintro e w7 ⟨dn,mk,st,bf,s3,ws3,rfl,⟨d,hd,rfl,rfl,rfl,rfl,-⟩,hd2,-⟩
          have hst:=HST2.out
          rw [hd] at hst
          obtain ⟨h1,-,h2⟩:=hst.1 (by have:=HJ.out;show _ < 5 + 1;omega)
          have h1:d.done = false:=h1
          rw [h1]
          have HD5:=Lib.hid hd2
          have HWS:=Lib.hid h2
          clear hst hd2 h1 h2 hd
          go_wp2
          go_roundw
          case rel => exact ⟨j + 1,_,_,wp',wi',by omega,by go_num,HWS.out,HD5.out⟩
          case measure => simp [intOf];omega
        · obtain rfl:j = 6:=by omega
          have HST2:=Lib.hid hst
          clear hws hduo hst
          go_wp2_with fail
          refine HST.out.mono ?_
          rintro e w7 ⟨dn,mk,st,bf,s3,ws3,rfl,⟨d,hd,rfl,rfl,rfl,rfl,-⟩,hd2,-⟩
          have hst:=HST2.out
          rw [hd] at hst
          obtain ⟨h1,-⟩:=hst.2 rfl
          have h1:d.done = true:=h1
          rw [h1]
          have HD5:=Lib.hid hd2
          clear hst hd2 h1 hd
          go_wp2
          go_ret
          exact ⟨rfl,HB.out.trans (HD5.out.below.mono HB.out.size)⟩
end Go.Proofs.YtmhpcgcloojfbaaGreat
