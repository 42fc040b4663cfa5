/- Texts of the ring, joined, what is used of them. No condition but those in the statements. -/
import Derived.BigQuiet
import Derived.BigRegion
import Derived.Deep.MidRow
import Derived.Deep.RegionHeld3
import Derived.Deep.Upon
import Derived.IntWalk
import Derived.Test.YtheeiklgblcjfaaGreatDoorQMDo
import Derived.Test.YtheeiklgblcjfaaGreatDoorQPkX
import Derived.Test.YtheeiklgblcjfaaGreatDoorQgf
import Derived.Test.YtheeiklgblcjfaaGreatDoorQgl
set_option linter.unusedVariables false
set_option linter.unusedSimpArgs false
section
namespace Go.Proofs.YtheeiklgblcjfaaGreatDoor
open Go.Lib (hid)
open Go.RowKit Go.Sort
set_option maxRecDepth 100000
/-- What was done: a call with its answer,a bell (a channel's number and one),a delivery (a partition's number and one). -/
structure Pv where
 x:CV
 code:Int
 aa:Option Addr
 an:Nat
 ac:Nat
 valid:Bool
 count:Int
 rang:Int
 took:Int
 deriving Inhabited
/-- An effect. -/
def Pv.eff (e:Pv):Bool:=decide (e.rang = 0) && decide (e.took = 0)
/-- What an answer brings to where a partition stands. -/
def dAns (s:St8) (op port code:Int) (v:Bool):St8:=
 { sn:=s.sn || (decide (op = 2) && decide (code = 0)),made:=if op = 1 ∧ code = 0 then s.made ++ [port] else s.made,valid:=if op = 4 ∧ (code = 0 ∨ code = 1) then (if v = false then s.valid.filter (fun q => q != port) else if port ∈ s.valid then s.valid else s.valid ++ [port]) else s.valid }
def dStep (p:Int) (s:St8) (e:Pv):St8:=if (e.eff && decide (e.x.part = p)) = true then dAns s e.x.op e.x.port e.code e.valid else s
def dSt (l:List Pv) (p:Int):St8:=l.foldl (dStep p) none8
/-- Does what was done go by queue k? -/
def isQ (c:Cfg) (k:Int) (e:Pv):Bool:=e.eff && decide (e.code = 0) && (decide (e.x.op = 5) || decide (e.x.op = 6)) && decide (portK c e.x.port = k)
def qStep (c:Cfg) (k:Int) (o:List CV) (e:Pv):List CV:=if isQ c k e = true then (if e.x.op = 5 then o ++ [e.x] else o.tail) else o
def dQv (c:Cfg) (l:List Pv) (k:Int):List CV:=l.foldl (qStep c k) []
/-- Nothing was received of an empty queue. -/
def QOk (c:Cfg) (l:List Pv) (k:Int):Prop:=∀ (i:Nat) (e:Pv),l[i]? = some e → isQ c k e = true → e.x.op = 6 → dQv c (l.take i) k ≠ []
def isW (c:Cfg) (k:Int) (e:Pv):Bool:=e.eff && decide (e.code = 0) && decide (e.x.op = 3) && decide (portK c e.x.port = k)
def dWr (c:Cfg) (l:List Pv) (k:Int):Option CV:=l.foldl (fun o e => if isW c k e = true then some e.x else o) none
def isC (a:Int) (e:Pv):Bool:=e.eff && decide (e.code = 0) && decide (e.x.op = 9) && decide (e.x.addr = a)
def dWd (l:List Pv) (a:Int):Int:=l.foldl (fun o e => if isC a e = true then e.x.rd.getD 0 0 else o) 0
def pStep (k p:Int) (b:Bool) (e:Pv):Bool:=if e.took = p + 1 then false else if e.rang = k + 1 then true else b
def dPd (l:List Pv) (k p:Int):Bool:=l.foldl (pStep k p) false
theorem dSt_app (l:List Pv) (e:Pv) (p:Int):dSt (l ++ [e]) p = dStep p (dSt l p) e:=by unfold dSt;rw [List.foldl_append];rfl
theorem dQv_app (c:Cfg) (l:List Pv) (e:Pv) (k:Int):dQv c (l ++ [e]) k = qStep c k (dQv c l k) e:=by unfold dQv;rw [List.foldl_append];rfl
theorem dWr_app (c:Cfg) (l:List Pv) (e:Pv) (k:Int):dWr c (l ++ [e]) k = if isW c k e = true then some e.x else dWr c l k:=by unfold dWr;rw [List.foldl_append];rfl
theorem dWd_app (l:List Pv) (e:Pv) (a:Int):dWd (l ++ [e]) a = if isC a e = true then e.x.rd.getD 0 0 else dWd l a:=by unfold dWd;rw [List.foldl_append];rfl
theorem dPd_app (l:List Pv) (e:Pv) (k p:Int):dPd (l ++ [e]) k p = pStep k p (dPd l k p) e:=by unfold dPd;rw [List.foldl_append];rfl
theorem take_succ20 {α:Type} {l:List α} {i:Nat} {e:α} (h:l[i]? = some e):l.take (i + 1) = l.take i ++ [e]:=by
 rw [List.take_add_one,h];rfl
theorem QOk_app {c:Cfg} {l:List Pv} {e:Pv} {k:Int} (h:QOk c l k) (he:isQ c k e = true → e.x.op = 6 → dQv c l k ≠ []):QOk c (l ++ [e]) k:=fun i e' hi h1 h2 => by
 by_cases hl:i < l.length
 ·rw [List.getElem?_append_left hl] at hi
  have:=h i e' hi h1 h2
  rwa [List.take_append_of_le_length (by omega)]
 ·have hil:i = l.length:=by
   have:=(List.getElem?_eq_some_iff.1 hi).1
   simp at this;omega
  subst hil
  simp at hi
  subst hi
  rw [List.take_left' rfl]
  exact he h1 h2
/-- To whom channel k leads. -/
def to8 (c:Cfg) (k:Nat):Int:=fld (row c.chans k) 2
/-- The ports at which partition p's channels end. -/
def dests (c:Cfg) (p:Int):List Int:=((List.range c.chans.length).filter (fun k => decide (to8 c k = p))).map (fun k:Nat => 2 * (k:Int) + 1)
/-- What is delivered. -/
def dDel (c:Cfg) (l:List Pv) (p:Int):List Int:=((List.range c.chans.length).filter (fun k => decide (to8 c k = p) && dPd l (k:Int) p)).map (fun k:Nat => 2 * (k:Int) + 1)
/-- The bell of channel k is rung. -/
def ring8 (M:Md8) (k:Nat):Md8:={ M with bl:=Bel.ringB M.bl (2 * (k:Int) + 1) }
/-- Partition p's bells are taken. -/
def take8 (c:Cfg) (M:Md8) (p:Int):Md8:={ M with bl:=Bel.leftB M.bl (Bel.takeB M.bl (dests c p)) }
theorem dests_nodup (c:Cfg) (p:Int):(dests c p).Nodup:=by
 unfold dests
 refine List.Pairwise.map _ (fun a b h => ?_) ((List.nodup_range).filter _)
 show 2 * (a:Int) + 1 ≠ 2 * (b:Int) + 1
 have h:a ≠ b:=h
 omega
theorem takeB_nodup (bs:List Bool):∀ (l out:List Int),l.Nodup → (∀ x ∈ l,x ∉ out) → l.foldl (Bel.tk bs) out = out ++ l.filter (fun x => Bel.hasB bs x)
 | [],out,_,_ => by simp
 | x :: r,out,hn,hd => by
  obtain ⟨h1,h2⟩:=List.nodup_cons.1 hn
  rw [List.foldl_cons,List.filter_cons]
  by_cases hb:Bel.hasB bs x = true
  ·rw [show Bel.tk bs out x = out ++ [x] from by unfold Bel.tk;rw [if_pos ⟨hb,hd x (by simp)⟩],takeB_nodup bs r _ h2 ?_,if_pos hb]
   ·simp
   ·intro y hy hm
    simp at hm
    rcases hm with hm | hm
    ·exact hd y (by simp [hy]) hm
    ·subst hm;exact h1 hy
  ·rw [show Bel.tk bs out x = out from by unfold Bel.tk;rw [if_neg (fun h => hb h.1)],takeB_nodup bs r _ h2 (fun y hy => hd y (by simp [hy])),if_neg hb]
theorem takeB_dests (bs:List Bool) (c:Cfg) (p:Int):Bel.takeB bs (dests c p) = (dests c p).filter (fun x => Bel.hasB bs x):=by
 unfold Bel.takeB
 rw [takeB_nodup bs _ [] (dests_nodup c p) (fun _ _ h => by cases h)]
 simp
/-- What was done says where the model is. -/
structure Sim (c:Cfg) (l:List Pv) (M:Md8):Prop where
 st:∀ p:Int,dSt l p = st8 M p
 nd:∀ p:Int,(st8 M p).valid.Nodup
 wr:∀ k:Nat,(dWr c l (k:Int)).map (fun x => (⟨x.rd,x.stamp⟩:Ms8)) = M.wr k
 qs:∀ k:Nat,(dQv c l (k:Int)).map (·.rd) = M.qs k
 qk:∀ k:Nat,QOk c l (k:Int)
 wd:∀ a:Int,dWd l a = M.wd a
 bl:∀ k:Nat,k < c.chans.length → M.bl.getD (2 * k + 1) false = dPd l (k:Int) (to8 c k)
 ln:M.bl.length = 2 * c.chans.length
 sl:M.st.length = c.parts.length
theorem new8_st (c:Cfg) (p:Int):st8 (new8 c) p = none8:=by
 unfold st8 new8
 split
 ·simp only [List.getElem?_replicate];split <;> rfl
 ·rfl
theorem Sim.new (c:Cfg):Sim c [] (new8 c) where
 st p:=(new8_st c p).symm
 nd p:=by rw [new8_st];exact List.nodup_nil
 wr k:=rfl
 qs k:=rfl
 qk k i e h:=by simp at h
 wd a:=rfl
 bl k hk:=by
  show (List.replicate (2 * c.chans.length) false).getD (2 * k + 1) false = false
  simp [List.getD_eq_getElem?_getD,List.getElem?_replicate]
  split <;> rfl
 ln:=by simp [new8]
 sl:=by simp [new8]
/-- All channels lead to partitions. -/
def ToOk (c:Cfg):Prop:=∀ k:Nat,k < c.chans.length → 0 ≤ to8 c k
/-- What was done that has no effect on where partitions stand,on messages and words. -/
theorem Sim.none {c:Cfg} {l:List Pv} {M M':Md8} (h:Sim c l M) (e:Pv) (he:e.eff = false ∨ e.x.op = 0) (hst:M'.st = M.st) (hwr:M'.wr = M.wr) (hqs:M'.qs = M.qs) (hwd:M'.wd = M.wd) (hln:M'.bl.length = M.bl.length)
  (hbl:∀ k:Nat,k < c.chans.length → M'.bl.getD (2 * k + 1) false = pStep (k:Int) (to8 c k) (M.bl.getD (2 * k + 1) false) e):Sim c (l ++ [e]) M' where
 st p:=by
  have e1:st8 M' p = st8 M p:=by unfold st8;rw [hst]
  rw [dSt_app,h.st p,e1]
  unfold dStep
  rcases he with he | he
  ·rw [he];rfl
  ·split
   ·unfold dAns;simp [he]
   ·rfl
 nd p:=by
  have e1:st8 M' p = st8 M p:=by unfold st8;rw [hst]
  rw [e1];exact h.nd p
 wr k:=by rw [dWr_app,if_neg (by unfold isW;rcases he with he | he <;> simp [he]),hwr];exact h.wr k
 qs k:=by rw [dQv_app,hqs];unfold qStep;rw [if_neg (by unfold isQ;rcases he with he | he <;> simp [he])];exact h.qs k
 qk k:=QOk_app (h.qk k) (fun h5 h6 => by
  unfold isQ at h5
  rcases he with he | he
  ·rw [he] at h5;simp at h5
  ·rw [he] at h6;cases h6)
 wd a:=by rw [dWd_app,if_neg (by unfold isC;rcases he with he | he <;> simp [he]),hwd];exact h.wd a
 bl k hk:=by rw [dPd_app,hbl k hk,h.bl k hk]
 ln:=hln.trans h.ln
 sl:=by rw [hst];exact h.sl
theorem pStep_id {k p:Int} {b:Bool} {e:Pv} (h:e.rang = 0 ∧ e.took = 0) (hk:0 ≤ k) (hp:0 ≤ p):pStep k p b e = b:=by
 unfold pStep
 rw [if_neg (by omega),if_neg (by omega)]
theorem Sim.ring {c:Cfg} {l:List Pv} {M:Md8} (h:Sim c l M) (hT:ToOk c) (e:Pv) (kk:Nat) (hk:kk < c.chans.length) (h1:e.rang = (kk:Int) + 1) (h2:e.took = 0):Sim c (l ++ [e]) (ring8 M kk):=by
 refine h.none e (.inl ?_) rfl rfl rfl rfl (by simp [ring8]) (fun k hk' => ?_)
 ·unfold Pv.eff;rw [decide_eq_false (by omega:¬ e.rang = 0)];rfl
 ·have hln:=h.ln
  show (Bel.ringB M.bl (2 * (kk:Int) + 1)).getD (2 * k + 1) false = _
  rw [Bel.ringB_at _ _ _ (by omega)]
  have:=hT k hk'
  unfold pStep
  rw [if_neg (by omega)]
  by_cases hkk:k = kk
  ·subst hkk
   rw [if_pos h1,decide_eq_true (by omega)];simp
  ·rw [if_neg (by omega),decide_eq_false (by omega)];simp
theorem mem_dests {c:Cfg} {p:Int} {k:Nat} (hk:k < c.chans.length):(2 * (k:Int) + 1) ∈ dests c p ↔ to8 c k = p:=by
 unfold dests
 rw [List.mem_map]
 constructor
 ·rintro ⟨j,hj,e⟩
  have:j = k:=by omega
  subst this
  simpa using (List.mem_filter.1 hj).2
 ·intro h
  exact ⟨k,List.mem_filter.2 ⟨List.mem_range.2 hk,by simpa using h⟩,rfl⟩
theorem Sim.deliver {c:Cfg} {l:List Pv} {M:Md8} (h:Sim c l M) (p:Int):Bel.takeB M.bl (dests c p) = dDel c l p:=by
 rw [takeB_dests]
 unfold dests dDel
 rw [List.filter_map,List.filter_filter]
 congr 1
 refine List.filter_congr fun k hk => ?_
 have hk:=List.mem_range.1 hk
 by_cases ht:to8 c k = p
 ·have h2:=h.bl k hk
  rw [ht] at h2
  simp only [ht,decide_true,Bool.and_true,Bool.true_and,Function.comp]
  rw [← h2,show (2 * (k:Int) + 1) = ((2 * k + 1:Nat):Int) from by omega,Bel.hasB_nat]
 ·simp [ht]
theorem Sim.take {c:Cfg} {l:List Pv} {M:Md8} (h:Sim c l M) (e:Pv) (p:Int) (h1:e.rang = 0) (h2:e.took = p + 1) (hp:e.eff = false ∨ e.x.op = 0):Sim c (l ++ [e]) (take8 c M p):=by
 refine h.none e hp rfl rfl rfl rfl (by simp [take8]) (fun k hk => ?_)
 have hln:=h.ln
 show (Bel.leftB M.bl (Bel.takeB M.bl (dests c p))).getD (2 * k + 1) false = _
 rw [Bel.leftB_at _ _ _ (by omega),takeB_dests]
 unfold pStep
 rw [show (((2 * k + 1:Nat):Int)) = 2 * (k:Int) + 1 from by omega]
 by_cases ht:to8 c k = p
 ·rw [if_pos (by omega)]
  cases hb:M.bl.getD (2 * k + 1) false with
  | false => rfl
  | true =>
   rw [decide_eq_true];rfl
   rw [List.mem_filter]
   refine ⟨(mem_dests hk).2 ht,?_⟩
   rw [show (2 * (k:Int) + 1) = ((2 * k + 1:Nat):Int) from by omega,Bel.hasB_nat];exact hb
 ·rw [if_neg (by omega),if_neg (by omega),decide_eq_false];simp
  rw [List.mem_filter]
  intro hm
  exact ht ((mem_dests hk).1 hm.1)
/-- The document's answer of a call. -/
def dRef (c:Cfg) (l:List Pv) (x:CV):Int:=refusedN c x.part (dSt l x.part).sn (dSt l x.part).made x.op x.port x.addr x.rd.length
def dDo (c:Cfg) (l:List Pv) (x:CV):An8:=
 if dRef c l x ≠ 0 then code8 (dRef c l x)
 else if x.op = 4 then (match dWr c l (portK c x.port) with | none => code8 1 | some y => ⟨0,y.rd,decide (x.t1 - y.stamp ≤ per8 c (ch8 c x)),0⟩)
 else if x.op = 5 then (if dep8 c (ch8 c x) ≤ ((dQv c l (portK c x.port)).length:Int) then code8 2 else ok8)
 else if x.op = 6 then (match dQv c l (portK c x.port) with | [] => code8 2 | y :: _ => ⟨0,y.rd,false,0⟩)
 else if x.op = 7 then (if kind8 c (ch8 c x) = 2 then ⟨0,[],false,(dQv c l (portK c x.port)).length⟩ else ⟨0,[],decide (x.port ∈ (dSt l x.part).valid),0⟩)
 else if x.op = 8 then ⟨0,[dWd l x.addr],false,0⟩
 else ok8
theorem ch8_is {c:Cfg} {x:CV}:(ch8 c x:Int) = portK c x.port:=by
 unfold ch8
 have:0 ≤ portK c x.port:=by
  cases hb:portB c x.port with
  | false => rw [(port_none hb).1];exact Int.le_refl _
  | true => obtain ⟨k,-,h⟩:=portK_of hb;omega
 omega
theorem dRef_is {c:Cfg} {l:List Pv} {M:Md8} (h:Sim c l M) (x:CV):dRef c l x = ref8 c M x:=by unfold dRef ref8;rw [h.st]
/-- Of a queue no more wait than its depth. -/
def QFew (c:Cfg) (M:Md8) (x:CV):Prop:=ref8 c M x = 0 → x.op = 5 → ((M.qs (ch8 c x)).length:Int) ≤ dep8 c (ch8 c x)
theorem dDo_is {c:Cfg} {l:List Pv} {M:Md8} (h:Sim c l M) (x:CV) (hq:QFew c M x):dDo c l x = (do8 c M x).1:=by
 unfold dDo do8
 rw [dRef_is h]
 by_cases h0:ref8 c M x = 0
 ·rw [if_neg (fun g => g h0),if_pos h0]
  have hql:=congrArg List.length (h.qs (ch8 c x))
  rw [List.length_map,ch8_is] at hql
  unfold act8
  by_cases o1:x.op = 1
  ·simp [o1]
  by_cases o2:x.op = 2
  ·simp [o2]
  by_cases o3:x.op = 3
  ·simp [o3]
  by_cases o4:x.op = 4
  ·have hw:=h.wr (ch8 c x)
   rw [ch8_is] at hw
   simp only [if_neg o1,if_neg o2,if_neg o3,if_pos o4]
   rw [← hw]
   cases hd:dWr c l (portK c x.port) with
   | none => rfl
   | some y => rfl
  by_cases o5:x.op = 5
  ·have:=hq h0 o5
   simp only [if_neg o1,if_neg o2,if_neg o3,if_neg o4,if_pos o5]
   rw [hql]
   by_cases hg:((M.qs (ch8 c x)).length:Int) = dep8 c (ch8 c x)
   ·rw [if_pos hg,if_pos (by omega)]
   ·rw [if_neg hg,if_neg (by omega)]
  by_cases o6:x.op = 6
  ·have hw:=h.qs (ch8 c x)
   rw [ch8_is] at hw
   simp only [if_neg o1,if_neg o2,if_neg o3,if_neg o4,if_neg o5,if_pos o6]
   rw [← hw]
   cases hd:dQv c l (portK c x.port) with
   | nil => rfl
   | cons y r => rfl
  by_cases o7:x.op = 7
  ·simp only [if_neg o1,if_neg o2,if_neg o3,if_neg o4,if_neg o5,if_neg o6,if_pos o7]
   rw [hql,h.st]
   split <;> rfl
  by_cases o8:x.op = 8
  ·simp only [if_neg o1,if_neg o2,if_neg o3,if_neg o4,if_neg o5,if_neg o6,if_neg o7,if_pos o8]
   rw [h.wd]
  ·simp only [if_neg o1,if_neg o2,if_neg o3,if_neg o4,if_neg o5,if_neg o6,if_neg o7,if_neg o8]
 ·rw [if_pos h0,if_neg h0]
theorem st8_set {M:Md8} {p:Int} {s:St8} (h0:0 ≤ p) (h1:p < (M.st.length:Int)) (q:Int):st8 (setSt8 M p s) q = if q = p then s else st8 M q:=by
 unfold st8 setSt8
 by_cases hq:0 ≤ q
 ·simp only [hq,if_true]
  rw [List.getElem?_set]
  by_cases hqp:q = p
  ·subst hqp
   rw [if_pos rfl,if_pos (by omega),if_pos rfl];rfl
  ·rw [if_neg (by omega),if_neg hqp]
 ·rw [if_neg hq,if_neg hq,if_neg (by omega)]
theorem ref_ne1 {c:Cfg} {sp:Int} {sn:Bool} {made:List Int} {op port ad:Int} {n:Nat} (ho:op = 4):refusedN c sp sn made op port ad n ≠ 1:=by
 subst ho
 unfold refusedN talkN talkT
 simp only [show (4:Int) ≠ 1 from by decide,show (4:Int) ≠ 2 from by decide,if_false]
 repeat' split
 all_goals first | decide | omega
theorem ref_in {c:Cfg} {sp:Int} {sn:Bool} {made:List Int} {op port ad:Int} {n:Nat} (h:refusedN c sp sn made op port ad n = 0):0 ≤ sp ∧ sp < (c.parts.length:Int):=by
 by_cases h1:sp < 0
 ·rw [refused_out (.inr (.inl h1))] at h;cases h
 by_cases h2:(c.parts.length:Int) ≤ sp
 ·rw [refused_out (.inr (.inr h2))] at h;cases h
 omega
theorem dAns_no {s:St8} {op port code:Int} {v:Bool} (h1:¬ (op = 1 ∧ code = 0)) (h2:¬ (op = 2 ∧ code = 0)) (h3:¬ (op = 4 ∧ (code = 0 ∨ code = 1))):dAns s op port code v = s:=by
 unfold dAns
 rw [if_neg h1,if_neg h3,← Bool.decide_and,decide_eq_false h2,Bool.or_false]
theorem dAns_see {s:St8} {port code:Int} {v:Bool} (hn:s.valid.Nodup) (hc:code = 0 ∨ code = 1):dAns s 4 port code v = { s with valid:=see8 s.valid port v }:=by
 unfold dAns see8
 rw [if_neg (by omega),if_pos ⟨rfl,hc⟩]
 have:(s.sn || (decide ((4:Int) = 2) && decide (code = 0))) = s.sn:=by
  rw [show decide ((4:Int) = 2) = false from by decide];simp
 rw [this]
 cases v with
 | false => rw [if_pos rfl,if_neg (by decide),List.Nodup.erase_eq_filter hn]
 | true => rw [if_neg (by decide),if_pos rfl]
theorem see_nodup {l:List Int} {port:Int} {v:Bool} (h:l.Nodup):(see8 l port v).Nodup:=by
 unfold see8
 cases v with
 | false => rw [if_neg (by decide)];exact h.erase _
 | true =>
  rw [if_pos rfl]
  split
  ·exact h
  ·rename_i hm
   rw [List.nodup_append]
   refine ⟨h,by simp,fun a ha b hb => ?_⟩
   simp at hb
   subst hb
   intro e;subst e;exact hm ha
/-- An effect that turns messages,queues and words as told,and where its partition stands. -/
theorem Sim.eff {c:Cfg} {l:List Pv} {M M':Md8} (h:Sim c l M) (hT:ToOk c) (e:Pv) (h1:e.rang = 0 ∧ e.took = 0) (hb:M'.bl = M.bl) (hsl:M'.st.length = M.st.length)
  (hst:∀ q:Int,st8 M' q = if q = e.x.part then dAns (st8 M q) e.x.op e.x.port e.code e.valid else st8 M q) (hnd:∀ q:Int,(st8 M' q).valid.Nodup)
  (hwr:∀ k:Nat,M'.wr k = if isW c k e = true then some ⟨e.x.rd,e.x.stamp⟩ else M.wr k)
  (hqs:∀ k:Nat,M'.qs k = if isQ c k e = true then (if e.x.op = 5 then M.qs k ++ [e.x.rd] else (M.qs k).tail) else M.qs k)
  (hqk:∀ k:Nat,isQ c k e = true → e.x.op = 6 → M.qs k ≠ [])
  (hwd:∀ a:Int,M'.wd a = if isC a e = true then e.x.rd.getD 0 0 else M.wd a):Sim c (l ++ [e]) M' where
 st q:=by
  have he:e.eff = true:=by unfold Pv.eff;rw [h1.1,h1.2];rfl
  rw [dSt_app,h.st q,hst q]
  unfold dStep
  rw [he,Bool.true_and]
  by_cases hq:q = e.x.part
  ·rw [if_pos (by simp [hq]),if_pos hq]
  ·rw [if_neg (by simp;omega),if_neg hq]
 nd:=hnd
 wr k:=by
  rw [dWr_app,hwr k,← h.wr k]
  split <;> rfl
 qs k:=by
  rw [dQv_app,hqs k,← h.qs k]
  unfold qStep
  split
  ·split
   ·simp
   ·simp
  ·rfl
 qk k:=QOk_app (h.qk k) (fun h5 h6 => by
  have:=hqk k h5 h6
  rw [← h.qs k] at this
  intro g;rw [g] at this;exact this rfl)
 wd a:=by rw [dWd_app,hwd a,h.wd a]
 bl k hk:=by rw [dPd_app,pStep_id h1 (by omega) (hT k hk),hb];exact h.bl k hk
 ln:=by rw [hb];exact h.ln
 sl:=by rw [hsl];exact h.sl
theorem up8_at {α:Type} (f:Nat → α) (k j:Nat) (v:α):up8 f k v j = if j = k then v else f j:=rfl
theorem isQ_eff {c:Cfg} {e:Pv} {x:CV} (hx:e.x = x) (h1:e.rang = 0 ∧ e.took = 0) (k:Nat):isQ c k e = (decide (e.code = 0) && (decide (x.op = 5) || decide (x.op = 6)) && decide (k = ch8 c x)):=by
 unfold isQ Pv.eff
 rw [hx,h1.1,h1.2,← ch8_is]
 simp only [decide_true,Bool.true_and]
 congr 1
 exact decide_eq_decide.2 ⟨fun h => by omega,fun h => by omega⟩
theorem isW_eff {c:Cfg} {e:Pv} {x:CV} (hx:e.x = x) (h1:e.rang = 0 ∧ e.took = 0) (k:Nat):isW c k e = (decide (e.code = 0) && decide (x.op = 3) && decide (k = ch8 c x)):=by
 unfold isW Pv.eff
 rw [hx,h1.1,h1.2,← ch8_is]
 simp only [decide_true,Bool.true_and]
 congr 1
 exact decide_eq_decide.2 ⟨fun h => by omega,fun h => by omega⟩
theorem isC_eff {e:Pv} {x:CV} (hx:e.x = x) (h1:e.rang = 0 ∧ e.took = 0) (a:Int):isC a e = (decide (e.code = 0) && decide (x.op = 9) && decide (a = x.addr)):=by
 unfold isC Pv.eff
 rw [hx,h1.1,h1.2]
 simp only [decide_true,Bool.true_and]
 congr 1
 exact decide_eq_decide.2 ⟨fun h => h.symm,fun h => h.symm⟩
theorem st8_eq {M M':Md8} (h:M'.st = M.st) (q:Int):st8 M' q = st8 M q:=by unfold st8;rw [h]
theorem Sim.eff_ {c:Cfg} {l:List Pv} {M:Md8} (h:Sim c l M) (hT:ToOk c) (x:CV) (e:Pv) (hx:e.x = x) (h1:e.rang = 0 ∧ e.took = 0) (hc:e.code = (do8 c M x).1.code) (hv:e.valid = (do8 c M x).1.valid):Sim c (l ++ [e]) (do8 c M x).2:=by
 by_cases h0:ref8 c M x = 0
 ·have hD:do8 c M x = act8 c M x:=by unfold do8;rw [if_pos h0]
  rw [hD] at hc hv ⊢
  obtain ⟨hp0,hp1⟩:=ref_in h0
  rw [← h.sl] at hp1
  obtain ⟨ho1,ho9⟩:=op_in h0
  have hnd:=h.nd
  have same:∀ M':Md8,M'.st = M.st → (¬ x.op = 1) → (¬ x.op = 2) → (¬ x.op = 4) → (∀ q:Int,st8 M' q = if q = e.x.part then dAns (st8 M q) e.x.op e.x.port e.code e.valid else st8 M q) ∧ (∀ q:Int,(st8 M' q).valid.Nodup):=fun M' hM n1 n2 n4 =>
   ⟨fun q => by rw [st8_eq hM,dAns_no (by rw [hx];exact fun g => n1 g.1) (by rw [hx];exact fun g => n2 g.1) (by rw [hx];exact fun g => n4 g.1),ite_self],fun q => by rw [st8_eq hM];exact hnd q⟩
  have seen:∀ v:Bool,(e.code = 0 ∨ e.code = 1) → x.op = 4 → e.valid = v → (∀ q:Int,st8 (setSt8 M x.part { st8 M x.part with valid:=see8 (st8 M x.part).valid x.port v }) q = if q = e.x.part then dAns (st8 M q) e.x.op e.x.port e.code e.valid else st8 M q) ∧ (∀ q:Int,(st8 (setSt8 M x.part { st8 M x.part with valid:=see8 (st8 M x.part).valid x.port v }) q).valid.Nodup):=fun v hcd o4 hvv => by
   refine ⟨fun q => ?_,fun q => ?_⟩
   ·rw [st8_set hp0 hp1,hx]
    by_cases hq:q = x.part
    ·rw [if_pos hq,if_pos hq,hq,o4,dAns_see (hnd _) hcd,hvv]
    ·rw [if_neg hq,if_neg hq]
   ·rw [st8_set hp0 hp1]
    split
    ·exact see_nodup (hnd _)
    ·exact hnd q
  unfold act8 at hc hv ⊢
  by_cases o1:x.op = 1
  ·rw [if_pos o1] at hc hv ⊢
   have hc0:e.code = 0:=hc
   refine h.eff hT e h1 rfl (by simp [setSt8]) (fun q => ?_) (fun q => ?_) (fun k => ?_) (fun k => ?_) (fun k h5 h6 => ?_) (fun a => ?_)
   ·rw [st8_set hp0 hp1,hx]
    by_cases hq:q = x.part
    ·rw [if_pos hq,if_pos hq,hq]
     unfold dAns
     rw [if_pos ⟨o1,hc0⟩,if_neg (by omega),o1]
     simp
    ·rw [if_neg hq,if_neg hq]
   ·rw [st8_set hp0 hp1]
    split
    ·exact hnd _
    ·exact hnd q
   ·rw [isW_eff hx h1];simp [o1,setSt8]
   ·rw [isQ_eff hx h1];simp [o1,setSt8]
   ·rw [hx] at h6;omega
   ·rw [isC_eff hx h1];simp [o1,setSt8]
  rw [if_neg o1] at hc hv ⊢
  by_cases o2:x.op = 2
  ·rw [if_pos o2] at hc hv ⊢
   have hc0:e.code = 0:=hc
   refine h.eff hT e h1 rfl (by simp [setSt8]) (fun q => ?_) (fun q => ?_) (fun k => ?_) (fun k => ?_) (fun k h5 h6 => ?_) (fun a => ?_)
   ·rw [st8_set hp0 hp1,hx]
    by_cases hq:q = x.part
    ·rw [if_pos hq,if_pos hq,hq]
     unfold dAns
     rw [if_neg (by omega),if_neg (by omega),o2,hc0]
     simp
    ·rw [if_neg hq,if_neg hq]
   ·rw [st8_set hp0 hp1]
    split
    ·exact hnd _
    ·exact hnd q
   ·rw [isW_eff hx h1];simp [o2,setSt8]
   ·rw [isQ_eff hx h1];simp [o2,setSt8]
   ·rw [hx] at h6;omega
   ·rw [isC_eff hx h1];simp [o2,setSt8]
  rw [if_neg o2] at hc hv ⊢
  by_cases o3:x.op = 3
  ·rw [if_pos o3] at hc hv ⊢
   have hc0:e.code = 0:=hc
   obtain ⟨s1,s2⟩:=same { M with wr:=up8 M.wr (ch8 c x) (some ⟨x.rd,x.stamp⟩),t:=M.t + 1 } rfl o1 o2 (by omega)
   refine h.eff hT e h1 rfl rfl s1 s2 (fun k => ?_) (fun k => ?_) (fun k h5 h6 => ?_) (fun a => ?_)
   ·rw [isW_eff hx h1,hx,hc0,o3];simp [up8_at]
   ·rw [isQ_eff hx h1,o3];simp
   ·rw [hx] at h6;omega
   ·rw [isC_eff hx h1,o3];simp
  rw [if_neg o3] at hc hv ⊢
  by_cases o4:x.op = 4
  ·rw [if_pos o4] at hc hv ⊢
   cases hd:M.wr (ch8 c x) with
   | none =>
    rw [hd] at hc hv
    simp only at hc hv ⊢
    have hc1:e.code = 1:=hc
    have hv1:e.valid = false:=hv
    obtain ⟨s1,s2⟩:=seen false (.inr hc1) o4 hv1
    refine h.eff hT e h1 rfl (by simp [setSt8]) s1 s2 (fun k => ?_) (fun k => ?_) (fun k h5 h6 => ?_) (fun a => ?_)
    ·rw [isW_eff hx h1,o4];simp [setSt8]
    ·rw [isQ_eff hx h1,o4];simp [setSt8]
    ·rw [hx] at h6;omega
    ·rw [isC_eff hx h1,o4];simp [setSt8]
   | some m =>
    rw [hd] at hc hv
    simp only at hc hv ⊢
    have hc0:e.code = 0:=hc
    obtain ⟨s1,s2⟩:=seen (fresh8 c (ch8 c x) m x.t1) (.inl hc0) o4 hv
    refine h.eff hT e h1 rfl (by simp [setSt8]) s1 s2 (fun k => ?_) (fun k => ?_) (fun k h5 h6 => ?_) (fun a => ?_)
    ·rw [isW_eff hx h1,o4];simp [setSt8]
    ·rw [isQ_eff hx h1,o4];simp [setSt8]
    ·rw [hx] at h6;omega
    ·rw [isC_eff hx h1,o4];simp [setSt8]
  rw [if_neg o4] at hc hv ⊢
  by_cases o5:x.op = 5
  ·rw [if_pos o5] at hc hv ⊢
   by_cases hg:((M.qs (ch8 c x)).length:Int) = dep8 c (ch8 c x)
   ·rw [if_pos hg] at hc hv ⊢
    have hc2:e.code = 2:=hc
    obtain ⟨s1,s2⟩:=same (tick8 M) rfl o1 o2 o4
    refine h.eff hT e h1 rfl rfl s1 s2 (fun k => ?_) (fun k => ?_) (fun k h5 h6 => ?_) (fun a => ?_)
    ·rw [isW_eff hx h1,o5];simp [tick8]
    ·rw [isQ_eff hx h1,hc2];simp [tick8]
    ·rw [hx] at h6;omega
    ·rw [isC_eff hx h1,o5];simp [tick8]
   ·rw [if_neg hg] at hc hv ⊢
    have hc0:e.code = 0:=hc
    obtain ⟨s1,s2⟩:=same { M with qs:=up8 M.qs (ch8 c x) (M.qs (ch8 c x) ++ [x.rd]),t:=M.t + 1 } rfl o1 o2 o4
    refine h.eff hT e h1 rfl rfl s1 s2 (fun k => ?_) (fun k => ?_) (fun k h5 h6 => ?_) (fun a => ?_)
    ·rw [isW_eff hx h1,o5];simp
    ·rw [isQ_eff hx h1,hx,hc0,o5]
     simp only [up8_at,decide_true,Bool.true_and,Bool.true_or,if_true,decide_eq_true_eq]
     by_cases hk:k = ch8 c x
     ·rw [if_pos hk,if_pos hk,hk]
     ·rw [if_neg hk,if_neg hk]
    ·rw [hx] at h6;omega
    ·rw [isC_eff hx h1,o5];simp
  rw [if_neg o5] at hc hv ⊢
  by_cases o6:x.op = 6
  ·rw [if_pos o6] at hc hv ⊢
   cases hd:M.qs (ch8 c x) with
   | nil =>
    rw [hd] at hc hv
    simp only at hc hv ⊢
    have hc2:e.code = 2:=hc
    obtain ⟨s1,s2⟩:=same (tick8 M) rfl o1 o2 o4
    refine h.eff hT e h1 rfl rfl s1 s2 (fun k => ?_) (fun k => ?_) (fun k h5 h6 => ?_) (fun a => ?_)
    ·rw [isW_eff hx h1,o6];simp [tick8]
    ·rw [isQ_eff hx h1,hc2];simp [tick8]
    ·rw [isQ_eff hx h1,hc2] at h5;simp at h5
    ·rw [isC_eff hx h1,o6];simp [tick8]
   | cons y r =>
    rw [hd] at hc hv
    simp only at hc hv ⊢
    have hc0:e.code = 0:=hc
    obtain ⟨s1,s2⟩:=same { M with qs:=up8 M.qs (ch8 c x) r,t:=M.t + 1 } rfl o1 o2 o4
    refine h.eff hT e h1 rfl rfl s1 s2 (fun k => ?_) (fun k => ?_) (fun k h5 h6 => ?_) (fun a => ?_)
    ·rw [isW_eff hx h1,o6];simp
    ·rw [isQ_eff hx h1,hx,hc0,o6]
     simp only [up8_at,decide_true,Bool.true_and,Bool.or_true,if_true,decide_eq_true_eq,show ¬ (6:Int) = 5 from by decide,if_false]
     by_cases hk:k = ch8 c x
     ·rw [if_pos hk,if_pos hk,hk,hd];rfl
     ·rw [if_neg hk,if_neg hk]
    ·rw [isQ_eff hx h1] at h5
     simp only [Bool.and_eq_true,decide_eq_true_eq] at h5
     rw [h5.2,hd]
     exact fun g => by cases g
    ·rw [isC_eff hx h1,o6];simp
  rw [if_neg o6] at hc hv ⊢
  by_cases o7:x.op = 7
  ·rw [if_pos o7]
   obtain ⟨s1,s2⟩:=same (tick8 M) rfl o1 o2 o4
   have:(if kind8 c (ch8 c x) = 2 then ((⟨0,[],false,(M.qs (ch8 c x)).length⟩:An8),tick8 M) else (⟨0,[],decide (x.port ∈ (st8 M x.part).valid),0⟩,tick8 M)).2 = tick8 M:=by split <;> rfl
   rw [this]
   refine h.eff hT e h1 rfl rfl s1 s2 (fun k => ?_) (fun k => ?_) (fun k h5 h6 => ?_) (fun a => ?_)
   ·rw [isW_eff hx h1,o7];simp [tick8]
   ·rw [isQ_eff hx h1,o7];simp [tick8]
   ·rw [hx] at h6;omega
   ·rw [isC_eff hx h1,o7];simp [tick8]
  rw [if_neg o7] at hc hv ⊢
  by_cases o8:x.op = 8
  ·rw [if_pos o8] at hc hv ⊢
   obtain ⟨s1,s2⟩:=same (tick8 M) rfl o1 o2 o4
   refine h.eff hT e h1 rfl rfl s1 s2 (fun k => ?_) (fun k => ?_) (fun k h5 h6 => ?_) (fun a => ?_)
   ·rw [isW_eff hx h1,o8];simp [tick8]
   ·rw [isQ_eff hx h1,o8];simp [tick8]
   ·rw [hx] at h6;omega
   ·rw [isC_eff hx h1,o8];simp [tick8]
  rw [if_neg o8] at hc hv ⊢
  have o9:x.op = 9:=by omega
  have hc0:e.code = 0:=hc
  obtain ⟨s1,s2⟩:=same { M with wd:=upI M.wd x.addr (x.rd.getD 0 0),t:=M.t + 1 } rfl o1 o2 o4
  refine h.eff hT e h1 rfl rfl s1 s2 (fun k => ?_) (fun k => ?_) (fun k h5 h6 => ?_) (fun a => ?_)
  ·rw [isW_eff hx h1,o9];simp
  ·rw [isQ_eff hx h1,o9];simp
  ·rw [hx] at h6;omega
  ·rw [isC_eff hx h1,hx,hc0,o9]
   simp only [upI,decide_true,Bool.true_and,decide_eq_true_eq]
 ·have hD:do8 c M x = (code8 (ref8 c M x),tick8 M):=by unfold do8;rw [if_neg h0]
  rw [hD] at hc hv ⊢
  have hcz:e.code = ref8 c M x:=hc
  have n0:¬ e.code = 0:=by rw [hcz];exact h0
  have n1:x.op = 4 → ¬ e.code = 1:=fun ho => by rw [hcz];exact ref_ne1 ho
  refine h.eff hT e h1 rfl rfl (fun q => ?_) (fun q => h.nd q) (fun k => ?_) (fun k => ?_) (fun k h5 h6 => ?_) (fun a => ?_)
  ·rw [dAns_no (fun g => n0 g.2) (fun g => n0 g.2) (fun g => g.2.elim n0 (n1 (by rw [← hx];exact g.1))),ite_self];rfl
  ·rw [isW_eff hx h1,decide_eq_false n0];rfl
  ·rw [isQ_eff hx h1,decide_eq_false n0];rfl
  ·rw [isQ_eff hx h1,decide_eq_false n0] at h5;simp at h5
  ·rw [isC_eff hx h1,decide_eq_false n0];rfl
end Go.Proofs.YtheeiklgblcjfaaGreatDoor
end
section
namespace Go.Proofs.YtheeiklgblcjfaaGreatDoor
open Go.Lib (hid)
open Go.RowKit Go.Sort
set_option maxRecDepth 100000
set_option maxHeartbeats 6400000 in
theorem do_out {w:World} {own:Nat → Tg8} {n0:Nat} {c:Cfg} {M:Md8} {A:Mx8} (h:MAt w own n0 c M A) (wx:CfgWf c) (lx:CfgFew c) (x:CV) (hxw:CWf x) (hxr:CRows w w.heap.size x) (hrl:x.rd.length ≤ 1000000) (hac:acceptsB c = true) (ht:M.t ≤ 100000) (hT:TabsAt w) (hxm:0 < x.rd.length → ∀ a,x.ra = some a → ¬ (own a.block).mut) (hpo:x.part < 0 ∨ (c.parts.length:Int) ≤ x.part) (R:An8) (M':Md8) (hR:do8 c M x = (R,M')):Calls Tryz.prog 12 #[.pointer (some ⟨A.b,0,none⟩),.agg (cCells x).toArray] w (Goes8 w own n0 c R M' A):=by
 have HRR:=hid hR
 have HZ4':ref8 c M x = 4:=refused_out (.inr hpo)
 obtain ⟨z,hz⟩:∃ z:Int,z = 4:=⟨_,rfl⟩
 have hz0:z ≠ 0:=by omega
 have HZ0:Hid (ref8 c M x = z):=hid (by rw [hz];exact HZ4')
 have HZ4:Hid (refusedN c x.part false [] x.op x.port x.addr x.rd.length = z):=hid (by rw [hz];exact refused_out (.inr hpo))
 clear hR HZ4' hz
 obtain ⟨W1,HW1,hB1,hs1,hX1⟩:=box17 w x
 obtain ⟨W2,HW2',hB2,hs2,bx⟩:=box_new W1 #[.int .i64 0,.slice none 0 0,.bool false,.int .i64 0] 42
 obtain ⟨xb,hxb⟩:∃ n,n = w.heap.size:=⟨_,rfl⟩
 obtain ⟨ab,hab⟩:∃ n,n = W1.heap.size:=⟨_,rfl⟩
 have hX2:=hX1.later hB2 hX1.lt
 have bx':∀ V:World,Below W2.heap.size W2 V → V.heap[ab]? = some (.cells #[.int .i64 0,.slice none 0 0,.bool false,.int .i64 0] 42 (0,0)):=fun V hV => by rw [hab];exact bx V hV
 rw [← hxb] at hX2
 have hBW2:=hB1.trans (hB2.mono hB1.size)
 have HW2:=hid (MAt.still h hBW2).1
 have HBW2:=hid hBW2
 have x0:W2.cell? ⟨xb,0,none⟩ = some (.int .i64 x.part):=hX2.b_part
 have x1:=hX2.b_op;have x2:=hX2.b_port;have x3:=hX2.b_addr;have x4:=hX2.b_rd
 have HST:=hid (fun (V:World) (hV:Below W2.heap.size W2 V) => stands_out (MAt.still HW2.out hV).1 x.part hpo)
 have HXB:=hid hxb;have HAB:=hid hab
 have hxl:xb < W2.heap.size:=hX2.lt
 have HXL2:=hid hxl
 have HAB0:Hid (w.heap.size ≤ ab ∧ ab < W2.heap.size):=hid ⟨by have:=hB1.size;omega,by omega⟩
 have H:=hid h
 clear hxb hab hX1 hX2 hBW2 hB1 hB2 hs1 hs2 bx
 go_enter Tryz.func12,Tryz.ntmps12
 go_wp2_with (first | (rw [← HW1.out];(try simp only [← HXB.out])) | (rw [← HW2'.out];(try simp only [← HAB.out])))
 refine wp_region_till (fun W' => Below W2.heap.size W2 W') 8 (by kernel_rfl) (by exact (Below.refl _ _).drew) (fun hHeld => ?_)
 refine Tt 0 rfl ?_
 (try simp only [Zc])
 refine Tt 1 rfl ?_
 (try simp only [Zc])
 refine till_load (i:=2) rfl (by kernel_rfl) (by kernel_rfl) (by kernel_rfl) (fun _ _ _ h => h) (by kernel_rfl) (by kernel_rfl) (by kernel_rfl) (Or.inl ⟨by rfl,by intro w hSw;(have z0:=(hSw.cell (p:=⟨xb,0,none⟩) HXL2.out).trans x0);(go_simp <;> with_reducible rfl)⟩) (by assumption) ?_
 (try simp only [Zc])
 refine Tt 4 rfl ?_
 (try simp only [Zc])
 refine till_load (i:=5) rfl (by kernel_rfl) (by kernel_rfl) (by kernel_rfl) (fun _ _ _ h => h) (by kernel_rfl) (by kernel_rfl) (by kernel_rfl) (Or.inl ⟨by rfl,by intro w hSw;(have z1:=(hSw.cell (p:=⟨xb,1,none⟩) HXL2.out).trans x1;have z2:=(hSw.cell (p:=⟨xb,2,none⟩) HXL2.out).trans x2;have z3:=(hSw.cell (p:=⟨xb,3,none⟩) HXL2.out).trans x3;have z4:=(hSw.cell (p:=⟨xb,4,none⟩) HXL2.out).trans x4);(go_simp <;> with_reducible rfl)⟩) (by assumption) ?_
 (try simp only [Zc])
 refine till_two (i:=3) (j:=6) (by kernel_rfl) rfl rfl (fun K hK => ?_) (fun K hK => ?_)
 ·go_simp
  refine (HST.out _ ?_).mono ?_
  ·(first | exact (Below.refl _ _).drew | exact Below.refl _ _ | exact ((Below.refl _ _).alloc (Nat.le_refl _) _).drew | exact ((Below.refl _ _).alloc (Nat.le_refl _) _) | exact ((((Below.refl _ _).alloc (Nat.le_refl _) _).alloc (by simp) _)) | exact ((((Below.refl _ _).alloc (Nat.le_refl _) _).alloc (by simp) _)).drew)
  rintro e w5 ⟨rfl,rfl⟩
  (try go_wp2_with fail)
  refine hK.out _ _ (by (first | exact (Below.refl _ _).drew | exact Below.refl _ _ | exact ((Below.refl _ _).alloc (Nat.le_refl _) _).drew | exact ((Below.refl _ _).alloc (Nat.le_refl _) _) | exact ((((Below.refl _ _).alloc (Nat.le_refl _) _).alloc (by simp) _)) | exact ((((Below.refl _ _).alloc (Nat.le_refl _) _).alloc (by simp) _)).drew)) (fun hHeld => ?_)
  clear hK K
  (try simp only [Zc])
  refine till_one (i:=6) (by kernel_rfl) rfl (fun K hK => ?_)
  go_simp
  refine hK.out _ _ (by (first | exact (Below.refl _ _).drew | exact Below.refl _ _ | exact ((Below.refl _ _).alloc (Nat.le_refl _) _).drew | exact ((Below.refl _ _).alloc (Nat.le_refl _) _) | exact ((((Below.refl _ _).alloc (Nat.le_refl _) _).alloc (by simp) _)) | exact ((((Below.refl _ _).alloc (Nat.le_refl _) _).alloc (by simp) _)).drew)) (fun hHeld => ?_)
  clear hK K
  (try simp only [Zc])
  refine Tt 7 rfl ?_
  (try simp only [Zc])
  refine till_last (by kernel_rfl) rfl (fun K hK => ?_)
  go_simp
  refine hK.out _ _ ?_
  clear hK K
  (try simp only [Zc])
  refine till_done (by kernel_rfl) ?_ _
  obtain ⟨V,hV⟩:∃ u,Hid (u = (W2.alloc (.cells #[.int .i64 x.part,.bool false,.slice none 0 0,.slice none 0 0] 59)).alloc (.cells #[.int .i64 x.op,.int .i64 x.port,.int .u64 x.addr,.slice x.ra x.rd.length x.rc] 39)):=⟨_,rfl⟩
  have hbV:Below W2.heap.size W2 V:=by rw [hV.out];exact ((Below.refl _ _).alloc (Nat.le_refl _) _).alloc (by simp) _
  have hsB:V.heap[W2.heap.size]? = some (.cells #[.int .i64 x.part,.bool false,.slice none 0 0,.slice none 0 0] 59 (0,0)):=by rw [hV.out,Below.heap_alloc _ _ _ (by simp)];exact heap_new_at10 _ _ rfl
  have hrB:V.heap[W2.heap.size + 1]? = some (.cells #[.int .i64 x.op,.int .i64 x.port,.int .u64 x.addr,.slice x.ra x.rd.length x.rc] 39 (0,0)):=by rw [hV.out];exact heap_new_at10 _ _ (by simp)
  (try simp only [World.size_alloc])
  rw [← hV.out]
  have hA:=bx' V hbV
  have HBW:=hid (HBW2.out.trans (hbV.mono HBW2.out.size))
  have HMW:=hid (MAt.still HW2.out hbV).1
  have HA:=hid hA
  have HABL:Hid (w.heap.size ≤ ab ∧ ab < V.heap.size):=hid ⟨HAB0.out.1,by have:=hbV.size;have:=HAB0.out.2;omega⟩
  have HRF:=hid (fun (d:Nat) (os:Array Obj) => Calls.regrown_of (prefused_is c A.x x.part false [] none 0 none 0 0 x.op x.port x.addr x.ra x.rd.length x.rc z (grow (redrawn V d) os) (HMW.out.cfg.1.later (below_regrown V d os)) wx lx ⟨fun h => absurd h (by simp),by simp⟩ hxw.port hxw.addr hrl (hT.later (HBW.out.trans ((below_regrown V d os).mono HBW.out.size))) HZ4.out))
  have rg0:∀ rg:Regrown,(grow (redrawn V rg.d) rg.os).cell? ⟨A.b,0,none⟩ = some (.slice A.x.pa c.parts.length A.x.pc):=fun rg => cell_regrown (blk_at HMW.out.head.2 (i:=0) rfl) rg.d rg.os
  have rg1:∀ rg:Regrown,(grow (redrawn V rg.d) rg.os).cell? ⟨A.b,1,none⟩ = some (.slice A.x.ca c.chans.length A.x.cc):=fun rg => cell_regrown (blk_at HMW.out.head.2 (i:=1) rfl) rg.d rg.os
  have rg2:∀ rg:Regrown,(grow (redrawn V rg.d) rg.os).cell? ⟨A.b,2,none⟩ = some (.int .i64 c.len0):=fun rg => cell_regrown (blk_at HMW.out.head.2 (i:=2) rfl) rg.d rg.os
  have rg3:∀ rg:Regrown,(grow (redrawn V rg.d) rg.os).cell? ⟨A.b,3,none⟩ = some (.slice A.x.aa c.win0.length A.x.ac):=fun rg => cell_regrown (blk_at HMW.out.head.2 (i:=3) rfl) rg.d rg.os
  have rg4:∀ rg:Regrown,(grow (redrawn V rg.d) rg.os).cell? ⟨A.b,4,none⟩ = some (.int .i64 c.len1):=fun rg => cell_regrown (blk_at HMW.out.head.2 (i:=4) rfl) rg.d rg.os
  have rg5:∀ rg:Regrown,(grow (redrawn V rg.d) rg.os).cell? ⟨A.b,5,none⟩ = some (.slice A.x.ba c.win1.length A.x.bc):=fun rg => cell_regrown (blk_at HMW.out.head.2 (i:=5) rfl) rg.d rg.os
  have rs0:∀ rg:Regrown,(grow (redrawn V rg.d) rg.os).cell? ⟨W2.heap.size,0,none⟩ = some (.int .i64 x.part):=fun rg => cell_regrown (blk_at hsB (i:=0) rfl) rg.d rg.os
  have rs1:∀ rg:Regrown,(grow (redrawn V rg.d) rg.os).cell? ⟨W2.heap.size,1,none⟩ = some (.bool false):=fun rg => cell_regrown (blk_at hsB (i:=1) rfl) rg.d rg.os
  have rs2:∀ rg:Regrown,(grow (redrawn V rg.d) rg.os).cell? ⟨W2.heap.size,2,none⟩ = some (.slice none 0 0):=fun rg => cell_regrown (blk_at hsB (i:=2) rfl) rg.d rg.os
  have rs3:∀ rg:Regrown,(grow (redrawn V rg.d) rg.os).cell? ⟨W2.heap.size,3,none⟩ = some (.slice none 0 0):=fun rg => cell_regrown (blk_at hsB (i:=3) rfl) rg.d rg.os
  have rq0:∀ rg:Regrown,(grow (redrawn V rg.d) rg.os).cell? ⟨(W2.heap.size + 1),0,none⟩ = some (.int .i64 x.op):=fun rg => cell_regrown (blk_at hrB (i:=0) rfl) rg.d rg.os
  have rq1:∀ rg:Regrown,(grow (redrawn V rg.d) rg.os).cell? ⟨(W2.heap.size + 1),1,none⟩ = some (.int .i64 x.port):=fun rg => cell_regrown (blk_at hrB (i:=1) rfl) rg.d rg.os
  have rq2:∀ rg:Regrown,(grow (redrawn V rg.d) rg.os).cell? ⟨(W2.heap.size + 1),2,none⟩ = some (.int .u64 x.addr):=fun rg => cell_regrown (blk_at hrB (i:=2) rfl) rg.d rg.os
  have rq3:∀ rg:Regrown,(grow (redrawn V rg.d) rg.os).cell? ⟨(W2.heap.size + 1),3,none⟩ = some (.slice x.ra x.rd.length x.rc):=fun rg => cell_regrown (blk_at hrB (i:=3) rfl) rg.d rg.os
  have hbc:Below V.heap.size V V.drew:=(Below.refl _ _).drew
  simp only [cfgCells,List.length_nil] at HRF
  clear hbV hsB hrB hA hV
  go_wp2_with fail
  ((first | with_reducible refine wpList_on hbc ?_ | with_reducible refine wp_on hbc (by kernel_rfl) (by kernel_rfl) ?_);(repeat (go_big_quiet_step (first | with_reducible exact HRF.out _ _ | fail)));with_reducible refine wpQuiet_nil ?_;intro wc hbc)
  have HBC:=hid hbc
  clear hbc HRF rg0 rg1 rg2 rg3 rg4 rg5 rs0 rs1 rs2 rs3 rq0 rq1 rq2 rq3
  have hzb:(z != 0) = true:=by simp [hz0]
  have HEQ:=hid (HRR.out.symm.trans (do8_no HZ0.out hz0))
  clear hz0
  have hAc:=(HBC.out.block ab (by have:=HABL.out;omega)).trans HA.out
  have hth:=there_blk (W:=wc) hAc (n:=(#[.int .i64 z,.slice none 0 0,.bool false,.int .i64 0]:Array Value).size) rfl
  have hsz4:(Tryz.prog.info? 42).map (·.size) = some (#[.int .i64 z,.slice none 0 0,.bool false,.int .i64 0]:Array Value).size:=ans8_size
  go_wp2_with (with_reducible refine wpList_store_mid (by kernel_rfl) _ _ _ rfl ab 0 #[.int .i64 z,.slice none 0 0,.bool false,.int .i64 0] (by kernel_rfl) (by kernel_rfl) hth hsz4 (by kernel_rfl) ?_)
  have hrg:=World.rangeAt_setCells_same (wc) (ab) 0 (#[.int .i64 z,.slice none 0 0,.bool false,.int .i64 0]:Array Value).toList (by simpa using hth)
  (try simp only [Exit.inBlock,Exit.then])
  refine bodyPost_ret (results_cell_mid rfl _ _ (ab) (#[.int .i64 z,.slice none 0 0,.bool false,.int .i64 0]:Array Value).toList _ rfl hrg Tryz.underlying42 rfl ans8_size) rfl ?_
  have hoF:Only (fun j => j = ab) wc (wc.setCells ab 0 (#[.int .i64 z,.slice none 0 0,.bool false,.int .i64 0]:Array Value).toList):=Only.sets (S:=fun j => j = ab) rfl _ 0 (Only.refl _ _)
  obtain ⟨rfl,rfl⟩:=pair8 HEQ.out
  exact ⟨none,0,rfl,(fun h => by simp [code8] at h),⟨by simp [code8],by simp [maxLen],fun _ => rfl⟩,Turn8.tick H.out (below_put4 (HBW.out.trans (HBC.out.mono HBW.out.size)) HABL.out.1 _)⟩
 ·go_simp
  refine hK.out _ _ (by (first | exact (Below.refl _ _).drew | exact Below.refl _ _ | exact ((Below.refl _ _).alloc (Nat.le_refl _) _).drew | exact ((Below.refl _ _).alloc (Nat.le_refl _) _) | exact ((((Below.refl _ _).alloc (Nat.le_refl _) _).alloc (by simp) _)) | exact ((((Below.refl _ _).alloc (Nat.le_refl _) _).alloc (by simp) _)).drew)) (fun hHeld => ?_)
  clear hK K
  (try simp only [Zc])
  refine till_one (i:=3) (by kernel_rfl) rfl (fun K hK => ?_)
  go_simp
  refine (HST.out _ ?_).mono ?_
  ·(first | exact (Below.refl _ _).drew | exact Below.refl _ _ | exact ((Below.refl _ _).alloc (Nat.le_refl _) _).drew | exact ((Below.refl _ _).alloc (Nat.le_refl _) _) | exact ((((Below.refl _ _).alloc (Nat.le_refl _) _).alloc (by simp) _)) | exact ((((Below.refl _ _).alloc (Nat.le_refl _) _).alloc (by simp) _)).drew)
  rintro e w5 ⟨rfl,rfl⟩
  (try go_wp2_with fail)
  refine hK.out _ _ (by (first | exact (Below.refl _ _).drew | exact Below.refl _ _ | exact ((Below.refl _ _).alloc (Nat.le_refl _) _).drew | exact ((Below.refl _ _).alloc (Nat.le_refl _) _) | exact ((((Below.refl _ _).alloc (Nat.le_refl _) _).alloc (by simp) _)) | exact ((((Below.refl _ _).alloc (Nat.le_refl _) _).alloc (by simp) _)).drew)) (fun hHeld => ?_)
  clear hK K
  (try simp only [Zc])
  refine Tt 7 rfl ?_
  (try simp only [Zc])
  refine till_last (by kernel_rfl) rfl (fun K hK => ?_)
  go_simp
  refine hK.out _ _ ?_
  clear hK K
  (try simp only [Zc])
  refine till_done (by kernel_rfl) ?_ _
  obtain ⟨V,hV⟩:∃ u,Hid (u = (W2.alloc (.cells #[.int .i64 x.op,.int .i64 x.port,.int .u64 x.addr,.slice x.ra x.rd.length x.rc] 39)).alloc (.cells #[.int .i64 x.part,.bool false,.slice none 0 0,.slice none 0 0] 59)):=⟨_,rfl⟩
  have hbV:Below W2.heap.size W2 V:=by rw [hV.out];exact ((Below.refl _ _).alloc (Nat.le_refl _) _).alloc (by simp) _
  have hrB:V.heap[W2.heap.size]? = some (.cells #[.int .i64 x.op,.int .i64 x.port,.int .u64 x.addr,.slice x.ra x.rd.length x.rc] 39 (0,0)):=by rw [hV.out,Below.heap_alloc _ _ _ (by simp)];exact heap_new_at10 _ _ rfl
  have hsB:V.heap[W2.heap.size + 1]? = some (.cells #[.int .i64 x.part,.bool false,.slice none 0 0,.slice none 0 0] 59 (0,0)):=by rw [hV.out];exact heap_new_at10 _ _ (by simp)
  (try simp only [World.size_alloc])
  rw [← hV.out]
  have hA:=bx' V hbV
  have HBW:=hid (HBW2.out.trans (hbV.mono HBW2.out.size))
  have HMW:=hid (MAt.still HW2.out hbV).1
  have HA:=hid hA
  have HABL:Hid (w.heap.size ≤ ab ∧ ab < V.heap.size):=hid ⟨HAB0.out.1,by have:=hbV.size;have:=HAB0.out.2;omega⟩
  have HRF:=hid (fun (d:Nat) (os:Array Obj) => Calls.regrown_of (prefused_is c A.x x.part false [] none 0 none 0 0 x.op x.port x.addr x.ra x.rd.length x.rc z (grow (redrawn V d) os) (HMW.out.cfg.1.later (below_regrown V d os)) wx lx ⟨fun h => absurd h (by simp),by simp⟩ hxw.port hxw.addr hrl (hT.later (HBW.out.trans ((below_regrown V d os).mono HBW.out.size))) HZ4.out))
  have rg0:∀ rg:Regrown,(grow (redrawn V rg.d) rg.os).cell? ⟨A.b,0,none⟩ = some (.slice A.x.pa c.parts.length A.x.pc):=fun rg => cell_regrown (blk_at HMW.out.head.2 (i:=0) rfl) rg.d rg.os
  have rg1:∀ rg:Regrown,(grow (redrawn V rg.d) rg.os).cell? ⟨A.b,1,none⟩ = some (.slice A.x.ca c.chans.length A.x.cc):=fun rg => cell_regrown (blk_at HMW.out.head.2 (i:=1) rfl) rg.d rg.os
  have rg2:∀ rg:Regrown,(grow (redrawn V rg.d) rg.os).cell? ⟨A.b,2,none⟩ = some (.int .i64 c.len0):=fun rg => cell_regrown (blk_at HMW.out.head.2 (i:=2) rfl) rg.d rg.os
  have rg3:∀ rg:Regrown,(grow (redrawn V rg.d) rg.os).cell? ⟨A.b,3,none⟩ = some (.slice A.x.aa c.win0.length A.x.ac):=fun rg => cell_regrown (blk_at HMW.out.head.2 (i:=3) rfl) rg.d rg.os
  have rg4:∀ rg:Regrown,(grow (redrawn V rg.d) rg.os).cell? ⟨A.b,4,none⟩ = some (.int .i64 c.len1):=fun rg => cell_regrown (blk_at HMW.out.head.2 (i:=4) rfl) rg.d rg.os
  have rg5:∀ rg:Regrown,(grow (redrawn V rg.d) rg.os).cell? ⟨A.b,5,none⟩ = some (.slice A.x.ba c.win1.length A.x.bc):=fun rg => cell_regrown (blk_at HMW.out.head.2 (i:=5) rfl) rg.d rg.os
  have rs0:∀ rg:Regrown,(grow (redrawn V rg.d) rg.os).cell? ⟨(W2.heap.size + 1),0,none⟩ = some (.int .i64 x.part):=fun rg => cell_regrown (blk_at hsB (i:=0) rfl) rg.d rg.os
  have rs1:∀ rg:Regrown,(grow (redrawn V rg.d) rg.os).cell? ⟨(W2.heap.size + 1),1,none⟩ = some (.bool false):=fun rg => cell_regrown (blk_at hsB (i:=1) rfl) rg.d rg.os
  have rs2:∀ rg:Regrown,(grow (redrawn V rg.d) rg.os).cell? ⟨(W2.heap.size + 1),2,none⟩ = some (.slice none 0 0):=fun rg => cell_regrown (blk_at hsB (i:=2) rfl) rg.d rg.os
  have rs3:∀ rg:Regrown,(grow (redrawn V rg.d) rg.os).cell? ⟨(W2.heap.size + 1),3,none⟩ = some (.slice none 0 0):=fun rg => cell_regrown (blk_at hsB (i:=3) rfl) rg.d rg.os
  have rq0:∀ rg:Regrown,(grow (redrawn V rg.d) rg.os).cell? ⟨W2.heap.size,0,none⟩ = some (.int .i64 x.op):=fun rg => cell_regrown (blk_at hrB (i:=0) rfl) rg.d rg.os
  have rq1:∀ rg:Regrown,(grow (redrawn V rg.d) rg.os).cell? ⟨W2.heap.size,1,none⟩ = some (.int .i64 x.port):=fun rg => cell_regrown (blk_at hrB (i:=1) rfl) rg.d rg.os
  have rq2:∀ rg:Regrown,(grow (redrawn V rg.d) rg.os).cell? ⟨W2.heap.size,2,none⟩ = some (.int .u64 x.addr):=fun rg => cell_regrown (blk_at hrB (i:=2) rfl) rg.d rg.os
  have rq3:∀ rg:Regrown,(grow (redrawn V rg.d) rg.os).cell? ⟨W2.heap.size,3,none⟩ = some (.slice x.ra x.rd.length x.rc):=fun rg => cell_regrown (blk_at hrB (i:=3) rfl) rg.d rg.os
  have hbc:Below V.heap.size V V.drew:=(Below.refl _ _).drew
  simp only [cfgCells,List.length_nil] at HRF
  clear hbV hsB hrB hA hV
  go_wp2_with fail
  ((first | with_reducible refine wpList_on hbc ?_ | with_reducible refine wp_on hbc (by kernel_rfl) (by kernel_rfl) ?_);(repeat (go_big_quiet_step (first | with_reducible exact HRF.out _ _ | fail)));with_reducible refine wpQuiet_nil ?_;intro wc hbc)
  have HBC:=hid hbc
  clear hbc HRF rg0 rg1 rg2 rg3 rg4 rg5 rs0 rs1 rs2 rs3 rq0 rq1 rq2 rq3
  have hzb:(z != 0) = true:=by simp [hz0]
  have HEQ:=hid (HRR.out.symm.trans (do8_no HZ0.out hz0))
  clear hz0
  have hAc:=(HBC.out.block ab (by have:=HABL.out;omega)).trans HA.out
  have hth:=there_blk (W:=wc) hAc (n:=(#[.int .i64 z,.slice none 0 0,.bool false,.int .i64 0]:Array Value).size) rfl
  have hsz4:(Tryz.prog.info? 42).map (·.size) = some (#[.int .i64 z,.slice none 0 0,.bool false,.int .i64 0]:Array Value).size:=ans8_size
  go_wp2_with (with_reducible refine wpList_store_mid (by kernel_rfl) _ _ _ rfl ab 0 #[.int .i64 z,.slice none 0 0,.bool false,.int .i64 0] (by kernel_rfl) (by kernel_rfl) hth hsz4 (by kernel_rfl) ?_)
  have hrg:=World.rangeAt_setCells_same (wc) (ab) 0 (#[.int .i64 z,.slice none 0 0,.bool false,.int .i64 0]:Array Value).toList (by simpa using hth)
  (try simp only [Exit.inBlock,Exit.then])
  refine bodyPost_ret (results_cell_mid rfl _ _ (ab) (#[.int .i64 z,.slice none 0 0,.bool false,.int .i64 0]:Array Value).toList _ rfl hrg Tryz.underlying42 rfl ans8_size) rfl ?_
  have hoF:Only (fun j => j = ab) wc (wc.setCells ab 0 (#[.int .i64 z,.slice none 0 0,.bool false,.int .i64 0]:Array Value).toList):=Only.sets (S:=fun j => j = ab) rfl _ 0 (Only.refl _ _)
  obtain ⟨rfl,rfl⟩:=pair8 HEQ.out
  exact ⟨none,0,rfl,(fun h => by simp [code8] at h),⟨by simp [code8],by simp [maxLen],fun _ => rfl⟩,Turn8.tick H.out (below_put4 (HBW.out.trans (HBC.out.mono HBW.out.size)) HABL.out.1 _)⟩
/-- Do,of any partition's call. -/
theorem do_any {w:World} {own:Nat → Tg8} {n0:Nat} {c:Cfg} {M:Md8} {A:Mx8} (h:MAt w own n0 c M A) (wx:CfgWf c) (lx:CfgFew c) (x:CV) (hxw:CWf x) (hxr:CRows w w.heap.size x) (hrl:x.rd.length ≤ 1000000) (hac:acceptsB c = true) (ht:M.t ≤ 100000) (hT:TabsAt w) (hxm:0 < x.rd.length → ∀ a,x.ra = some a → ¬ (own a.block).mut) (hst:-1 ≤ x.stamp ∧ x.stamp ≤ 1099511627776) (ht1:-1 ≤ x.t1 ∧ x.t1 ≤ 1099511627776) (R:An8) (M':Md8) (hR:do8 c M x = (R,M')):Calls Tryz.prog 12 #[.pointer (some ⟨A.b,0,none⟩),.agg (cCells x).toArray] w (Goes8 w own n0 c R M' A):=by
 by_cases hpo:x.part < 0 ∨ (c.parts.length:Int) ≤ x.part
 ·exact do_out h wx lx x hxw hxr hrl hac ht hT hxm hpo R M' hR
 ·obtain ⟨p,hp⟩:=Int.eq_ofNat_of_zero_le (show 0 ≤ x.part by omega)
  exact do_in h wx lx x hxw hxr hrl hac ht hT hxm p (by omega) hp hst ht1 R M' hR
end Go.Proofs.YtheeiklgblcjfaaGreatDoor
end
