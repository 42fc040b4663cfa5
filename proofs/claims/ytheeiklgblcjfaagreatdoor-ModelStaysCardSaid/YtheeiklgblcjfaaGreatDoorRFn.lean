/- Texts of the ring, joined, what is used of them. No condition but those in the statements. -/
import Derived.OwnWalk
import Derived.Test.YtheeiklgblcjfaaGreatDoorRga
namespace Go.Proofs.YtheeiklgblcjfaaGreatDoor
open Go.RowKit Go.Sort
set_option linter.unusedVariables false
set_option linter.unusedSimpArgs false
theorem wpList_call_fn {P:Program} {ops:Array Oper} {rest:List Oper} {o:Oper} {a:Act} {w:World} {Q:Exit → Act → World → Prop} (hgd:o.guard = none) (fo:Operand) (as1:List Operand) (ts:Array TypeId)
    (ho:o.op = .call { callee:=.value fo,args:=as1.toArray,argTypes:=ts }) (g:Nat) (caps:List Value) (hf:a.eval fo = .func (.func g) #[] caps.toArray) (eg:∀ args w,(callFunc g args).run P w = .ok (.enter g args) w)
    (args:List Value) (ha:as1.map a.eval ++ caps = args) (S:Value → World → Prop) (hC:Calls P g args.toArray w fun e w' => ∃ v,e = .returned v ∧ S v w')
    (h:∀ v w',S v w' → wpList P ops Q rest (a.put o.dst v) w'):wpList P ops Q (o :: rest) a w:=by
  refine wpList_plain hgd fun K hK' => ?_
  subst ha
  unfold Oper.wp
  simp only [execOp,ho,resolve,hf,Deferred.ofValue,invoke]
  simp [eg,Oper.upon_enter]
  exact hC.mono fun e w' ⟨v,he,hS⟩ => by subst he;exact hK' _ _ (h v w' hS)
/-- The same,fit for an arm of a walk: the operation written out. -/
theorem wpList_fn {P:Program} {ops:Array Oper} {rest:List Oper} {dst:Option Tmp} {fo:Operand} {as1:List Operand} {ts:Array TypeId} {ty:TypeId} {pos:String} {after:Array Edge} {a:Act} {w:World} {Q:Exit → Act → World → Prop}
    {g:Nat} {caps:List Value} {args:List Value} {S:Value → World → Prop} (eg:∀ args w,(callFunc g args).run P w = .ok (.enter g args) w) (hC:Calls P g args.toArray w fun e w' => ∃ v,e = .returned v ∧ S v w')
    (hf:a.eval fo = .func (.func g) #[] caps.toArray) (ha:as1.map a.eval ++ caps = args)
    (h:∀ v w',S v w' → wpList P ops Q rest (a.put dst v) w'):wpList P ops Q ({ dst:=dst,op:=.call { callee:=.value fo,args:=as1.toArray,argTypes:=ts },type:=ty,pos:=pos,after:=after,guard:=none } :: rest) a w:=
  wpList_call_fn rfl fo as1 ts rfl g caps hf eg args ha S hC h
theorem gives_one {P:Program} {g:Nat} {args:Array Value} {w:World} {v0:Value} {S:World → Prop} (h:Calls P g args w fun e w' => e = .returned v0 ∧ S w'):Calls P g args w fun e w' => ∃ v,e = .returned v ∧ (v = v0 ∧ S w'):=
  h.mono fun _ _ ⟨h1,h2⟩ => ⟨_,h1,rfl,h2⟩
end Go.Proofs.YtheeiklgblcjfaaGreatDoor
