/- Texts of the ring, joined, what is used of them. No condition but those in the statements. -/
import Derived.OrdersIn
import Derived.RangeFuncWrites
import Derived.Test.YtjfolhkblbakiaaGreatDoorQgT
namespace Go.Proofs.YtjfolhkblbakiaaGreatDoor
open Go.RowKit Go.Sort
set_option linter.unusedVariables false
set_option linter.unusedSimpArgs false
section
variable {P:Program} {l n:Nat} {Q:Exit → Act → World → Prop}
theorem callsIn_round {f:FuncId} {args:Array Value} {w:World} {R:Ending → World → Prop} (h:Calls P f args w R):CallsIn (Fence.wide.inRound l) n P f args w R:=by
  have q:CallsIn Fence.wide n P f args w R:=callsIn_wide.2 h
  unfold CallsIn at q ⊢
  rw [fenced_inRound]
  exact q
theorem rowsIn_round {r:String} {args:Array Value} {w:World} {R:Value → World → Prop} (h:Rows P r args w R):RowsIn (Fence.wide.inRound l) n P r args w R:=by
  unfold RowsIn
  rw [fenced_inRound]
  exact fun c cs _ => let ⟨v,w',hr,s⟩:=h c cs;⟨v,w',hr,stepsIn_wide.2 s⟩
theorem oper_inRound {o:Oper} {a:Act} {w:World} {K:Act → World → Prop} (hd:∀ c,o.op ≠ .defer c) (h:Oper.wp P o a w K Q):Oper.wpIn (Fence.wide.inRound l) n P o a w K Q:=by
  refine ⟨fun _ _ => trivial,?_⟩
  rw [Oper.semAt_eq _ _ _ hd]
  unfold Oper.wp at h
  generalize (execOp a.eval o).run P w = r at h ⊢
  cases r with
  | ok x w' =>
    cases x with
    | enter f args => exact ⟨fun h0 => (by cases h0),callsIn_round h⟩
    | row r args => exact ⟨fun h0 => (by cases h0),rowsIn_round h⟩
    | round => exact h.elim
    | _ => exact h
  | halt x w' => cases x <;> exact h
def noDefer (ops:Array Oper):Bool:=ops.all fun o => match o.op with | .defer _ => false | _ => true
theorem noDefer_spec {ops:Array Oper} (h:noDefer ops = true) {i:Nat} {o:Oper} (hi:ops[i]? = some o):∀ c,o.op ≠ .defer c:=fun c e => by
  unfold noDefer at h
  rw [Array.all_eq_true] at h
  obtain ⟨hl,hg⟩:=Array.getElem?_eq_some_iff.1 hi
  have:=h i hl
  rw [hg,e] at this
  cases this
theorem op_inRound {ops:Array Oper} {i:Nat} {a:Act} {w:World} {K K':Act → World → Prop} (hlo:¬ LetsOut Q) (hd:noDefer ops = true) (hK:∀ a w,K a w → K' a w) (h:wpOp P ops Q i K a w):wpOpIn (Fence.wide.inRound l) n P ops Q i K' a w:=by
  unfold wpOp at h
  unfold wpOpIn
  cases e:ops[i]? with
  | none => simp only [e] at h ⊢;exact hK _ _ h
  | some o =>
    simp only [e] at h ⊢
    split
    · rename_i hw;rw [if_pos hw] at h;exact Oper.wpIn_mono hK (oper_inRound (noDefer_spec hd e) (h.resolve_right fun x => hlo x.2))
    · rename_i hw;rw [if_neg hw] at h;exact ⟨fun _ _ => trivial,hK _ _ h⟩
theorem any_inRound {md:Region.Mode} {ops:Array Oper} (hlo:¬ LetsOut Q) (hd:noDefer ops = true):∀ (k:Nat) (li:Array Bool) (a:Act) (w:World),wpAny P md ops Q k li a w → wpAnyIn (Fence.wide.inRound l) n P md ops Q k li a w
  | 0,_,_,_,h => h
  | k + 1,_,_,_,h => ⟨h.1,fun i hi => op_inRound hlo hd (fun a' w' h' => any_inRound hlo hd k _ a' w' h') (h.2 i hi)⟩
theorem wpIn_region_till {id:Nat} {ops:Array Oper} {a:Act} {w:World} (S:World → Prop) (k:Nat) (hm:P.follows .mixedOrders = true) (hlo:¬ LetsOut Q) (hd:noDefer ops = true) (hS:S w.drew)
    (h:S w.drew → Till P .any ops Q S k ops.size (Array.replicate ops.size false) a w.drew):(Code.region id ops true).wpIn (Fence.wide.inRound l) n P Q a w:=
  wpIn_region_any hm (any_inRound hlo hd _ _ _ _ (Till.any _ _ _ _ (h hS)))
end
end Go.Proofs.YtjfolhkblbakiaaGreatDoor
