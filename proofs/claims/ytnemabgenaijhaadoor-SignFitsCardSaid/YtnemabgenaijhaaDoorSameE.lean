/- The document's Same at spans, as a contract. No condition but those in the statements. Structs compared by ==, as a step of a quiet walk. No condition but those in the statements. -/
import Derived.Test.YtnemabgenaijhaaDoorKitN
import Derived.Test.YtnemabgenaijhaaDoorProg
import Derived.IntWalk
import Derived.Laws.StructEq
namespace Go.Proofs.YtnemabgenaijhaaDoor
open Go.RowKit Go.Sort
set_option linter.unusedVariables false
set_option linter.unusedSimpArgs false

section
variable {P : Program} {o : Oper} {a : Act} {C : World → Prop} {K : Act → Prop}
theorem quiet_neqN (T ty : TypeId) (x y : Operand) (h : o.op = .binOp .neq T x y ty) (xs ys : Array Value) (hx : a.eval x = .agg xs) (hy : a.eval y = .agg ys) (b : Bool) (hE : ∀ w, (Op.equalIn 10000 T (.agg xs) (.agg ys)).run P w = .ok b w)
    (hG : P.eqGuardType P.depth T = false) (hk : K (a.put o.dst (.bool (!b)))) : o.quiet P a C K := by
  refine ⟨_, fun w _ => ?_, hk⟩
  unfold Oper.quietAt
  simp [execOp, h, hx, hy, run_eqGuard_agg w .neq T x y xs ys hG, run_neq_struct w T xs ys, hE, Oper.quietUpon, Result.andThen]
theorem quiet_neqT (T ty : TypeId) (x y : Operand) (h : o.op = .binOp .neq T x y ty) (xs ys : Array Value) (hx : a.eval x = .agg xs) (hy : a.eval y = .agg ys) (hE : ∀ w, (Op.equalIn 10000 T (.agg xs) (.agg ys)).run P w = .ok false w)
    (hG : P.eqGuardType P.depth T = false) (hk : K (a.put o.dst (.bool true))) : o.quiet P a C K := quiet_neqN T ty x y h xs ys hx hy false hE hG hk
theorem quiet_neqF (T ty : TypeId) (x y : Operand) (h : o.op = .binOp .neq T x y ty) (xs ys : Array Value) (hx : a.eval x = .agg xs) (hy : a.eval y = .agg ys) (hE : ∀ w, (Op.equalIn 10000 T (.agg xs) (.agg ys)).run P w = .ok true w)
    (hG : P.eqGuardType P.depth T = false) (hk : K (a.put o.dst (.bool false))) : o.quiet P a C K := quiet_neqN T ty x y h xs ys hx hy true hE hG hk
end
theorem eqS_d (d : Nat) (x0 x1 y0 y1 : Int) (w : World) : (Op.equalIn (d + 1 + 1) 75 (.agg #[.int .i64 x0, .int .i64 x1]) (.agg #[.int .i64 y0, .int .i64 y1])).run Tryd.prog w = .ok ((x0 == y0) && (x1 == y1)) w := by
  have hf : Tryd.prog.underlying 75 = some (.struct (Tryd.prog.fieldsOf 75)) := by kernel_rfl
  have hi : Tryd.prog.underlying 3 = some (.int .i64) := Tryd.underlying3
  rw [run_equalIn_agg w (d + 1) _ _ _ hf (by kernel_rfl)]
  clear hf
  have hu := Tryd.underlying75
  simp only [Program.fieldsOf, hu]
  simp [Op.eqFields, go_sem, hi]
  repeat' split
  all_goals simp_all
theorem eqS (x0 x1 y0 y1 : Int) (b : Bool) (h : decide ([x0, x1] = [y0, y1]) = b) : ∀ w : World, (Op.equalIn 10000 75 (.agg #[.int .i64 x0, .int .i64 x1]) (.agg #[.int .i64 y0, .int .i64 y1])).run Tryd.prog w = .ok b w := by
  intro w
  rw [show (10000 : Nat) = 9998 + 1 + 1 from rfl, eqS_d, ← h]
  congr 1
  rw [Bool.eq_iff_iff]
  simp
theorem take_sameL {α : Type} {l m : List α} {k : Nat} {x : α} (hl : l[k]? = some x) (hm : m[k]? = some x) (h : l.take k = m.take k) : l.take (k + 1) = m.take (k + 1) := by rw [List.take_add_one, List.take_add_one, h, hl, hm]
theorem get_sameL {α : Type} {l m : List α} {k : Nat} {x y : α} (hl : l[k]? = some x) (hm : m[k]? = some y) (h : x ≠ y) : l ≠ m := fun e => by rw [e, hm] at hl; cases hl; exact h rfl

end Go.Proofs.YtnemabgenaijhaaDoor

namespace Go.Proofs.YtnemabgenaijhaaDoor
open Go.RowKit Go.Sort
set_option linter.unusedVariables false
set_option linter.unusedSimpArgs false

section
variable {P : Program} {o : Oper} {a : Act} {C : World → Prop} {K : Act → Prop}
theorem quiet_eqlN (T ty : TypeId) (x y : Operand) (h : o.op = .binOp .eql T x y ty) (xs ys : Array Value) (hx : a.eval x = .agg xs) (hy : a.eval y = .agg ys) (b : Bool) (hE : ∀ w, (Op.equalIn 10000 T (.agg xs) (.agg ys)).run P w = .ok b w)
    (hG : P.eqGuardType P.depth T = false) (hk : K (a.put o.dst (.bool b))) : o.quiet P a C K := by
  refine ⟨_, fun w _ => ?_, hk⟩
  unfold Oper.quietAt
  simp [execOp, h, hx, hy, run_eqGuard_agg w .eql T x y xs ys hG, run_eql_struct w T xs ys, hE, Oper.quietUpon, Result.andThen]
theorem quiet_eqlT (T ty : TypeId) (x y : Operand) (h : o.op = .binOp .eql T x y ty) (xs ys : Array Value) (hx : a.eval x = .agg xs) (hy : a.eval y = .agg ys) (hE : ∀ w, (Op.equalIn 10000 T (.agg xs) (.agg ys)).run P w = .ok true w)
    (hG : P.eqGuardType P.depth T = false) (hk : K (a.put o.dst (.bool true))) : o.quiet P a C K := quiet_eqlN T ty x y h xs ys hx hy true hE hG hk
theorem quiet_eqlF (T ty : TypeId) (x y : Operand) (h : o.op = .binOp .eql T x y ty) (xs ys : Array Value) (hx : a.eval x = .agg xs) (hy : a.eval y = .agg ys) (hE : ∀ w, (Op.equalIn 10000 T (.agg xs) (.agg ys)).run P w = .ok false w)
    (hG : P.eqGuardType P.depth T = false) (hk : K (a.put o.dst (.bool false))) : o.quiet P a C K := quiet_eqlN T ty x y h xs ys hx hy false hE hG hk
end

/-- A configuration's box, in every world that a quiet walk may meet. -/
theorem CBox.quiet {W : World} {b : Nat} {c : Cfg} {x : CfgAt} (h : CBox W b c x) : (∀ p : Regrown, (grow (redrawn W p.d) p.os).cell? ⟨b, 0, none⟩ = some (.slice x.pa c.parts.length x.pc)) ∧ (∀ p : Regrown, (grow (redrawn W p.d) p.os).cell? ⟨b, 1, none⟩ = some (.slice x.ca c.chans.length x.cc)) ∧
    (∀ p : Regrown, (grow (redrawn W p.d) p.os).cell? ⟨b, 2, none⟩ = some (.int .i64 c.len0)) ∧ (∀ p : Regrown, (grow (redrawn W p.d) p.os).cell? ⟨b, 3, none⟩ = some (.slice x.aa c.win0.length x.ac)) ∧
    (∀ p : Regrown, (grow (redrawn W p.d) p.os).cell? ⟨b, 4, none⟩ = some (.int .i64 c.len1)) ∧ (∀ p : Regrown, (grow (redrawn W p.d) p.os).cell? ⟨b, 5, none⟩ = some (.slice x.ba c.win1.length x.bc)) :=
  ⟨fun p => (h _ (below_regrown W p.d p.os)).1, fun p => (h _ (below_regrown W p.d p.os)).2.1, fun p => (h _ (below_regrown W p.d p.os)).2.2.1, fun p => (h _ (below_regrown W p.d p.os)).2.2.2.1, fun p => (h _ (below_regrown W p.d p.os)).2.2.2.2.1, fun p => (h _ (below_regrown W p.d p.os)).2.2.2.2.2⟩
end Go.Proofs.YtnemabgenaijhaaDoor
