/- Structs of integers compared, as a step of a quiet walk. No condition but those in the statements. -/
import Derived.Test.YtjknmojjodghdaaKitN
import Derived.Test.YtjknmojjodghdaaProg
import Derived.IntWalk
import Derived.Laws.StructEq
namespace Go.Proofs.Ytjknmojjodghdaa
open Go.RowKit Go.Sort
set_option linter.unusedVariables false
set_option linter.unusedSimpArgs false

section
variable {P : Program} {o : Oper} {a : Act} {C : World → Prop} {K : Act → Prop}
theorem quiet_neqN (T ty : TypeId) (x y : Operand) (h : o.op = .binOp .neq T x y ty) (xs ys : Array Value) (hx : a.eval x = .agg xs) (hy : a.eval y = .agg ys) (b : Bool) (hE : ∀ w, (Op.equalIn 10000 T (.agg xs) (.agg ys)).run P w = .ok b w)
    (hG : P.eqGuardType P.depth T = false) (hk : K (a.put o.dst (.bool (!b)))) : o.quiet P a C K := by
  refine ⟨_, fun w _ => ?_, hk⟩
  unfold Oper.quietAt
  simp [execOp, h, hx, hy, run_eqGuard_agg w .neq T x y xs ys hG, run_neq_struct w T xs ys, hE, Oper.quietUpon, Result.andThen]
theorem quiet_neqT (T ty : TypeId) (x y : Operand) (h : o.op = .binOp .neq T x y ty) (xs ys : Array Value) (hx : a.eval x = .agg xs) (hy : a.eval y = .agg ys) (hE : ∀ w, (Op.equalIn 10000 T (.agg xs) (.agg ys)).run P w = .ok false w)
    (hG : P.eqGuardType P.depth T = false) (hk : K (a.put o.dst (.bool true))) : o.quiet P a C K := quiet_neqN T ty x y h xs ys hx hy false hE hG hk
theorem quiet_neqF (T ty : TypeId) (x y : Operand) (h : o.op = .binOp .neq T x y ty) (xs ys : Array Value) (hx : a.eval x = .agg xs) (hy : a.eval y = .agg ys) (hE : ∀ w, (Op.equalIn 10000 T (.agg xs) (.agg ys)).run P w = .ok true w)
    (hG : P.eqGuardType P.depth T = false) (hk : K (a.put o.dst (.bool false))) : o.quiet P a C K := quiet_neqN T ty x y h xs ys hx hy true hE hG hk
end

theorem eq2_d (d : Nat) (x0 x1 y0 y1 : Int) (w : World) : (Op.equalIn (d + 1 + 1) 55 (.agg #[.int .i64 x0, .int .i64 x1]) (.agg #[.int .i64 y0, .int .i64 y1])).run Try.prog w = .ok ((x0 == y0) && (x1 == y1)) w := by
  have hf : Try.prog.underlying 55 = some (.struct (Try.prog.fieldsOf 55)) := by kernel_rfl
  have hi : Try.prog.underlying 3 = some (.int .i64) := Try.underlying3
  have hw : Try.prog.underlying 43 = some (.int .u32) := Try.underlying43
  rw [run_equalIn_agg w (d + 1) _ _ _ hf (by kernel_rfl)]
  clear hf
  have hu := Try.underlying55
  simp only [Program.fieldsOf, hu]
  simp [Op.eqFields, go_sem, hi, hw]
  repeat' split
  all_goals simp_all
theorem eq2 (x0 x1 y0 y1 : Int) (b : Bool) (h : decide ([x0, x1] = [y0, y1]) = b) : ∀ w : World, (Op.equalIn 10000 55 (.agg #[.int .i64 x0, .int .i64 x1]) (.agg #[.int .i64 y0, .int .i64 y1])).run Try.prog w = .ok b w := by
  intro w
  rw [show (10000 : Nat) = 9998 + 1 + 1 from rfl, eq2_d, ← h]
  congr 1
  rw [Bool.eq_iff_iff]
  simp [and_assoc]

theorem eq3_d (d : Nat) (x0 x1 x2 y0 y1 y2 : Int) (w : World) : (Op.equalIn (d + 1 + 1) 51 (.agg #[.int .i64 x0, .int .i64 x1, .int .i64 x2]) (.agg #[.int .i64 y0, .int .i64 y1, .int .i64 y2])).run Try.prog w = .ok ((x0 == y0) && (x1 == y1) && (x2 == y2)) w := by
  have hf : Try.prog.underlying 51 = some (.struct (Try.prog.fieldsOf 51)) := by kernel_rfl
  have hi : Try.prog.underlying 3 = some (.int .i64) := Try.underlying3
  have hw : Try.prog.underlying 43 = some (.int .u32) := Try.underlying43
  rw [run_equalIn_agg w (d + 1) _ _ _ hf (by kernel_rfl)]
  clear hf
  have hu := Try.underlying51
  simp only [Program.fieldsOf, hu]
  simp [Op.eqFields, go_sem, hi, hw]
  repeat' split
  all_goals simp_all
theorem eq3 (x0 x1 x2 y0 y1 y2 : Int) (b : Bool) (h : decide ([x0, x1, x2] = [y0, y1, y2]) = b) : ∀ w : World, (Op.equalIn 10000 51 (.agg #[.int .i64 x0, .int .i64 x1, .int .i64 x2]) (.agg #[.int .i64 y0, .int .i64 y1, .int .i64 y2])).run Try.prog w = .ok b w := by
  intro w
  rw [show (10000 : Nat) = 9998 + 1 + 1 from rfl, eq3_d, ← h]
  congr 1
  rw [Bool.eq_iff_iff]
  simp [and_assoc]

theorem eq7_d (d : Nat) (x0 x1 x2 x3 x4 x5 x6 y0 y1 y2 y3 y4 y5 y6 : Int) (w : World) : (Op.equalIn (d + 1 + 1) 59 (.agg #[.int .i64 x0, .int .i64 x1, .int .i64 x2, .int .i64 x3, .int .i64 x4, .int .i64 x5, .int .u32 x6]) (.agg #[.int .i64 y0, .int .i64 y1, .int .i64 y2, .int .i64 y3, .int .i64 y4, .int .i64 y5, .int .u32 y6])).run Try.prog w = .ok ((x0 == y0) && (x1 == y1) && (x2 == y2) && (x3 == y3) && (x4 == y4) && (x5 == y5) && (x6 == y6)) w := by
  have hf : Try.prog.underlying 59 = some (.struct (Try.prog.fieldsOf 59)) := by kernel_rfl
  have hi : Try.prog.underlying 3 = some (.int .i64) := Try.underlying3
  have hw : Try.prog.underlying 43 = some (.int .u32) := Try.underlying43
  rw [run_equalIn_agg w (d + 1) _ _ _ hf (by kernel_rfl)]
  clear hf
  have hu := Try.underlying59
  simp only [Program.fieldsOf, hu]
  simp [Op.eqFields, go_sem, hi, hw]
  repeat' split
  all_goals simp_all
theorem eq7 (x0 x1 x2 x3 x4 x5 x6 y0 y1 y2 y3 y4 y5 y6 : Int) (b : Bool) (h : decide ([x0, x1, x2, x3, x4, x5, x6] = [y0, y1, y2, y3, y4, y5, y6]) = b) : ∀ w : World, (Op.equalIn 10000 59 (.agg #[.int .i64 x0, .int .i64 x1, .int .i64 x2, .int .i64 x3, .int .i64 x4, .int .i64 x5, .int .u32 x6]) (.agg #[.int .i64 y0, .int .i64 y1, .int .i64 y2, .int .i64 y3, .int .i64 y4, .int .i64 y5, .int .u32 y6])).run Try.prog w = .ok b w := by
  intro w
  rw [show (10000 : Nat) = 9998 + 1 + 1 from rfl, eq7_d, ← h]
  congr 1
  rw [Bool.eq_iff_iff]
  simp [and_assoc]
end Go.Proofs.Ytjknmojjodghdaa
