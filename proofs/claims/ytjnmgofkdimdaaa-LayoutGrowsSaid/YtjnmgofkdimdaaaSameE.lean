/- The document's Same at spans, as a contract. No condition but those in the statements. Structs compared by ==, as a step of a quiet walk. No condition but those in the statements. -/
import Derived.Test.YtjnmgofkdimdaaaKitN
import Derived.Test.YtjnmgofkdimdaaaProg
import Derived.IntWalk
import Derived.Laws.StructEq
namespace Go.Proofs.Ytjnmgofkdimdaaa
open Go.RowKit Go.Sort
set_option linter.unusedVariables false
set_option linter.unusedSimpArgs false

section
variable {P : Program} {o : Oper} {a : Act} {C : World → Prop} {K : Act → Prop}
theorem quiet_neqN (T ty : TypeId) (x y : Operand) (h : o.op = .binOp .neq T x y ty) (xs ys : Array Value) (hx : a.eval x = .agg xs) (hy : a.eval y = .agg ys) (b : Bool) (hE : ∀ w, (Op.equalIn 10000 T (.agg xs) (.agg ys)).run P w = .ok b w)
    (hG : P.eqGuardType P.depth T = false) (hk : K (a.put o.dst (.bool (!b)))) : o.quiet P a C K := by
  refine ⟨_, fun w _ => ?_, hk⟩
  unfold Oper.quietAt
  simp [execOp, h, hx, hy, run_eqGuard_agg w .neq T x y xs ys hG, run_neq_struct w T xs ys, hE, Oper.quietUpon, Result.andThen]
theorem quiet_neqT (T ty : TypeId) (x y : Operand) (h : o.op = .binOp .neq T x y ty) (xs ys : Array Value) (hx : a.eval x = .agg xs) (hy : a.eval y = .agg ys) (hE : ∀ w, (Op.equalIn 10000 T (.agg xs) (.agg ys)).run P w = .ok false w)
    (hG : P.eqGuardType P.depth T = false) (hk : K (a.put o.dst (.bool true))) : o.quiet P a C K := quiet_neqN T ty x y h xs ys hx hy false hE hG hk
theorem quiet_neqF (T ty : TypeId) (x y : Operand) (h : o.op = .binOp .neq T x y ty) (xs ys : Array Value) (hx : a.eval x = .agg xs) (hy : a.eval y = .agg ys) (hE : ∀ w, (Op.equalIn 10000 T (.agg xs) (.agg ys)).run P w = .ok true w)
    (hG : P.eqGuardType P.depth T = false) (hk : K (a.put o.dst (.bool false))) : o.quiet P a C K := quiet_neqN T ty x y h xs ys hx hy true hE hG hk
end
theorem eqS_d (d : Nat) (x0 x1 y0 y1 : Int) (w : World) : (Op.equalIn (d + 1 + 1) 36 (.agg #[.int .i64 x0, .int .i64 x1]) (.agg #[.int .i64 y0, .int .i64 y1])).run Try.prog w = .ok ((x0 == y0) && (x1 == y1)) w := by
  have hf : Try.prog.underlying 36 = some (.struct (Try.prog.fieldsOf 36)) := by kernel_rfl
  have hi : Try.prog.underlying 3 = some (.int .i64) := Try.underlying3
  rw [run_equalIn_agg w (d + 1) _ _ _ hf (by kernel_rfl)]
  clear hf
  have hu := Try.underlying36
  simp only [Program.fieldsOf, hu]
  simp [Op.eqFields, go_sem, hi]
  repeat' split
  all_goals simp_all
theorem eqS (x0 x1 y0 y1 : Int) (b : Bool) (h : decide ([x0, x1] = [y0, y1]) = b) : ∀ w : World, (Op.equalIn 10000 36 (.agg #[.int .i64 x0, .int .i64 x1]) (.agg #[.int .i64 y0, .int .i64 y1])).run Try.prog w = .ok b w := by
  intro w
  rw [show (10000 : Nat) = 9998 + 1 + 1 from rfl, eqS_d, ← h]
  congr 1
  rw [Bool.eq_iff_iff]
  simp
theorem take_sameL {α : Type} {l m : List α} {k : Nat} {x : α} (hl : l[k]? = some x) (hm : m[k]? = some x) (h : l.take k = m.take k) : l.take (k + 1) = m.take (k + 1) := by rw [List.take_add_one, List.take_add_one, h, hl, hm]
theorem get_sameL {α : Type} {l m : List α} {k : Nat} {x y : α} (hl : l[k]? = some x) (hm : m[k]? = some y) (h : x ≠ y) : l ≠ m := fun e => by rw [e, hm] at hl; cases hl; exact h rfl

set_option maxHeartbeats 1600000 in
theorem sameS_b (l m : List (List Int)) (A A' : Option Addr) (c c' : Nat) (w : World) (hx : RowN [.i64, .i64] w w.heap.size A l) (hy : RowN [.i64, .i64] w w.heap.size A' m) (wl : wfR [.i64, .i64] l) (wm : wfR [.i64, .i64] m) (hl : l.length ≤ 1000000) :
    Calls Try.prog 19 #[.slice A l.length c, .slice A' m.length c'] w fun e w' => e = .returned (.bool (decide (l = m))) ∧ Below w.heap.size w w' := by
  by_cases hlen : l.length = m.length
  · have hL := Lib.hid hlen
    have hne : ((l.length : Int) != (m.length : Int)) = false := by simp [hlen]
    clear hlen
    go_enter Try.func19, Try.ntmps19
    go_wp2
    go_loopw [5] (fun ix wr => ∃ k : Nat, k ≤ l.length ∧ ix = .int .i64 k ∧ l.take k = m.take k ∧ Below w.heap.size w wr) (fun ix _ => l.length - (intOf ix).toNat)
    case atStart => exact ⟨0, Nat.zero_le _, rfl, rfl, Below.refl _ _⟩
    case round =>
      obtain ⟨k, hk, rfl, htk, hbc⟩ := hrel
      have HT := Lib.hid htk
      clear htk
      by_cases hlt : k < l.length
      · have hlt2 : k < m.length := by have := hL.out; omega
        obtain ⟨b, o, x0, x1, rfl, _, e1, _, k0⟩ := hx.at2 wl hlt
        obtain ⟨b', o', y0, y1, rfl, _, e2, _, k1⟩ := hy.at2 wm hlt2
        obtain ⟨p0, p1⟩ := k0 _ hbc
        obtain ⟨q0, q1⟩ := k1 _ hbc
        have p0 : ∀ p : Regrown, (grow (redrawn wr p.d) p.os).cell? ⟨b, o + k * 2, none⟩ = some (.int .i64 x0) := fun p => cell_regrown p0 p.d p.os
        have q0 : ∀ p : Regrown, (grow (redrawn wr p.d) p.os).cell? ⟨b', o' + k * 2, none⟩ = some (.int .i64 y0) := fun p => cell_regrown q0 p.d p.os
        have p1 : ∀ p : Regrown, (grow (redrawn wr p.d) p.os).cell? ⟨b, o + k * 2 + 1, none⟩ = some (.int .i64 x1) := fun p => cell_regrown p1 p.d p.os
        have q1 : ∀ p : Regrown, (grow (redrawn wr p.d) p.os).cell? ⟨b', o' + k * 2 + 1, none⟩ = some (.int .i64 y1) := fun p => cell_regrown q1 p.d p.os
        have hbr := Below.refl wr.heap.size wr
        have E1 := Lib.hid e1; have E2 := Lib.hid e2
        clear e1 e2 k0 k1 hx hy
        by_cases he : [x0, x1] = [y0, y1]
        · have HE := Lib.hid he; have HQ := Lib.hid (eqS x0 x1 y0 y1 true (decide_eq_true he))
          clear he
          go_wp2_with ((first | with_reducible refine wpList_on hbr ?_ | with_reducible refine wp_on hbr (by kernel_rfl) (by kernel_rfl) ?_); (repeat (first | (go_big_quiet_want; (first | refine quiet_neqT 36 _ _ _ rfl _ _ rfl rfl HQ.out (by kernel_rfl) ?_ | refine quiet_neqF 36 _ _ _ rfl _ _ rfl rfl HQ.out (by kernel_rfl) ?_); go_big_quiet_on) | go_big_quiet_step (fail))); with_reducible refine wpQuiet_nil ?_; intro wc hbr)
          go_roundw
          case rel => exact ⟨k + 1, by omega, by go_num, take_sameL E1.out (by rw [E2.out, HE.out]) HT.out, hbc.trans (hbr.mono hbc.size)⟩
          case measure => simp [intOf]; omega
        · have HE := Lib.hid he; have HQ := Lib.hid (eqS x0 x1 y0 y1 false (decide_eq_false he))
          clear he
          go_wp2_with ((first | with_reducible refine wpList_on hbr ?_ | with_reducible refine wp_on hbr (by kernel_rfl) (by kernel_rfl) ?_); (repeat (first | (go_big_quiet_want; (first | refine quiet_neqT 36 _ _ _ rfl _ _ rfl rfl HQ.out (by kernel_rfl) ?_ | refine quiet_neqF 36 _ _ _ rfl _ _ rfl rfl HQ.out (by kernel_rfl) ?_); go_big_quiet_on) | go_big_quiet_step (fail))); with_reducible refine wpQuiet_nil ?_; intro wc hbr)
          go_ret
          exact ⟨by rw [decide_eq_false (get_sameL E1.out E2.out HE.out)]; rfl, hbc.trans (hbr.mono hbc.size)⟩
      · have HS := Lib.hid (show l = m by have h := HT.out; rw [show k = l.length by omega, List.take_length, List.take_of_length_le (by have := hL.out; omega)] at h; exact h)
        go_wp2
        go_ret
        exact ⟨by rw [decide_eq_true HS.out]; rfl, hbc⟩
  · have hne : ((l.length : Int) != (m.length : Int)) = true := by simp; omega
    have HE := Lib.hid hlen
    clear hlen
    go_enter Try.func19, Try.ntmps19
    go_wp2
    go_ret
    exact ⟨by rw [decide_eq_false (fun h => HE.out (by rw [h]))]; rfl, Below.refl _ _⟩
end Go.Proofs.Ytjnmgofkdimdaaa

namespace Go.Proofs.Ytjnmgofkdimdaaa
open Go.RowKit Go.Sort
set_option linter.unusedVariables false
set_option linter.unusedSimpArgs false

section
variable {P : Program} {o : Oper} {a : Act} {C : World → Prop} {K : Act → Prop}
theorem quiet_eqlN (T ty : TypeId) (x y : Operand) (h : o.op = .binOp .eql T x y ty) (xs ys : Array Value) (hx : a.eval x = .agg xs) (hy : a.eval y = .agg ys) (b : Bool) (hE : ∀ w, (Op.equalIn 10000 T (.agg xs) (.agg ys)).run P w = .ok b w)
    (hG : P.eqGuardType P.depth T = false) (hk : K (a.put o.dst (.bool b))) : o.quiet P a C K := by
  refine ⟨_, fun w _ => ?_, hk⟩
  unfold Oper.quietAt
  simp [execOp, h, hx, hy, run_eqGuard_agg w .eql T x y xs ys hG, run_eql_struct w T xs ys, hE, Oper.quietUpon, Result.andThen]
theorem quiet_eqlT (T ty : TypeId) (x y : Operand) (h : o.op = .binOp .eql T x y ty) (xs ys : Array Value) (hx : a.eval x = .agg xs) (hy : a.eval y = .agg ys) (hE : ∀ w, (Op.equalIn 10000 T (.agg xs) (.agg ys)).run P w = .ok true w)
    (hG : P.eqGuardType P.depth T = false) (hk : K (a.put o.dst (.bool true))) : o.quiet P a C K := quiet_eqlN T ty x y h xs ys hx hy true hE hG hk
theorem quiet_eqlF (T ty : TypeId) (x y : Operand) (h : o.op = .binOp .eql T x y ty) (xs ys : Array Value) (hx : a.eval x = .agg xs) (hy : a.eval y = .agg ys) (hE : ∀ w, (Op.equalIn 10000 T (.agg xs) (.agg ys)).run P w = .ok false w)
    (hG : P.eqGuardType P.depth T = false) (hk : K (a.put o.dst (.bool false))) : o.quiet P a C K := quiet_eqlN T ty x y h xs ys hx hy false hE hG hk
end

/-- A configuration's box, in every world that a quiet walk may meet. -/
theorem CBox.quiet {W : World} {b : Nat} {c : Cfg} {x : CfgAt} (h : CBox W b c x) : (∀ p : Regrown, (grow (redrawn W p.d) p.os).cell? ⟨b, 0, none⟩ = some (.slice x.pa c.parts.length x.pc)) ∧ (∀ p : Regrown, (grow (redrawn W p.d) p.os).cell? ⟨b, 1, none⟩ = some (.slice x.ca c.chans.length x.cc)) ∧
    (∀ p : Regrown, (grow (redrawn W p.d) p.os).cell? ⟨b, 2, none⟩ = some (.int .i64 c.len0)) ∧ (∀ p : Regrown, (grow (redrawn W p.d) p.os).cell? ⟨b, 3, none⟩ = some (.slice x.aa c.win0.length x.ac)) ∧
    (∀ p : Regrown, (grow (redrawn W p.d) p.os).cell? ⟨b, 4, none⟩ = some (.int .i64 c.len1)) ∧ (∀ p : Regrown, (grow (redrawn W p.d) p.os).cell? ⟨b, 5, none⟩ = some (.slice x.ba c.win1.length x.bc)) :=
  ⟨fun p => (h _ (below_regrown W p.d p.os)).1, fun p => (h _ (below_regrown W p.d p.os)).2.1, fun p => (h _ (below_regrown W p.d p.os)).2.2.1, fun p => (h _ (below_regrown W p.d p.os)).2.2.2.1, fun p => (h _ (below_regrown W p.d p.os)).2.2.2.2.1, fun p => (h _ (below_regrown W p.d p.os)).2.2.2.2.2⟩
end Go.Proofs.Ytjnmgofkdimdaaa
