/- Words for rows of pairs and for calls that hand back a new list. No condition. What spans are, in plain numbers: the functions that the contracts of layer 1 speak of. No condition. The functions of layer 1, and the document's own answers beside them, each as a contract: what it answers, in plain numbers; of what was there before the call nothing turns. No condition but those in the statements. The document's Apart, as a contract. No condition but those in the statements. The document's Same at spans, as a contract. No condition but those in the statements. Structs compared by ==, as a step of a quiet walk. No condition but those in the statements. All: the layout's spans, as a contract. No condition but those in the statements. The iterator of spans as a contract: what it hands to a loop's rounds. No condition but those in the statements. told: what a loop over All gathers, as far as so many. No condition but those in the statements. Size, as a contract. No condition but those in the statements. Who may change an address, in plain lists. No condition but those in the statements. The document's May, as a contract. No condition but those in the statements. -/
import Derived.Test.YtmhpcgcloojfbaaGreatDoorKit
import Derived.Lib.Hide
import Derived.OpenShut
import Derived.Test.YtmhpcgcloojfbaaGreatDoorProg
import Derived.IntWalk
import Derived.Test.YtmhpcgcloojfbaaGreatDoorKitN
import Derived.Laws.StructEq
import Derived.Test.YtmhpcgcloojfbaaGreatDoorLK
import Derived.Test.YtmhpcgcloojfbaaGreatDoorRK
import Derived.BigQuiet
import Derived.Laws.EntriesVeiled
import Derived.Test.YtmhpcgcloojfbaaGreatDoorAllF
import Derived.RangeFuncBox
import Derived.RangeFuncNested
import Derived.RangeFuncBound
import Derived.RangeFuncCalls
import Derived.RangeFuncLeaves
import Derived.Shelf.Abstract
import Derived.Shelf.RegionOpen
import Derived.OwnWalkIn
import Derived.TacticsInMore
import Derived.LoopNIn
import Derived.LoopIn
namespace Go.Proofs.YtmhpcgcloojfbaaGreatDoor
open Go.RowKit Go.Sort
set_option linter.unusedVariables false
set_option linter.unusedSimpArgs false

/-- A slice's row of pairs of integers (structs of two int fields), at or below block number B. -/
def PairRow (w : World) (B : Nat) (A : Option Addr) (l : List (Int × Int)) : Prop :=
  0 < l.length → ∃ b o, A = some ⟨b, o, none⟩ ∧ b < B ∧ ∀ i, i < l.length → w.cell? ⟨b, o + i * 2, none⟩ = some (.int .i64 (l.getD i (0, 0)).1) ∧ w.cell? ⟨b, o + i * 2 + 1, none⟩ = some (.int .i64 (l.getD i (0, 0)).2)
theorem PairRow.below {w w' : World} {B : Nat} {A : Option Addr} {l : List (Int × Int)} (h : PairRow w B A l) (hb : Below B w w') : PairRow w' B A l := fun hn => by
  obtain ⟨b, o, hA, hlt, hc⟩ := h hn
  exact ⟨b, o, hA, hlt, fun i hi => ⟨(hb.cell (p := ⟨b, o + i * 2, none⟩) hlt).trans (hc i hi).1, (hb.cell (p := ⟨b, o + i * 2 + 1, none⟩) hlt).trans (hc i hi).2⟩⟩
theorem PairRow.more {w : World} {B B' : Nat} {A : Option Addr} {l : List (Int × Int)} (h : PairRow w B A l) (hb : B ≤ B') : PairRow w B' A l := fun hn => by
  obtain ⟨b, o, hA, hlt, hc⟩ := h hn
  exact ⟨b, o, hA, by omega, hc⟩

theorem own_below {base : Nat} {e : TypeId} {size n : Nat} {v : Value} {xs : List Value} {w w' : World} (h : w.ownsRow base e size v n xs) (hb : Below w.heap.size w w') : w'.ownsRow base e size v n xs :=
  h.kept (row := none) ⟨hb.os, hb.tape, hb.output, hb.size, fun k hk _ => hb.block k hk⟩ (by cases v.ownBlock <;> simp)
theorem news_one (w : World) (v : Value) (t : TypeId) : ∀ (j : Nat) u, [v][j]? = some u → (w.alloc (.cells #[v] t)).cell? ((⟨w.heap.size, 0, none⟩ : Addr).add j) = some u := by
  intro j u hj
  match j, hj with
  | 0, hj => simp at hj; subst hj; simp [Addr.add]

/-- A call that hands back a new list of integers, and turns nothing that was there. -/
def GivesInts (T : TypeId) (w : World) (xs : List Int) (e : Ending) (w' : World) : Prop :=
  ∃ v, e = .returned v ∧ w'.ownsRow w.heap.size T 1 v xs.length (xs.map (Value.int .i64)) ∧ Below w.heap.size w w'


/-- A slice's row of integers, at a block below number B. -/
def IntRow (w : World) (B : Nat) (A : Option Addr) (xs : List Int) : Prop :=
  0 < xs.length → ∃ b o, A = some ⟨b, o, none⟩ ∧ b < B ∧ ∀ i, i < xs.length → w.cell? ⟨b, o + i, none⟩ = some (.int .i64 (xs.getD i 0))
theorem IntRow.below {w w' : World} {B : Nat} {A : Option Addr} {l : List Int} (h : IntRow w B A l) (hb : Below B w w') : IntRow w' B A l := fun hn => by
  obtain ⟨b, o, hA, hlt, hc⟩ := h hn
  exact ⟨b, o, hA, hlt, fun i hi => (hb.cell (p := ⟨b, o + i, none⟩) hlt).trans (hc i hi)⟩
theorem IntRow.more {w : World} {B B' : Nat} {A : Option Addr} {l : List Int} (h : IntRow w B A l) (hb : B ≤ B') : IntRow w B' A l := fun hn => by
  obtain ⟨b, o, hA, hlt, hc⟩ := h hn
  exact ⟨b, o, hA, by omega, hc⟩
theorem own_form {w : World} {base : Nat} {e : TypeId} {v : Value} {xs : List Int} (h : w.ownsRow base e 1 v xs.length (xs.map (Value.int .i64))) :
    ∃ A c, v = .slice A xs.length c ∧ xs.length ≤ c ∧ c ≤ maxLen ∧ IntRow w w.heap.size A xs := by
  have hcells := fun g hg => h.cells (g := g) hg
  obtain ⟨_, ⟨rfl, hn⟩ | ⟨g, cap, cur, rfl, _, hcur, hle, hmax, _, _⟩⟩ := h
  · exact ⟨none, 0, by rw [hn], by omega, by unfold maxLen; omega, fun hp => by omega⟩
  · refine ⟨_, cap, rfl, hle, hmax, fun hp => ⟨g, 0, rfl, ?_, fun i hi => ?_⟩⟩
    · exact (Array.getElem?_eq_some_iff.1 hcur).1
    · have := hcells g rfl i (.int .i64 (xs.getD i 0)) (by simp [List.getD_eq_getElem?_getD, hi])
      rw [show (⟨g, 0 + i, none⟩ : Addr) = (⟨g, 0, none⟩ : Addr).add i by unfold Addr.add; split <;> simp_all]
      exact this
theorem GivesInts.row {T : TypeId} {w w' : World} {xs : List Int} {e : Ending} (h : GivesInts T w xs e w') :
    ∃ A c, e = .returned (.slice A xs.length c) ∧ xs.length ≤ c ∧ c ≤ maxLen ∧ IntRow w' w'.heap.size A xs ∧ Below w.heap.size w w' := by
  obtain ⟨v, rfl, hown, hb⟩ := h
  obtain ⟨A, c, rfl, h1, h2, h3⟩ := own_form hown
  exact ⟨A, c, rfl, h1, h2, h3, hb⟩
end Go.Proofs.YtmhpcgcloojfbaaGreatDoor

namespace Go.Proofs.YtmhpcgcloojfbaaGreatDoor
namespace One
/-- Is a span right? -/
def rightB (f s : Int) : Bool := decide (0 ≤ f ∧ f ≤ 2147483647 ∧ 0 ≤ s ∧ s ≤ 2147483647 - f)
/-- Has it that address? -/
def hasB (f s x : Int) : Bool := rightB f s && decide (f ≤ x ∧ x < f + s)
/-- Has it any address? -/
def filledB (f s : Int) : Bool := rightB f s && decide (0 < s)
/-- Do two spans meet? -/
def meetsB (f s g t : Int) : Bool := filledB f s && filledB g t && decide (f < g + t ∧ g < f + s)
/-- Does the first one lie in the second one? -/
def inB (f s g t : Int) : Bool := !filledB f s || (rightB g t && decide (g ≤ f ∧ f + s ≤ g + t))

theorem rightB_yes {f s : Int} : rightB f s = true ↔ 0 ≤ f ∧ f ≤ 2147483647 ∧ 0 ≤ s ∧ s ≤ 2147483647 - f := by
  unfold rightB; exact decide_eq_true_iff
theorem rightB_no {f s : Int} : rightB f s = false ↔ ¬ (0 ≤ f ∧ f ≤ 2147483647 ∧ 0 ≤ s ∧ s ≤ 2147483647 - f) := by
  unfold rightB; exact decide_eq_false_iff_not
theorem filledB_yes {f s : Int} : filledB f s = true ↔ (0 ≤ f ∧ f ≤ 2147483647 ∧ 0 ≤ s ∧ s ≤ 2147483647 - f) ∧ 0 < s := by
  unfold filledB; rw [Bool.and_eq_true, rightB_yes, decide_eq_true_iff]
theorem hasB_yes {f s x : Int} : hasB f s x = true ↔ (0 ≤ f ∧ f ≤ 2147483647 ∧ 0 ≤ s ∧ s ≤ 2147483647 - f) ∧ f ≤ x ∧ x < f + s := by
  unfold hasB; rw [Bool.and_eq_true, rightB_yes, decide_eq_true_iff]
theorem meetsB_yes {f s g t : Int} : meetsB f s g t = true ↔ (filledB f s = true ∧ filledB g t = true) ∧ f < g + t ∧ g < f + s := by
  unfold meetsB; rw [Bool.and_eq_true, Bool.and_eq_true, decide_eq_true_iff]
theorem inB_yes {f s g t : Int} : inB f s g t = true ↔ (filledB f s = true → rightB g t = true ∧ g ≤ f ∧ f + s ≤ g + t) := by
  unfold inB; cases filledB f s <;> simp
theorem hasB_own {f s : Int} : hasB f s f = filledB f s := by
  rw [Bool.eq_iff_iff, hasB_yes, filledB_yes]; omega
theorem meetsB_symm (f s g t : Int) : meetsB f s g t = meetsB g t f s := by
  rw [Bool.eq_iff_iff, meetsB_yes, meetsB_yes]; constructor <;> (rintro ⟨⟨a, b⟩, c, d⟩; exact ⟨⟨b, a⟩, d, c⟩)
theorem inB_self (f s : Int) : inB f s f s = true := by
  rw [inB_yes, filledB_yes]; intro h; exact ⟨rightB_yes.2 h.1, by omega, by omega⟩
/-- The first address of one of two spans that meet is the other one's. -/
theorem meetsB_has {f s g t : Int} : meetsB f s g t = (filledB f s && (filledB g t && (hasB f s g || hasB g t f))) := by
  rw [Bool.eq_iff_iff, meetsB_yes]
  simp only [Bool.and_eq_true, Bool.or_eq_true, hasB_yes, filledB_yes]
  constructor
  · rintro ⟨⟨a, b⟩, c, d⟩
    refine ⟨a, b, ?_⟩
    by_cases h : f ≤ g
    · exact .inl ⟨a.1, h, d⟩
    · exact .inr ⟨b.1, by omega, c⟩
  · rintro ⟨a, b, c⟩
    exact ⟨⟨a, b⟩, by omega, by omega⟩
end One
end Go.Proofs.YtmhpcgcloojfbaaGreatDoor

namespace Go.Proofs.YtmhpcgcloojfbaaGreatDoor
namespace One
open Go.RowKit Go.Sort
set_option linter.unusedVariables false
set_option linter.unusedSimpArgs false

theorem right_b (f s : Int) (w : World) :
    Calls Tryz.prog 143 #[.agg #[.int .i64 f, .int .i64 s]] w fun e w' => e = .returned (.bool (rightB f s)) ∧ Below w.heap.size w w' := by
  by_cases h1 : 0 ≤ f
  · by_cases h2 : f ≤ 2147483647
    · by_cases h3 : 0 ≤ s
      · by_cases h4 : s ≤ 2147483647 - f
        · rw [rightB_yes.2 ⟨h1, h2, h3, by omega⟩]
          go_enter Tryz.func143, Tryz.ntmps143
          go_wp2
          go_ret
          exact ⟨rfl, (Below.refl _ _).alloc (Nat.le_refl _) _⟩
        · rw [rightB_no.2 (by omega)]
          go_enter Tryz.func143, Tryz.ntmps143
          go_wp2
          go_ret
          exact ⟨rfl, (Below.refl _ _).alloc (Nat.le_refl _) _⟩
      · rw [rightB_no.2 (by omega)]
        go_enter Tryz.func143, Tryz.ntmps143
        go_wp2
        go_ret
        exact ⟨rfl, (Below.refl _ _).alloc (Nat.le_refl _) _⟩
    · rw [rightB_no.2 (by omega)]
      go_enter Tryz.func143, Tryz.ntmps143
      go_wp2
      go_ret
      exact ⟨rfl, (Below.refl _ _).alloc (Nat.le_refl _) _⟩
  · rw [rightB_no.2 (by omega)]
    go_enter Tryz.func143, Tryz.ntmps143
    go_wp2
    go_ret
    exact ⟨rfl, (Below.refl _ _).alloc (Nat.le_refl _) _⟩

theorem end_b (f s : Int) (w : World) (h : rightB f s = true) :
    Calls Tryz.prog 144 #[.agg #[.int .i64 f, .int .i64 s]] w fun e w' => e = .returned (.int .i64 (f + s)) ∧ Below w.heap.size w w' := by
  obtain ⟨h1, h2, h3, h4⟩ := rightB_yes.1 h
  clear h
  go_enter Tryz.func144, Tryz.ntmps144
  go_wp2
  go_ret
  exact ⟨rfl, (Below.refl _ _).alloc (Nat.le_refl _) _⟩

theorem has_b (f s x : Int) (w : World) :
    Calls Tryz.prog 127 #[.agg #[.int .i64 f, .int .i64 s], .int .i64 x] w fun e w' => e = .returned (.bool (hasB f s x)) ∧ Below w.heap.size w w' := by
  obtain ⟨W, HW, hbw, hsz, k0, k1⟩ := one_box w (.int .i64 f) (.int .i64 s) 176
  by_cases hr : rightB f s = true
  · by_cases h0 : f ≤ x
    · rw [show hasB f s x = decide (x < f + s) by unfold hasB; simp [hr, h0]]
      go_enter Tryz.func127, Tryz.ntmps127
      have hbc := Below.refl W.heap.size W
      go_wp2_with ((try rw [← HW.out]); (first | with_reducible refine wpList_on hbc ?_ | with_reducible refine wp_on hbc (by kernel_rfl) (by kernel_rfl) ?_); (repeat (go_big_quiet_step (first | exact regrown_is (by assumption) (right_b _ _ _) | exact Calls.regrown_of (right_b _ _ _) | exact Calls.regrown_of (end_b _ _ _ (by assumption))))); with_reducible refine wpQuiet_nil ?_; intro wc hbc)
      go_ret
      exact ⟨by simp [*], hbw.trans (hbc.mono (by omega))⟩
    · rw [(bool_of hasB_yes).2 (by omega)]
      have h0' : decide (f ≤ x) = false := by simpa using h0
      go_enter Tryz.func127, Tryz.ntmps127
      have hbc := Below.refl W.heap.size W
      go_wp2_with ((try rw [← HW.out]); (first | with_reducible refine wpList_on hbc ?_ | with_reducible refine wp_on hbc (by kernel_rfl) (by kernel_rfl) ?_); (repeat (go_big_quiet_step (first | exact regrown_is (by assumption) (right_b _ _ _) | exact Calls.regrown_of (right_b _ _ _) | exact Calls.regrown_of (end_b _ _ _ (by assumption))))); with_reducible refine wpQuiet_nil ?_; intro wc hbc)
      go_ret
      exact ⟨by simp [*], hbw.trans (hbc.mono (by omega))⟩
  · have hr' : rightB f s = false := by simpa using hr
    rw [show hasB f s x = false by unfold hasB; simp [hr']]
    go_enter Tryz.func127, Tryz.ntmps127
    have hbc := Below.refl W.heap.size W
    go_wp2_with ((try rw [← HW.out]); (first | with_reducible refine wpList_on hbc ?_ | with_reducible refine wp_on hbc (by kernel_rfl) (by kernel_rfl) ?_); (repeat (go_big_quiet_step (first | exact regrown_is (by assumption) (right_b _ _ _) | exact Calls.regrown_of (right_b _ _ _) | exact Calls.regrown_of (end_b _ _ _ (by assumption))))); with_reducible refine wpQuiet_nil ?_; intro wc hbc)
    go_ret
    exact ⟨by simp [*], hbw.trans (hbc.mono (by omega))⟩

theorem inB_no {f s g t : Int} (h : filledB f s = true) (h1 : ¬ (rightB g t = true ∧ g ≤ f ∧ f + s ≤ g + t)) : inB f s g t = false :=
  (bool_of inB_yes).2 (fun k => h1 (k h))

end One
end Go.Proofs.YtmhpcgcloojfbaaGreatDoor

namespace Go.Proofs.YtmhpcgcloojfbaaGreatDoor
open Go.RowKit Go.Sort
set_option linter.unusedVariables false
set_option linter.unusedSimpArgs false
theorem PairRow.at_ {w : World} {B : Nat} {A : Option Addr} {l : List (Int × Int)} (h : PairRow w B A l) {k : Nat} (hk : k < l.length) :
    ∃ b o, A = some ⟨b, o, none⟩ ∧ (∀ p : Regrown, (grow (redrawn w p.d) p.os).cell? ⟨b, o + k * 2, none⟩ = some (.int .i64 (l.getD k (0, 0)).1)) ∧ (∀ p : Regrown, (grow (redrawn w p.d) p.os).cell? ⟨b, o + k * 2 + 1, none⟩ = some (.int .i64 (l.getD k (0, 0)).2)) := by
  obtain ⟨b, o, rfl, hb, hc⟩ := h (by omega)
  exact ⟨b, o, rfl, fun p => cell_regrown (hc k hk).1 p.d p.os, fun p => cell_regrown (hc k hk).2 p.d p.os⟩
namespace One
set_option linter.unusedVariables false
set_option linter.unusedSimpArgs false
def apartB (l : List (Int × Int)) : Bool := decide (∀ i, i < l.length → ∀ k, k < l.length → i ≠ k → meetsB (l.getD i (0, 0)).1 (l.getD i (0, 0)).2 (l.getD k (0, 0)).1 (l.getD k (0, 0)).2 = false)

end One
end Go.Proofs.YtmhpcgcloojfbaaGreatDoor

namespace Go.Proofs.YtmhpcgcloojfbaaGreatDoor
open Go.RowKit Go.Sort
set_option linter.unusedVariables false
set_option linter.unusedSimpArgs false

section
variable {P : Program} {o : Oper} {a : Act} {C : World → Prop} {K : Act → Prop}
theorem quiet_neqN (T ty : TypeId) (x y : Operand) (h : o.op = .binOp .neq T x y ty) (xs ys : Array Value) (hx : a.eval x = .agg xs) (hy : a.eval y = .agg ys) (b : Bool) (hE : ∀ w, (Op.equalIn 10000 T (.agg xs) (.agg ys)).run P w = .ok b w)
    (hG : P.eqGuardType P.depth T = false) (hk : K (a.put o.dst (.bool (!b)))) : o.quiet P a C K := by
  refine ⟨_, fun w _ => ?_, hk⟩
  unfold Oper.quietAt
  simp [execOp, h, hx, hy, run_eqGuard_agg w .neq T x y xs ys hG, run_neq_struct w T xs ys, hE, Oper.quietUpon, Result.andThen]
theorem quiet_neqT (T ty : TypeId) (x y : Operand) (h : o.op = .binOp .neq T x y ty) (xs ys : Array Value) (hx : a.eval x = .agg xs) (hy : a.eval y = .agg ys) (hE : ∀ w, (Op.equalIn 10000 T (.agg xs) (.agg ys)).run P w = .ok false w)
    (hG : P.eqGuardType P.depth T = false) (hk : K (a.put o.dst (.bool true))) : o.quiet P a C K := quiet_neqN T ty x y h xs ys hx hy false hE hG hk
theorem quiet_neqF (T ty : TypeId) (x y : Operand) (h : o.op = .binOp .neq T x y ty) (xs ys : Array Value) (hx : a.eval x = .agg xs) (hy : a.eval y = .agg ys) (hE : ∀ w, (Op.equalIn 10000 T (.agg xs) (.agg ys)).run P w = .ok true w)
    (hG : P.eqGuardType P.depth T = false) (hk : K (a.put o.dst (.bool false))) : o.quiet P a C K := quiet_neqN T ty x y h xs ys hx hy true hE hG hk
end
theorem eqS_d (d : Nat) (x0 x1 y0 y1 : Int) (w : World) : (Op.equalIn (d + 1 + 1) 176 (.agg #[.int .i64 x0, .int .i64 x1]) (.agg #[.int .i64 y0, .int .i64 y1])).run Tryz.prog w = .ok ((x0 == y0) && (x1 == y1)) w := by
  have hf : Tryz.prog.underlying 176 = some (.struct (Tryz.prog.fieldsOf 176)) := by kernel_rfl
  have hi : Tryz.prog.underlying 3 = some (.int .i64) := Tryz.underlying3
  rw [run_equalIn_agg w (d + 1) _ _ _ hf (by kernel_rfl)]
  clear hf
  have hu := Tryz.underlying176
  simp only [Program.fieldsOf, hu]
  simp [Op.eqFields, go_sem, hi]
  repeat' split
  all_goals simp_all
theorem eqS (x0 x1 y0 y1 : Int) (b : Bool) (h : decide ([x0, x1] = [y0, y1]) = b) : ∀ w : World, (Op.equalIn 10000 176 (.agg #[.int .i64 x0, .int .i64 x1]) (.agg #[.int .i64 y0, .int .i64 y1])).run Tryz.prog w = .ok b w := by
  intro w
  rw [show (10000 : Nat) = 9998 + 1 + 1 from rfl, eqS_d, ← h]
  congr 1
  rw [Bool.eq_iff_iff]
  simp
theorem take_sameL {α : Type} {l m : List α} {k : Nat} {x : α} (hl : l[k]? = some x) (hm : m[k]? = some x) (h : l.take k = m.take k) : l.take (k + 1) = m.take (k + 1) := by rw [List.take_add_one, List.take_add_one, h, hl, hm]
theorem get_sameL {α : Type} {l m : List α} {k : Nat} {x y : α} (hl : l[k]? = some x) (hm : m[k]? = some y) (h : x ≠ y) : l ≠ m := fun e => by rw [e, hm] at hl; cases hl; exact h rfl

end Go.Proofs.YtmhpcgcloojfbaaGreatDoor

namespace Go.Proofs.YtmhpcgcloojfbaaGreatDoor
open Go.RowKit Go.Sort
set_option linter.unusedVariables false
set_option linter.unusedSimpArgs false

section
variable {P : Program} {o : Oper} {a : Act} {C : World → Prop} {K : Act → Prop}
theorem quiet_eqlN (T ty : TypeId) (x y : Operand) (h : o.op = .binOp .eql T x y ty) (xs ys : Array Value) (hx : a.eval x = .agg xs) (hy : a.eval y = .agg ys) (b : Bool) (hE : ∀ w, (Op.equalIn 10000 T (.agg xs) (.agg ys)).run P w = .ok b w)
    (hG : P.eqGuardType P.depth T = false) (hk : K (a.put o.dst (.bool b))) : o.quiet P a C K := by
  refine ⟨_, fun w _ => ?_, hk⟩
  unfold Oper.quietAt
  simp [execOp, h, hx, hy, run_eqGuard_agg w .eql T x y xs ys hG, run_eql_struct w T xs ys, hE, Oper.quietUpon, Result.andThen]
theorem quiet_eqlT (T ty : TypeId) (x y : Operand) (h : o.op = .binOp .eql T x y ty) (xs ys : Array Value) (hx : a.eval x = .agg xs) (hy : a.eval y = .agg ys) (hE : ∀ w, (Op.equalIn 10000 T (.agg xs) (.agg ys)).run P w = .ok true w)
    (hG : P.eqGuardType P.depth T = false) (hk : K (a.put o.dst (.bool true))) : o.quiet P a C K := quiet_eqlN T ty x y h xs ys hx hy true hE hG hk
theorem quiet_eqlF (T ty : TypeId) (x y : Operand) (h : o.op = .binOp .eql T x y ty) (xs ys : Array Value) (hx : a.eval x = .agg xs) (hy : a.eval y = .agg ys) (hE : ∀ w, (Op.equalIn 10000 T (.agg xs) (.agg ys)).run P w = .ok false w)
    (hG : P.eqGuardType P.depth T = false) (hk : K (a.put o.dst (.bool false))) : o.quiet P a C K := quiet_eqlN T ty x y h xs ys hx hy false hE hG hk
end

/-- A configuration's box, in every world that a quiet walk may meet. -/
theorem CBox.quiet {W : World} {b : Nat} {c : Cfg} {x : CfgAt} (h : CBox W b c x) : (∀ p : Regrown, (grow (redrawn W p.d) p.os).cell? ⟨b, 0, none⟩ = some (.slice x.pa c.parts.length x.pc)) ∧ (∀ p : Regrown, (grow (redrawn W p.d) p.os).cell? ⟨b, 1, none⟩ = some (.slice x.ca c.chans.length x.cc)) ∧
    (∀ p : Regrown, (grow (redrawn W p.d) p.os).cell? ⟨b, 2, none⟩ = some (.int .i64 c.len0)) ∧ (∀ p : Regrown, (grow (redrawn W p.d) p.os).cell? ⟨b, 3, none⟩ = some (.slice x.aa c.win0.length x.ac)) ∧
    (∀ p : Regrown, (grow (redrawn W p.d) p.os).cell? ⟨b, 4, none⟩ = some (.int .i64 c.len1)) ∧ (∀ p : Regrown, (grow (redrawn W p.d) p.os).cell? ⟨b, 5, none⟩ = some (.slice x.ba c.win1.length x.bc)) :=
  ⟨fun p => (h _ (below_regrown W p.d p.os)).1, fun p => (h _ (below_regrown W p.d p.os)).2.1, fun p => (h _ (below_regrown W p.d p.os)).2.2.1, fun p => (h _ (below_regrown W p.d p.os)).2.2.2.1, fun p => (h _ (below_regrown W p.d p.os)).2.2.2.2.1, fun p => (h _ (below_regrown W p.d p.os)).2.2.2.2.2⟩
end Go.Proofs.YtmhpcgcloojfbaaGreatDoor

namespace Go.Proofs.YtmhpcgcloojfbaaGreatDoor
open Go.RowKit Go.Sort Go.ChangeShapes Go.WideShapes
set_option linter.unusedVariables false
set_option linter.unusedSimpArgs false

/-- A span's two numbers, and back. -/
def pr (x : List Int) : Int × Int := (fld x 0, fld x 1)
def two (x : Int × Int) : List Int := [x.1, x.2]
/-- The first n pairs of two rows, in turn. -/
def interN (ls ld : List (List Int)) : Nat → List (Int × Int)
  | 0 => []
  | n + 1 => interN ls ld n ++ [pr (row ls n), pr (row ld n)]
theorem interN_len (ls ld : List (List Int)) : ∀ n, (interN ls ld n).length = 2 * n
  | 0 => rfl
  | n + 1 => by
    show (interN ls ld n ++ _).length = _
    rw [List.length_append, interN_len ls ld n]
    simp; omega
theorem interN_pre (ls ld : List (List Int)) {k : Nat} : ∀ {n}, k ≤ n → interN ls ld k <+: interN ls ld n
  | 0, h => by rw [show k = 0 by omega]; exact List.prefix_refl _
  | n + 1, h => by
    by_cases e : k = n + 1
    · subst e; exact List.prefix_refl _
    · exact (interN_pre ls ld (show k ≤ n by omega)).trans (List.prefix_append _ _)
/-- All spans of a configuration, one by one. -/
def allS (c : Cfg) : List (Int × Int) := (PV c).map pr ++ interN (SR c) (DS c) (SR c).length
/-- The closure that All hands back: its box holds the three rows. -/
structure SpansAt (w : World) (tb : Nat) (A1 A2 A3 : Option Addr) (k1 k2 k3 : Nat) (lp ls ld : List (List Int)) : Prop where
  box : w.heap[tb]? = some (.cells #[.slice A1 lp.length k1, .slice A2 ls.length k2, .slice A3 ld.length k3] 203 (0, 0))
  r1 : RowN [.i64, .i64] w w.heap.size A1 lp
  r2 : RowN [.i64, .i64] w w.heap.size A2 ls
  r3 : RowN [.i64, .i64] w w.heap.size A3 ld
/-- The block of a row, or another one. -/
def blkOf (A : Option Addr) (tb : Nat) : Nat := match A with | some a => a.block | none => tb
theorem RowN.keptBlk {ks : List IntKind} {w w' : World} {B : Nat} {A : Option Addr} {l : List (List Int)} {tb : Nat} (h : RowN ks w B A l) (hk : w'.heap[blkOf A tb]? = w.heap[blkOf A tb]?) : RowN ks w' B A l := fun hp => by
  obtain ⟨b, o, rfl, hb, hc⟩ := h hp
  refine ⟨b, o, rfl, hb, fun i x hx j v hv => ?_⟩
  rw [← hc i x hx j v hv]
  exact (show w'.cell? ⟨b, o + i * ks.length + j, none⟩ = w.cell? ⟨b, o + i * ks.length + j, none⟩ by simp [World.cell?, show w'.heap[b]? = w.heap[b]? from hk])
theorem blkOf_lt {ks : List IntKind} {w : World} {A : Option Addr} {l : List (List Int)} {tb : Nat} (h : RowN ks w w.heap.size A l) (hn : A = none ∨ 0 < l.length) (ht : tb < w.heap.size) : blkOf A tb < w.heap.size := by
  rcases hn with rfl | hn
  · exact ht
  · obtain ⟨b, o, rfl, hb, _⟩ := h hn
    exact hb
theorem own_lt {w : World} {base : Nat} {e : TypeId} {size n k : Nat} {A : Option Addr} {xs : List Value} (h : OwnsOff w base e size (.slice A n k) n xs) : ∀ a, A = some a → base ≤ a.block ∧ a.block < w.heap.size := fun a ha => by
  subst ha; exact h.lt a.block rfl
end Go.Proofs.YtmhpcgcloojfbaaGreatDoor

namespace Go.Proofs.YtmhpcgcloojfbaaGreatDoor
open Go.RowKit Go.Sort Go.Shelf
set_option linter.unusedVariables false
set_option linter.unusedSimpArgs false
set_option linter.unusedVariables false
attribute [local go_sem] Oper.semAt_some

theorem grown_below {W W' : World} (hb : Below W.heap.size W W') : W.grownBy W' none := ⟨hb.os, hb.tape, hb.output, hb.size, fun k hk _ => hb.block k hk⟩
theorem abides_below {β : Type} {B : Nat} {J : β → World → Prop} (hJ : AbidesFrom B J) {s : β} {W W' : World} (h : J s W) (hb : Below W.heap.size W W') : J s W' :=
  hJ s W W' none h (grown_below hb) (fun r e => by cases e)
theorem keepsB_below {bs : List Nat} {W W' : World} (hb : Below W.heap.size W W') (h : ∀ k ∈ bs, k < W.heap.size) : KeepsB bs W W' := ⟨hb.size, fun k hk => hb.block k (h k hk)⟩
theorem span_at {w : World} {B : Nat} {A : Option Addr} {l : List (List Int)} (h : RowN [.i64, .i64] w B A l) (hw : wfR [.i64, .i64] l) {i : Nat} (hi : i < l.length) :
    ∃ (b o : Nat) (x0 x1 : Int), A = some ⟨b, o, none⟩ ∧ pr (row l i) = (x0, x1) ∧ w.cell? ⟨b, o + i * 2, none⟩ = some (.int .i64 x0) ∧ w.cell? ⟨b, o + i * 2 + 1, none⟩ = some (.int .i64 x1) := by
  obtain ⟨b, o, x0, x1, hA, _, e1, _, k0⟩ := h.at2 hw hi
  obtain ⟨q0, q1⟩ := k0 w (Below.refl _ _)
  exact ⟨b, o, x0, x1, hA, by rw [row_at e1]; rfl, q0, q1⟩
theorem map_take {l : List (List Int)} {i : Nat} (hi : i < l.length) : (l.map pr).take i ++ [pr (row l i)] = (l.map pr).take (i + 1) := by
  have h1 : (l.map pr)[i]? = some (pr (row l i)) := by
    rw [List.getElem?_map, List.getElem?_eq_getElem hi, row_at (List.getElem?_eq_getElem hi)]
    rfl
  rw [List.take_add_one, h1]
  rfl
end Go.Proofs.YtmhpcgcloojfbaaGreatDoor

namespace Go.Proofs.YtmhpcgcloojfbaaGreatDoor
open Go.RowKit Go.Sort Go.Shelf
set_option linter.unusedVariables false
set_option linter.unusedSimpArgs false
set_option linter.unusedVariables false
attribute [local go_sem] Oper.semAt_some

theorem offOwn_put {W : World} {base : Nat} {e : TypeId} {size k : Nat} {v : Value} {xs : List Value} (h : OwnsOff W base e size v k xs) {l : Nat} {o : Obj} (o' : Obj) (hl : W.heap[l]? = some o) (ho : o.isCells = false) : OwnsOff (W.putObj l o') base e size v k xs :=
  h.kept (Only.of_grown (grownBy_putObj' W l o')) (fun g hg e' => by
    obtain ⟨cs, hc⟩ := h.typed g hg
    cases e'
    rw [hc] at hl; cases hl; cases ho)
/-- The cells of spans. -/
def scells (xs : List (Int × Int)) : List Value := rcells [.i64, .i64] (xs.map two)
theorem scells_app (xs : List (Int × Int)) (x : Int × Int) : scells (xs ++ [x]) = scells xs ++ [.int .i64 x.1, .int .i64 x.2] := by
  unfold scells
  rw [List.map_append, rcells_app]
  rfl
/-- A call that hands back a new list of spans, and turns nothing that was there. -/
def GivesSpans (w : World) (xs : List (Int × Int)) (e : Ending) (w' : World) : Prop := ∃ v, e = .returned v ∧ OwnsOff w' w.heap.size 176 2 v xs.length (scells xs) ∧ Below w.heap.size w w'
/-- Between two rounds: what has been gathered, in the box of 'out'; its row lies in a block from n1 on. -/
def TI8 (w : World) (n1 m : Nat) (pre : List (Int × Int)) (W : World) : Prop :=
  pre.length ≤ m ∧ Boxed W (w.heap.size + 1) 3 (.int .i64 m) ∧ (∃ v, Boxed W (w.heap.size + 2) 201 v ∧ OwnsOff W (w.heap.size + 2) 176 2 v pre.length (scells pre) ∧ ∀ g, v.ownBlock = some g → n1 ≤ g) ∧ n1 ≤ W.heap.size ∧ Below w.heap.size w W
/-- A round has left by the break. -/
def TX8 (w : World) (n1 m : Nat) (c : Code) (xs : List (Int × Int)) (W : World) : Prop :=
  c = .exit 0 ∧ ∃ pre x, xs = pre ++ [x] ∧ pre.length = m ∧ TI8 w n1 m pre W
theorem TI8.turn {w : World} {n₀ n1 m : Nat} (hn : w.heap.size ≤ n₀) : OwnFrom n₀ (TI8 w n1 m) := by
  rintro s W W' row ⟨h1, h2, ⟨v, h3, h4, h6⟩, h7, h5⟩ hg hr
  have keep : ∀ (k : Nat) (o : Obj), W.heap[k]? = some o → o.isCells = true → W'.heap[k]? = some o := fun k o hk ho =>
    (hg.block k (Array.getElem?_eq_some_iff.1 hk).1 (fun e => by obtain ⟨_, o', ho', hc⟩ := hr k e.symm; rw [hk] at ho'; cases ho'; rw [ho] at hc; cases hc)).trans hk
  refine ⟨h1, keep _ _ h2 rfl, ⟨v, keep _ _ h3 rfl, h4.kept (Only.of_grown hg) (fun g hg' e => ?_), h6⟩, Nat.le_trans h7 hg.size, h5.grown hg h5.size (fun k e => by have := (hr k e).1; omega)⟩
  obtain ⟨cs, hc⟩ := h4.typed g hg'
  obtain ⟨_, o', ho', hcc⟩ := hr g e.symm
  rw [hc] at ho'; cases ho'; cases hcc
theorem TX8.turn {w : World} {n₀ n1 m : Nat} (hn : w.heap.size ≤ n₀) (c : Code) : OwnFrom n₀ (TX8 w n1 m c) := by
  rintro s W W' row ⟨h1, pre, x, h2, h3, h4⟩ hg hr
  exact ⟨h1, pre, x, h2, h3, TI8.turn hn _ _ _ _ h4 hg hr⟩
theorem SR_DS (c : Cfg) : (SR c).length = (DS c).length := by
  unfold SR DS
  split
  · rw [srL_len, dsL_len]
  · rfl
theorem allS_len (c : Cfg) : (allS c).length ≤ 22 := by
  unfold allS
  rw [List.length_append, List.length_map, interN_len]
  cases hq : acceptsB c with
  | false => rw [show PV c = [] from if_neg (by rw [hq]; decide), show SR c = [] from if_neg (by rw [hq]; decide)]; simp
  | true =>
    have ha := accd_of hq
    have h1 := ha.parts
    have h2 := ha.chans
    rw [show PV c = pvL c c.parts.length from if_pos hq, show SR c = srL c c.chans.length from if_pos hq, pvL_len, srL_len]
    omega

end Go.Proofs.YtmhpcgcloojfbaaGreatDoor

namespace Go.Proofs.YtmhpcgcloojfbaaGreatDoor
open Go.RowKit Go.Sort Go.Shelf
set_option linter.unusedVariables false
set_option linter.unusedSimpArgs false
set_option linter.unusedVariables false
attribute [local go_sem] Oper.semAt_some

/-- The sizes of spans, summed as the machine sums. -/
def foldW (xs : List (Int × Int)) : Int := xs.foldl (fun a x => IntKind.i64.wrap (a + x.2)) 0
theorem foldW_app (xs : List (Int × Int)) (x : Int × Int) : foldW (xs ++ [x]) = IntKind.i64.wrap (foldW xs + x.2) := by simp [foldW, List.foldl_append]
theorem foldW_pv {c : Cfg} (h : Accd c) : ∀ n, n ≤ c.parts.length → foldW ((pvL c n).map pr) = privUp c.parts n
  | 0, _ => rfl
  | n + 1, hn => by
    have h1 := privUp_in h (n + 1) hn
    have h3 := h.parts
    rw [pvL_succ, List.map_append]
    show foldW ((pvL c n).map pr ++ [pr [privUp c.parts n, fld (row c.parts n) 1]]) = _
    rw [foldW_app, foldW_pv h n (by omega)]
    show IntKind.i64.wrap (privUp c.parts n + fld (row c.parts n) 1) = privUp c.parts n + fld (row c.parts n) 1
    have h2 : privUp c.parts (n + 1) = privUp c.parts n + fld (row c.parts n) 1 := rfl
    rw [h2] at h1
    exact IntWalk.i64_in _ (by omega)
theorem foldW_ch {c : Cfg} (h : Accd c) : ∀ k, k ≤ c.chans.length → foldW ((pvL c c.parts.length).map pr ++ interN (srL c c.chans.length) (dsL c c.chans.length) k) = beforeN c k
  | 0, _ => by
    show foldW ((pvL c c.parts.length).map pr ++ []) = _
    rw [List.append_nil, foldW_pv h _ (Nat.le_refl _), beforeN_zero]
  | k + 1, hk => by
    have h1 := beforeN_in h (k := k + 1) hk
    have h0 := beforeN_in h (k := k) (by omega)
    have hs := srcN_of h (i := k) (by omega)
    rw [beforeN_succ] at h1 ⊢
    show foldW ((pvL c c.parts.length).map pr ++ (interN (srL c c.chans.length) (dsL c c.chans.length) k ++ [pr (row (srL c c.chans.length) k), pr (row (dsL c c.chans.length) k)])) = _
    rw [row_at (srL_at c (by omega)), row_at (dsL_at c (by omega))]
    rw [show ∀ (a b : List (Int × Int)) (y z : Int × Int), a ++ (b ++ [y, z]) = ((a ++ b) ++ [y]) ++ [z] from fun a b y z => by simp]
    rw [foldW_app, foldW_app, foldW_ch h k (by omega)]
    show IntKind.i64.wrap (IntKind.i64.wrap (beforeN c k + srcN (row c.chans k)) + 1) = beforeN c k + srcN (row c.chans k) + 1
    rw [IntWalk.i64_in (beforeN c k + srcN (row c.chans k)) (by omega), IntWalk.i64_in (beforeN c k + srcN (row c.chans k) + 1) (by omega)]
theorem foldW_all (c : Cfg) : foldW (allS c) = sizeN c := by
  unfold allS sizeN
  cases hq : acceptsB c with
  | false =>
    rw [show PV c = [] from if_neg (by rw [hq]; decide), show SR c = [] from if_neg (by rw [hq]; decide), if_neg (by decide)]
    rfl
  | true =>
    rw [show PV c = pvL c c.parts.length from if_pos hq, show SR c = srL c c.chans.length from if_pos hq, show DS c = dsL c c.chans.length from if_pos hq, if_pos rfl, srL_len]
    exact foldW_ch (accd_of hq) _ (Nat.le_refl _)
/-- Between two rounds: the sum so far, in its box. -/
def TS8 (w : World) (n1 : Nat) (pre : List (Int × Int)) (W : World) : Prop := Boxed W (w.heap.size + 1) 3 (.int .i64 (foldW pre)) ∧ n1 ≤ W.heap.size ∧ Below w.heap.size w W
theorem TS8.turn {w : World} {n₀ n1 : Nat} (hn : w.heap.size ≤ n₀) : OwnFrom n₀ (TS8 w n1) := by
  rintro s W W' row ⟨h2, h7, h5⟩ hg hr
  exact ⟨(hg.block _ (Array.getElem?_eq_some_iff.1 h2).1 (fun e => by obtain ⟨_, o', ho', hc⟩ := hr _ e.symm; rw [show W.heap[w.heap.size + 1]? = _ from h2] at ho'; cases ho'; cases hc)).trans h2, Nat.le_trans h7 hg.size, h5.grown hg h5.size (fun k e => by have := (hr k e).1; omega)⟩
end Go.Proofs.YtmhpcgcloojfbaaGreatDoor

namespace Go.Proofs.YtmhpcgcloojfbaaGreatDoor
open Go.RowKit Go.Sort Go.ChangeShapes Go.WideShapes
set_option linter.unusedVariables false
set_option linter.unusedSimpArgs false

/-- Has a span, told by two numbers, the address? -/
def hasS (x : Int × Int) (a : Int) : Bool := One.hasB x.1 x.2 a
/-- By channel k: may p change the address? -/
def chMay (c : Cfg) (p a : Int) (k : Nat) : Bool := (decide (fld (row c.chans k) 1 = p) && hasS (srcSpan c (k : Int)) a) || (decide (fld (row c.chans k) 2 = p) && hasS (dstSpan c (k : Int)) a)
def mayB (c : Cfg) (p a : Int) : Bool := hasS (privSpan c p) a || scan c.chans.length (chMay c p a)
theorem hasS_zero (a : Int) : hasS (0, 0) a = false := by
  unfold hasS One.hasB One.rightB
  simp
theorem may_not {c : Cfg} (hq : acceptsB c = false) (p a : Int) : mayB c p a = false := by
  unfold mayB
  rw [show privSpan c p = (0, 0) from if_neg (fun h => by rw [hq] at h; cases h.1), hasS_zero, Bool.false_or]
  refine scan_false.2 fun k _ => ?_
  unfold chMay
  rw [show srcSpan c (k : Int) = (0, 0) from if_neg (by unfold chanB; rw [hq]; simp), show dstSpan c (k : Int) = (0, 0) from if_neg (by unfold chanB; rw [hq]; simp), hasS_zero]
  simp
/-- The program's: its loop goes through the spans that there are. -/
theorem may_sr (c : Cfg) (p a : Int) : (hasS (privSpan c p) a || scan (SR c).length (chMay c p a)) = mayB c p a := by
  cases hq : acceptsB c with
  | false =>
    rw [may_not hq, show SR c = [] from if_neg (by rw [hq]; decide), show privSpan c p = (0, 0) from if_neg (fun h => by rw [hq] at h; cases h.1), hasS_zero]
    rfl
  | true => rw [show SR c = srL c c.chans.length from if_pos hq, srL_len]; rfl
theorem scan_true {n : Nat} {f : Nat → Bool} {k : Nat} (hk : k < n) (h : f k = true) : scan n f = true := by
  unfold scan
  exact List.any_eq_true.2 ⟨k, List.mem_range.2 hk, h⟩
theorem scan_no {n : Nat} {f : Nat → Bool} (h : ∀ k, k < n → f k = false) : scan n f = false := scan_false.2 h
end Go.Proofs.YtmhpcgcloojfbaaGreatDoor

namespace Go.Proofs.YtmhpcgcloojfbaaGreatDoor
open Go.RowKit Go.Sort Go.ChangeShapes Go.WideShapes
set_option linter.unusedVariables false
set_option linter.unusedSimpArgs false

end Go.Proofs.YtmhpcgcloojfbaaGreatDoor
