/- Texts of the ring, joined, what is used of them. No condition but those in the statements. -/
import Derived.BigQuiet
import Derived.Lib.QuietBelow
import Derived.WalkKit
import Derived.WalkLawsBesides
import Derived.WalkSpells
namespace Go.Proofs.YtfdgokkngejbhaaGreat
open Go.RowKit Go.Sort
section
variable {P : Program} {ops : Array Oper} {C : World → Prop}
/-- A plain region's list, walked quietly. -/
theorem wpList_of_quiet {Q : Act → Prop} {Q' : Exit → Act → World → Prop} (hQ : ∀ a w, C w → Q a → Q' .normal a w) : ∀ (l : List Oper) (a : Act) (w : World), C w →
    wpQuiet P ops C Q l a → wpList P ops Q' l a w
  | [], a, w, hC, h => wpList_nil (hQ a w hC h)
  | o :: l, a, w, hC, h => by
    unfold wpQuiet at h
    unfold wpList
    split
    · rename_i hw; rw [if_pos hw] at h
      exact .inl (Oper.wp_of_quiet hC (fun a' w' hw' h' => wpList_of_quiet hQ l a' w' hw' h') h)
    · rename_i hw; rw [if_neg hw] at h
      exact wpList_of_quiet hQ l _ w hC h
end
theorem wpQuiet_mono {P : Program} {ops : Array Oper} {C : World → Prop} {Q Q' : Act → Prop} (h : ∀ a, Q a → Q' a) : ∀ (l : List Oper) (a : Act), wpQuiet P ops C Q l a → wpQuiet P ops C Q' l a
  | [], a, hh => h a hh
  | o :: l, a, hh => by
    unfold wpQuiet at hh ⊢
    split
    · rename_i hw; rw [if_pos hw] at hh; exact Oper.quiet_mono (fun a' => wpQuiet_mono h l a') hh
    · rename_i hw; rw [if_neg hw] at hh; exact wpQuiet_mono h l _ hh
/-- THE CLASS: the worlds that are as W below W's blocks. A list of operations of a plain region, from a world of the class: behind it some world of the class. -/
theorem wpList_on {P : Program} {ops : Array Oper} {Q : Exit → Act → World → Prop} {a : Act} {W w : World} {l : List Oper} (hw : Below W.heap.size W w)
    (h : wpQuiet P ops (fun w' => ∃ p : Regrown, w' = grow (redrawn W p.d) p.os) (fun a' => ∀ w', Below W.heap.size W w' → Q .normal a' w') l a) : wpList P ops Q l a w :=
  wpList_of_quiet (C := fun w' => ∃ p : Regrown, w' = grow (redrawn W p.d) p.os) (fun _ _ ⟨p, hp⟩ hq => hq _ (by rw [hp]; exact below_regrown W p.d p.os)) l a w (regrown_of_below hw) h
/-- A region that draws its order. -/
theorem wp_on {P : Program} {id : Nat} {Q : Exit → Act → World → Prop} {a : Act} {W w : World} {l : List Oper} (hw : Below W.heap.size W w) (hm : P.follows .mixedOrders = true) (hB : Region.lexB .any l.toArray = true)
    (h : wpQuiet P l.toArray (fun w' => ∃ p : Regrown, w' = grow (redrawn W p.d) p.os) (fun a' => ∀ w', Below W.heap.size W w' → Q .normal a' w') l a) : (Code.region id l.toArray true).wp P Q a w :=
  wp_region_quiet (C := fun w' => ∃ p : Regrown, w' = grow (redrawn W p.d) p.os) hm hB (regrown_of_below (hw.trans ⟨rfl, rfl, rfl, Nat.le_refl _, fun _ _ => rfl⟩))
    (wpQuiet_mono (fun _ hq w' hp => by obtain ⟨p, hp⟩ := hp; exact hq w' (by rw [hp]; exact below_regrown W p.d p.os)) l a h)
/-- A contract's Bool, where the context says which one it is. -/
theorem regrown_is {P : Program} {f : FuncId} {args : Array Value} {w : World} {d : Nat} {os : Array Obj} {v b : Bool} (h : v = b)
    (hc : Calls P f args (grow (redrawn w d) os) fun e w' => e = .returned (.bool v) ∧ Below (grow (redrawn w d) os).heap.size (grow (redrawn w d) os) w') : Calls P f args (grow (redrawn w d) os) fun e w'' => e = .returned (.bool b) ∧ ∃ p : Regrown, w'' = grow (redrawn w p.d) p.os := by
  subst h; exact Calls.regrown_of hc
/-- A struct of two cells in a box. -/
theorem one_box (w : World) (v0 v1 : Value) (t : TypeId) : ∃ W, Hid (W = w.alloc (.cells #[v0, v1] t)) ∧ Below w.heap.size w W ∧ w.heap.size < W.heap.size ∧
    (∀ p : Regrown, (grow (redrawn W p.d) p.os).cell? ⟨w.heap.size, 0, none⟩ = some v0) ∧ (∀ p : Regrown, (grow (redrawn W p.d) p.os).cell? ⟨w.heap.size, 1, none⟩ = some v1) :=
  ⟨_, rfl, ((Below.refl _ _).alloc (Nat.le_refl _) _), by simp, fun p => cell_regrown (by go_simp) _ _, fun p => cell_regrown (by go_simp) _ _⟩
theorem bool_of {a : Bool} {p : Prop} (h : a = true ↔ p) : (p → a = true) ∧ (¬ p → a = false) :=
  ⟨h.2, fun hn => by cases a <;> simp_all⟩
end Go.Proofs.YtfdgokkngejbhaaGreat
