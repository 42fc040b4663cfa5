/- Laws for walks over any program: a plain region whose operations only read and whose calls end in 'Below' is walked once, behind it the world is one of the class; structs in boxes. No condition. -/
import Derived.WalkKit
import Derived.WalkSpells
import Derived.WalkLawsBesides
import Derived.Lib.QuietBelow
import Derived.BigQuiet
namespace Go.Proofs.Ytmonneeikkgllaa
open Go.RowKit Go.Sort

theorem bcell {W w1 : World} (hb : Below W.heap.size W w1) : (∀ b o, b < W.heap.size → w1.cell? ⟨b, o, none⟩ = W.cell? ⟨b, o, none⟩) ∧ (∀ b o, b < W.heap.size → w1.frozen? ⟨b, o, none⟩ = W.frozen? ⟨b, o, none⟩) :=
  ⟨fun b o h => hb.cell (p := ⟨b, o, none⟩) h, fun b o h => hb.frozen (p := ⟨b, o, none⟩) h⟩

section
variable {P : Program} {ops : Array Oper} {C : World → Prop}
/-- A plain region's list, walked quietly. -/
theorem wpList_of_quiet {Q : Act → Prop} {Q' : Exit → Act → World → Prop} (hQ : ∀ a w, C w → Q a → Q' .normal a w) : ∀ (l : List Oper) (a : Act) (w : World), C w →
    wpQuiet P ops C Q l a → wpList P ops Q' l a w
  | [], a, w, hC, h => wpList_nil (hQ a w hC h)
  | o :: l, a, w, hC, h => by
    unfold wpQuiet at h
    unfold wpList
    split
    · rename_i hw; rw [if_pos hw] at h
      exact .inl (Oper.wp_of_quiet hC (fun a' w' hw' h' => wpList_of_quiet hQ l a' w' hw' h') h)
    · rename_i hw; rw [if_neg hw] at h
      exact wpList_of_quiet hQ l _ w hC h
end

theorem wpQuiet_mono {P : Program} {ops : Array Oper} {C : World → Prop} {Q Q' : Act → Prop} (h : ∀ a, Q a → Q' a) : ∀ (l : List Oper) (a : Act), wpQuiet P ops C Q l a → wpQuiet P ops C Q' l a
  | [], a, hh => h a hh
  | o :: l, a, hh => by
    unfold wpQuiet at hh ⊢
    split
    · rename_i hw; rw [if_pos hw] at hh; exact Oper.quiet_mono (fun a' => wpQuiet_mono h l a') hh
    · rename_i hw; rw [if_neg hw] at hh; exact wpQuiet_mono h l _ hh

theorem regrown_refl (w : World) : ∃ p : Regrown, w = grow (redrawn w p.d) p.os := regrown_of_below (Below.refl _ _)

/-- THE CLASS: the worlds that are as W below W's blocks. A list of operations of a plain region, from a world of the class: behind it some world of the class. -/
theorem wpList_on {P : Program} {ops : Array Oper} {Q : Exit → Act → World → Prop} {a : Act} {W w : World} {l : List Oper} (hw : Below W.heap.size W w)
    (h : wpQuiet P ops (fun w' => ∃ p : Regrown, w' = grow (redrawn W p.d) p.os) (fun a' => ∀ w', Below W.heap.size W w' → Q .normal a' w') l a) : wpList P ops Q l a w :=
  wpList_of_quiet (C := fun w' => ∃ p : Regrown, w' = grow (redrawn W p.d) p.os) (fun _ _ ⟨p, hp⟩ hq => hq _ (by rw [hp]; exact below_regrown W p.d p.os)) l a w (regrown_of_below hw) h

/-- A region that draws its order. -/
theorem wp_on {P : Program} {id : Nat} {Q : Exit → Act → World → Prop} {a : Act} {W w : World} {l : List Oper} (hw : Below W.heap.size W w) (hm : P.follows .mixedOrders = true) (hB : Region.lexB .any l.toArray = true)
    (h : wpQuiet P l.toArray (fun w' => ∃ p : Regrown, w' = grow (redrawn W p.d) p.os) (fun a' => ∀ w', Below W.heap.size W w' → Q .normal a' w') l a) : (Code.region id l.toArray true).wp P Q a w :=
  wp_region_quiet (C := fun w' => ∃ p : Regrown, w' = grow (redrawn W p.d) p.os) hm hB (regrown_of_below (hw.trans ⟨rfl, rfl, rfl, Nat.le_refl _, fun _ _ => rfl⟩))
    (wpQuiet_mono (fun _ hq w' hp => by obtain ⟨p, hp⟩ := hp; exact hq w' (by rw [hp]; exact below_regrown W p.d p.os)) l a h)

/-- What a cell of an old block holds in every world that a quiet walk may meet. -/
theorem cell_on {W W' : World} {a : Addr} {v : Value} (h : ∀ p : Regrown, (grow (redrawn W p.d) p.os).cell? a = some v) (hb : Below W.heap.size W W') : ∀ p : Regrown, (grow (redrawn W' p.d) p.os).cell? a = some v := by
  intro p
  obtain ⟨q, hq⟩ := regrown_of_below (hb.trans ((below_regrown W' p.d p.os).mono hb.size))
  rw [hq]; exact h q
theorem cell_of {W : World} {a : Addr} {v : Value} (h : ∀ p : Regrown, (grow (redrawn W p.d) p.os).cell? a = some v) : W.cell? a = some v := by
  obtain ⟨q, hq⟩ := regrown_refl W
  rw [hq]; exact h q

/-- A contract's Bool, where the context says which one it is. -/
theorem regrown_is {P : Program} {f : FuncId} {args : Array Value} {w : World} {d : Nat} {os : Array Obj} {v b : Bool} (h : v = b)
    (hc : Calls P f args (grow (redrawn w d) os) fun e w' => e = .returned (.bool v) ∧ Below (grow (redrawn w d) os).heap.size (grow (redrawn w d) os) w') : Calls P f args (grow (redrawn w d) os) fun e w'' => e = .returned (.bool b) ∧ ∃ p : Regrown, w'' = grow (redrawn w p.d) p.os := by
  subst h; exact Calls.regrown_of hc

/-- A struct of two cells in a box. -/
theorem one_box (w : World) (v0 v1 : Value) (t : TypeId) : ∃ W, Hid (W = w.alloc (.cells #[v0, v1] t)) ∧ Below w.heap.size w W ∧ w.heap.size < W.heap.size ∧
    (∀ p : Regrown, (grow (redrawn W p.d) p.os).cell? ⟨w.heap.size, 0, none⟩ = some v0) ∧ (∀ p : Regrown, (grow (redrawn W p.d) p.os).cell? ⟨w.heap.size, 1, none⟩ = some v1) :=
  ⟨_, rfl, ((Below.refl _ _).alloc (Nat.le_refl _) _), by simp, fun p => cell_regrown (by go_simp) _ _, fun p => cell_regrown (by go_simp) _ _⟩
/-- Two structs of two cells, each in a box of its own. -/
theorem two_boxes (w : World) (v0 v1 u0 u1 : Value) (t u : TypeId) : ∃ W, Hid (W = (w.alloc (.cells #[v0, v1] t)).alloc (.cells #[u0, u1] u)) ∧ Below w.heap.size w W ∧ w.heap.size + 1 < W.heap.size ∧
    (∀ p : Regrown, (grow (redrawn W p.d) p.os).cell? ⟨w.heap.size, 0, none⟩ = some v0) ∧ (∀ p : Regrown, (grow (redrawn W p.d) p.os).cell? ⟨w.heap.size, 1, none⟩ = some v1) ∧
    (∀ p : Regrown, (grow (redrawn W p.d) p.os).cell? ⟨w.heap.size + 1, 0, none⟩ = some u0) ∧ (∀ p : Regrown, (grow (redrawn W p.d) p.os).cell? ⟨w.heap.size + 1, 1, none⟩ = some u1) :=
  ⟨_, rfl, (((Below.refl _ _).alloc (Nat.le_refl _) _).alloc (by simp) _), by simp, fun p => cell_regrown (by go_simp) _ _, fun p => cell_regrown (by go_simp) _ _, fun p => cell_regrown (by go_simp) _ _, fun p => cell_regrown (by go_simp) _ _⟩

theorem bool_of {a : Bool} {p : Prop} (h : a = true ↔ p) : (p → a = true) ∧ (¬ p → a = false) :=
  ⟨h.2, fun hn => by cases a <;> simp_all⟩
end Go.Proofs.Ytmonneeikkgllaa
