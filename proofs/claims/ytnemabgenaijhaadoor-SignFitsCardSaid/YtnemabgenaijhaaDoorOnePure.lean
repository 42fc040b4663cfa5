/- What spans are, in plain numbers: the functions that the contracts of layer 1 speak of. No condition. -/
import Derived.Test.YtnemabgenaijhaaDoorKit
namespace Go.Proofs.YtnemabgenaijhaaDoor
namespace One
/-- Is a span right? -/
def rightB (f s : Int) : Bool := decide (0 ≤ f ∧ f ≤ 2147483647 ∧ 0 ≤ s ∧ s ≤ 2147483647 - f)
/-- Has it that address? -/
def hasB (f s x : Int) : Bool := rightB f s && decide (f ≤ x ∧ x < f + s)
/-- Has it any address? -/
def filledB (f s : Int) : Bool := rightB f s && decide (0 < s)
/-- Do two spans meet? -/
def meetsB (f s g t : Int) : Bool := filledB f s && filledB g t && decide (f < g + t ∧ g < f + s)
/-- Does the first one lie in the second one? -/
def inB (f s g t : Int) : Bool := !filledB f s || (rightB g t && decide (g ≤ f ∧ f + s ≤ g + t))

theorem rightB_yes {f s : Int} : rightB f s = true ↔ 0 ≤ f ∧ f ≤ 2147483647 ∧ 0 ≤ s ∧ s ≤ 2147483647 - f := by
  unfold rightB; exact decide_eq_true_iff
theorem rightB_no {f s : Int} : rightB f s = false ↔ ¬ (0 ≤ f ∧ f ≤ 2147483647 ∧ 0 ≤ s ∧ s ≤ 2147483647 - f) := by
  unfold rightB; exact decide_eq_false_iff_not
theorem filledB_yes {f s : Int} : filledB f s = true ↔ (0 ≤ f ∧ f ≤ 2147483647 ∧ 0 ≤ s ∧ s ≤ 2147483647 - f) ∧ 0 < s := by
  unfold filledB; rw [Bool.and_eq_true, rightB_yes, decide_eq_true_iff]
theorem hasB_yes {f s x : Int} : hasB f s x = true ↔ (0 ≤ f ∧ f ≤ 2147483647 ∧ 0 ≤ s ∧ s ≤ 2147483647 - f) ∧ f ≤ x ∧ x < f + s := by
  unfold hasB; rw [Bool.and_eq_true, rightB_yes, decide_eq_true_iff]
theorem meetsB_yes {f s g t : Int} : meetsB f s g t = true ↔ (filledB f s = true ∧ filledB g t = true) ∧ f < g + t ∧ g < f + s := by
  unfold meetsB; rw [Bool.and_eq_true, Bool.and_eq_true, decide_eq_true_iff]
theorem inB_yes {f s g t : Int} : inB f s g t = true ↔ (filledB f s = true → rightB g t = true ∧ g ≤ f ∧ f + s ≤ g + t) := by
  unfold inB; cases filledB f s <;> simp
theorem hasB_own {f s : Int} : hasB f s f = filledB f s := by
  rw [Bool.eq_iff_iff, hasB_yes, filledB_yes]; omega
theorem meetsB_symm (f s g t : Int) : meetsB f s g t = meetsB g t f s := by
  rw [Bool.eq_iff_iff, meetsB_yes, meetsB_yes]; constructor <;> (rintro ⟨⟨a, b⟩, c, d⟩; exact ⟨⟨b, a⟩, d, c⟩)
theorem inB_self (f s : Int) : inB f s f s = true := by
  rw [inB_yes, filledB_yes]; intro h; exact ⟨rightB_yes.2 h.1, by omega, by omega⟩
/-- The first address of one of two spans that meet is the other one's. -/
theorem meetsB_has {f s g t : Int} : meetsB f s g t = (filledB f s && (filledB g t && (hasB f s g || hasB g t f))) := by
  rw [Bool.eq_iff_iff, meetsB_yes]
  simp only [Bool.and_eq_true, Bool.or_eq_true, hasB_yes, filledB_yes]
  constructor
  · rintro ⟨⟨a, b⟩, c, d⟩
    refine ⟨a, b, ?_⟩
    by_cases h : f ≤ g
    · exact .inl ⟨a.1, h, d⟩
    · exact .inr ⟨b.1, by omega, c⟩
  · rintro ⟨a, b, c⟩
    exact ⟨⟨a, b⟩, by omega, by omega⟩
end One
end Go.Proofs.YtnemabgenaijhaaDoor
