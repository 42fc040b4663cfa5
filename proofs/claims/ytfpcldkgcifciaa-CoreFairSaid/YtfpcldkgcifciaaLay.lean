/- The layout, in plain lists of numbers. No condition. -/
import Derived.Test.YtfpcldkgcifciaaDef
namespace Go.Proofs.Ytfpcldkgcifciaa
open Go.RowKit Go.Sort
set_option linter.unusedVariables false
set_option linter.unusedSimpArgs false

/-- How many words a channel's source span has. -/
def srcN (x : List Int) : Int := if fld x 0 = 1 then 11 + 4 * fld x 3 else 1 + fld x 4 + fld x 4 * fld x 3
/-- How many words the first partitions', channels' spans have together. -/
def privUp (l : List (List Int)) : Nat → Int
  | 0 => 0
  | n + 1 => privUp l n + fld (row l n) 1
def chanUp (l : List (List Int)) : Nat → Int
  | 0 => 0
  | n + 1 => chanUp l n + srcN (row l n) + 1
def beforeN (c : Cfg) (k : Nat) : Int := privUp c.parts c.parts.length + chanUp c.chans k
def acceptsB (c : Cfg) : Bool := decide (allB c 17 = [])
/-- What an accepted configuration has. -/
structure Accd (c : Cfg) : Prop where
  parts : 1 ≤ c.parts.length ∧ c.parts.length ≤ 6
  priv : ∀ i, i < c.parts.length → 0 ≤ fld (row c.parts i) 1 ∧ fld (row c.parts i) 1 ≤ 64
  chans : c.chans.length ≤ 8
  chan : ∀ i, i < c.chans.length → (fld (row c.chans i) 0 = 1 ∨ fld (row c.chans i) 0 = 2) ∧ 1 ≤ fld (row c.chans i) 3 ∧ fld (row c.chans i) 3 ≤ 16 ∧ 0 ≤ fld (row c.chans i) 4 ∧ fld (row c.chans i) 4 ≤ 8 ∧
    (fld (row c.chans i) 0 = 1 → fld (row c.chans i) 4 = 0) ∧ (fld (row c.chans i) 0 = 2 → 1 ≤ fld (row c.chans i) 4) ∧
    0 ≤ fld (row c.chans i) 1 ∧ fld (row c.chans i) 1 < (c.parts.length : Int) ∧ 0 ≤ fld (row c.chans i) 2 ∧ fld (row c.chans i) 2 < (c.parts.length : Int) ∧ fld (row c.chans i) 1 ≠ fld (row c.chans i) 2
theorem allB_nil {c : Cfg} (h : allB c 17 = []) {k : Int} (h1 : 1 ≤ k) (h2 : k ≤ 17) : holdsB c k = false := by
  cases hh : holdsB c k with
  | false => rfl
  | true =>
    exfalso
    have : k ∈ allB c 17 := by
      unfold allB
      rw [List.mem_filter]
      exact ⟨List.mem_map.2 ⟨(k - 1).toNat, List.mem_range.2 (by omega), by omega⟩, hh⟩
    rw [h] at this
    cases this
theorem accd_of {c : Cfg} (h : acceptsB c = true) : Accd c := by
  have hn : allB c 17 = [] := of_decide_eq_true h
  have b : ∀ k : Int, 1 ≤ k → k ≤ 17 → holdsB c k = false := fun k => allB_nil hn
  have b1 : ¬ (c.parts.length < 1 ∨ 6 < c.parts.length) := of_decide_eq_false (b 1 (by omega) (by omega))
  have b3 : ∀ i, i < c.parts.length → partBad c 3 i = false := scan_false.1 (b 3 (by omega) (by omega))
  have b4 : ¬ (8 < c.chans.length) := of_decide_eq_false (b 4 (by omega) (by omega))
  have bc : ∀ k : Int, 5 ≤ k → k ≤ 11 → ∀ i, i < c.chans.length → chanBad c.parts.length k (row c.chans i) = false := fun k h1 h2 => by
    have := b k (by omega) (by omega)
    unfold holdsB at this
    rw [if_neg (by omega), if_neg (by omega), if_neg (by omega), if_pos ⟨h1, h2⟩] at this
    exact scan_false.1 this
  refine ⟨by omega, fun i hi => ?_, by omega, fun i hi => ?_⟩
  · have := of_decide_eq_false (show decide (fld (row c.parts i) 1 < 0 ∨ 64 < fld (row c.parts i) 1) = false from b3 i hi)
    omega
  · have c5 := of_decide_eq_false (show decide (fld (row c.chans i) 0 ≠ 1 ∧ fld (row c.chans i) 0 ≠ 2) = false from bc 5 (by omega) (by omega) i hi)
    have c6 := of_decide_eq_false (show decide (¬ (0 ≤ fld (row c.chans i) 1 ∧ fld (row c.chans i) 1 < (c.parts.length : Int)) ∨ ¬ (0 ≤ fld (row c.chans i) 2 ∧ fld (row c.chans i) 2 < (c.parts.length : Int))) = false from bc 6 (by omega) (by omega) i hi)
    have c7 := of_decide_eq_false (show decide (fld (row c.chans i) 1 = fld (row c.chans i) 2) = false from bc 7 (by omega) (by omega) i hi)
    have c8 := of_decide_eq_false (show decide (fld (row c.chans i) 3 < 1 ∨ 16 < fld (row c.chans i) 3) = false from bc 8 (by omega) (by omega) i hi)
    have c9 := of_decide_eq_false (show decide ((fld (row c.chans i) 0 = 1 ∧ fld (row c.chans i) 4 ≠ 0) ∨ (fld (row c.chans i) 0 = 2 ∧ fld (row c.chans i) 4 ≠ 1 ∧ fld (row c.chans i) 4 ≠ 2 ∧ fld (row c.chans i) 4 ≠ 4 ∧ fld (row c.chans i) 4 ≠ 8)) = false from bc 9 (by omega) (by omega) i hi)
    omega
theorem srcN_in {x : List Int} (h0 : fld x 0 = 1 ∨ fld x 0 = 2) (h1 : 1 ≤ fld x 3) (h2 : fld x 3 ≤ 16) (h3 : 0 ≤ fld x 4) (h4 : fld x 4 ≤ 8) : 1 ≤ srcN x ∧ srcN x ≤ 137 := by
  have h5 : 0 ≤ fld x 4 * fld x 3 := Int.mul_nonneg h3 (by omega)
  have h6 : fld x 4 * fld x 3 ≤ 8 * 16 := Int.mul_le_mul h4 h2 (by omega) (by omega)
  unfold srcN
  split <;> omega
theorem privUp_in {c : Cfg} (h : Accd c) : ∀ n, n ≤ c.parts.length → 0 ≤ privUp c.parts n ∧ privUp c.parts n ≤ 64 * (n : Int)
  | 0, _ => ⟨Int.le_refl _, Int.le_refl _⟩
  | n + 1, hn => by
    have ih := privUp_in h n (by omega)
    have hp := h.priv n (by omega)
    show 0 ≤ privUp c.parts n + fld (row c.parts n) 1 ∧ privUp c.parts n + fld (row c.parts n) 1 ≤ 64 * ((n + 1 : Nat) : Int)
    omega
theorem chanUp_in {c : Cfg} (h : Accd c) : ∀ n, n ≤ c.chans.length → 0 ≤ chanUp c.chans n ∧ chanUp c.chans n ≤ 138 * (n : Int)
  | 0, _ => ⟨Int.le_refl _, Int.le_refl _⟩
  | n + 1, hn => by
    have ih := chanUp_in h n (by omega)
    obtain ⟨a, b, c', d, e, _⟩ := h.chan n (by omega)
    have hs := srcN_in a b c' d e
    show 0 ≤ chanUp c.chans n + srcN (row c.chans n) + 1 ∧ chanUp c.chans n + srcN (row c.chans n) + 1 ≤ 138 * ((n + 1 : Nat) : Int)
    omega
theorem beforeN_in {c : Cfg} (h : Accd c) {k : Nat} (hk : k ≤ c.chans.length) : 0 ≤ beforeN c k ∧ beforeN c k ≤ 1488 := by
  have h1 := privUp_in h c.parts.length (Nat.le_refl _)
  have h2 := chanUp_in h k hk
  have h3 := h.parts
  have h4 := h.chans
  unfold beforeN
  omega
end Go.Proofs.Ytfpcldkgcifciaa
