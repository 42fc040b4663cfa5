/- What an accepted configuration has, in plain lists. No condition. -/
import Derived.Test.YtogffilanioejaaLawKit
namespace Go.Proofs.Ytogffilanioejaa
open Go.RowKit Go.Sort
set_option linter.unusedVariables false
set_option linter.unusedSimpArgs false

/-- Where the windows so far end. -/
def endAt (win : List (List Int)) : Nat → Int
  | 0 => 0
  | i + 1 => fld (row win i) 1 + fld (row win i) 2
/-- The windows of a frame follow one another within it, each of a partition of its core. -/
def WinOk (c : Cfg) (f len : Int) (win : List (List Int)) : Prop := ∀ i, i < win.length → endAt win i ≤ fld (row win i) 1 ∧ 1 ≤ fld (row win i) 2 ∧ fld (row win i) 1 + fld (row win i) 2 ≤ len ∧
  0 ≤ fld (row win i) 0 ∧ fld (row win i) 0 < (c.parts.length : Int) ∧ fld (row c.parts (fld (row win i) 0).toNat) 0 = f ∧ 0 ≤ endAt win i ∧ endAt win i ≤ 64 ∧ fld (row win i) 1 ≤ 64 ∧ fld (row win i) 2 ≤ 64
structure KeepsOf (c : Cfg) : Prop where
  parts : 1 ≤ c.parts.length ∧ c.parts.length ≤ 6
  chans : c.chans.length ≤ 8
  chan : ∀ i, i < c.chans.length → fld (row c.chans i) 1 ≠ fld (row c.chans i) 2 ∧ 0 ≤ fld (row c.chans i) 1 ∧ fld (row c.chans i) 1 < (c.parts.length : Int) ∧ 0 ≤ fld (row c.chans i) 2 ∧ fld (row c.chans i) 2 < (c.parts.length : Int)
  win0 : WinOk c 0 c.len0 c.win0
  win1 : WinOk c 1 c.len1 c.win1
  part : ∀ p : Nat, p < c.parts.length → (∃ q, q < c.win0.length ∧ fld (row c.win0 q) 0 = (p : Int)) ∨ (∃ q, q < c.win1.length ∧ fld (row c.win1 q) 0 = (p : Int))
theorem hasWin_true {l : List (List Int)} {p : Nat} (h : hasWin l p = true) : ∃ q, q < l.length ∧ fld (row l q) 0 = (p : Int) := by
  unfold hasWin scan at h
  obtain ⟨q, hq, he⟩ := List.any_eq_true.1 h
  exact ⟨q, List.mem_range.1 hq, of_decide_eq_true he⟩
theorem winOk_of {c : Cfg} {f len : Int} {win : List (List Int)} (h12 : winsB c f len win 12 = false) (h14 : winsB c f len win 14 = false) (h15 : winsB c f len win 15 = false) (h16 : winsB c f len win 16 = false) : WinOk c f len win := by
  have e12 : ¬ (len < 1 ∨ 64 < len) := of_decide_eq_false h12
  have e14 : ∀ i, i < win.length → win14 c f (row win i) = false := scan_false.1 h14
  have e15 : ∀ i, i < win.length → win15 len (row win i) = false := scan_false.1 h15
  have e16 : ∀ i, i < win.length → (decide (0 < i) && win16 (row win (i - 1)) (row win i)) = false := scan_false.1 h16
  have base : ∀ i, i < win.length → 0 ≤ fld (row win i) 1 ∧ 1 ≤ fld (row win i) 2 ∧ fld (row win i) 1 + fld (row win i) 2 ≤ len := by
    intro i hi
    have := of_decide_eq_false (e15 i hi)
    omega
  intro i hi
  have hp := e14 i hi
  unfold win14 at hp
  rw [Bool.or_eq_false_iff] at hp
  have hp1 : partB c (fld (row win i) 0) = true := by simpa using hp.1
  have hp1 := of_decide_eq_true hp1
  have hp2 := of_decide_eq_false hp.2
  have hb := base i hi
  have he : endAt win i ≤ fld (row win i) 1 ∧ 0 ≤ endAt win i ∧ endAt win i ≤ 64 := by
    cases i with
    | zero => exact ⟨hb.1, by simp [endAt], by simp [endAt]⟩
    | succ j =>
      have hj := base j (by omega)
      have h := e16 (j + 1) hi
      rw [decide_eq_true (show 0 < j + 1 by omega), Bool.true_and, Nat.add_sub_cancel] at h
      unfold win16 at h
      have w1 : wordB (fld (row win (j + 1)) 1) = true := decide_eq_true (by omega)
      have w2 : wordB (fld (row win j) 1) = true := decide_eq_true (by omega)
      have w3 : wordB (fld (row win j) 2) = true := decide_eq_true (by omega)
      rw [w1, w2, w3, Bool.true_and, Bool.true_and, Bool.true_and] at h
      have h := of_decide_eq_false h
      exact ⟨by show fld (row win j) 1 + fld (row win j) 2 ≤ _; omega, by show 0 ≤ fld (row win j) 1 + fld (row win j) 2; omega, by show fld (row win j) 1 + fld (row win j) 2 ≤ 64; omega⟩
  exact ⟨he.1, hb.2.1, hb.2.2, hp1.1, hp1.2, by simpa using hp2, he.2.1, he.2.2, by omega, by omega⟩
theorem keeps_of {c : Cfg} (h : acceptsP c = true) : KeepsOf c := by
  have hn : allP c 17 = [] := of_decide_eq_true h
  have hk : ∀ k : Int, 1 ≤ k → k ≤ 17 → holdsP c k = false := fun k => allP_nil hn
  have b : ∀ k : Int, 1 ≤ k → k ≤ 16 → holdsB c k = false := fun k h1 h2 => by rw [← holdsP_not (by omega)]; exact hk k h1 (by omega)
  have b1 : ¬ (c.parts.length < 1 ∨ 6 < c.parts.length) := of_decide_eq_false (b 1 (by omega) (by omega))
  have b2 : ∀ i, i < c.parts.length → partBad c 2 i = false := scan_false.1 (b 2 (by omega) (by omega))
  have b4 : ¬ (8 < c.chans.length) := of_decide_eq_false (b 4 (by omega) (by omega))
  have b6 : ∀ i, i < c.chans.length → chanBad c.parts.length 6 (row c.chans i) = false := scan_false.1 (b 6 (by omega) (by omega))
  have b7 : ∀ i, i < c.chans.length → chanBad c.parts.length 7 (row c.chans i) = false := scan_false.1 (b 7 (by omega) (by omega))
  have w : ∀ k : Int, 12 ≤ k → k ≤ 16 → winsB c 0 c.len0 c.win0 k = false ∧ winsB c 1 c.len1 c.win1 k = false := fun k h1 h2 => by
    have := b k (by omega) h2
    unfold holdsB at this
    rw [if_neg (by omega), if_neg (by omega), if_neg (by omega), if_neg (by omega), if_pos ⟨h1, h2⟩] at this
    exact Bool.or_eq_false_iff.1 this
  have b17 : ∀ i, i < c.parts.length → (!windowP c i) = false := scan_false.1 (hk 17 (by omega) (by omega))
  refine ⟨by omega, by omega, fun i hi => ?_, winOk_of (w 12 (by omega) (by omega)).1 (w 14 (by omega) (by omega)).1 (w 15 (by omega) (by omega)).1 (w 16 (by omega) (by omega)).1,
    winOk_of (w 12 (by omega) (by omega)).2 (w 14 (by omega) (by omega)).2 (w 15 (by omega) (by omega)).2 (w 16 (by omega) (by omega)).2, fun p hp => ?_⟩
  · have h6 := of_decide_eq_false (show decide (¬ (0 ≤ fld (row c.chans i) 1 ∧ fld (row c.chans i) 1 < (c.parts.length : Int)) ∨ ¬ (0 ≤ fld (row c.chans i) 2 ∧ fld (row c.chans i) 2 < (c.parts.length : Int))) = false from b6 i hi)
    have h7 := of_decide_eq_false (show decide (fld (row c.chans i) 1 = fld (row c.chans i) 2) = false from b7 i hi)
    omega
  · have h2 := of_decide_eq_false (show decide (fld (row c.parts p) 0 ≠ 0 ∧ fld (row c.parts p) 0 ≠ 1) = false from b2 p hp)
    have h17 : windowP c p = true := by simpa using b17 p hp
    unfold windowP at h17
    by_cases h0 : fld (row c.parts p) 0 = 0
    · rw [if_pos h0] at h17
      exact .inl (hasWin_true h17)
    · rw [if_neg h0, if_pos (by omega)] at h17
      exact .inr (hasWin_true h17)
end Go.Proofs.Ytogffilanioejaa
