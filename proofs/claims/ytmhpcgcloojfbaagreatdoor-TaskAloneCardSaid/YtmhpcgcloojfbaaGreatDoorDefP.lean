/- The program's list of defects, in plain lists of numbers: the document's words at defect 17. No condition. -/
import Derived.Test.YtmhpcgcloojfbaaGreatDoorDef
namespace Go.Proofs.YtmhpcgcloojfbaaGreatDoor
open Go.RowKit Go.Sort
set_option linter.unusedVariables false
set_option linter.unusedSimpArgs false

/-- Has a frame a window of the partition? -/
def hasWin (l : List (List Int)) (p : Nat) : Bool := scan l.length (fun i => decide (fld (row l i) 0 = (p : Int)))
/-- Has a partition a window where it must have one? -/
def windowP (c : Cfg) (p : Nat) : Bool :=
  if fld (row c.parts p) 0 = 0 then hasWin c.win0 p else if fld (row c.parts p) 0 = 1 then hasWin c.win1 p else (hasWin c.win0 p || hasWin c.win1 p)
def holdsP (c : Cfg) (k : Int) : Bool := if k = 17 then scan c.parts.length (fun i => !windowP c i) else holdsB c k
theorem holdsP_not {c : Cfg} {k : Int} (h : k ≠ 17) : holdsP c k = holdsB c k := if_neg h
theorem holdsP_out {c : Cfg} {k : Int} (h : k < 1 ∨ 17 < k) : holdsP c k = false := by
  rw [holdsP_not (by omega)]
  unfold holdsB
  rw [if_neg (by omega), if_neg (by omega), if_neg (by omega), if_neg (by omega), if_neg (by omega)]
/-- All defects, rising. -/
def allP (c : Cfg) (n : Nat) : List Int := ((List.range n).map (fun i : Nat => (i : Int) + 1)).filter (holdsP c)
theorem allP_next (c : Cfg) (n : Nat) : allP c (n + 1) = allP c n ++ (if holdsP c ((n : Int) + 1) = true then [(n : Int) + 1] else []) := by
  simp only [allP, List.range_succ, List.map_append, List.map_cons, List.map_nil, List.filter_append]
  congr 1
  by_cases h : holdsP c ((n : Int) + 1) = true <;> simp [h]
theorem allP_len (c : Cfg) (n : Nat) : (allP c n).length ≤ n := by
  unfold allP
  refine Nat.le_trans (List.length_filter_le _ _) ?_
  simp
theorem allP_nil {c : Cfg} (h : allP c 17 = []) {k : Int} (h1 : 1 ≤ k) (h2 : k ≤ 17) : holdsP c k = false := by
  cases hh : holdsP c k with
  | false => rfl
  | true =>
    exfalso
    have : k ∈ allP c 17 := by
      unfold allP
      rw [List.mem_filter]
      refine ⟨List.mem_map.2 ⟨(k - 1).toNat, List.mem_range.2 (by omega), by omega⟩, hh⟩
    rw [h] at this
    cases this
theorem windowP_mirror {c : Cfg} (hw : wfR [.i64, .i64] c.parts) {p : Nat} (hp : p < c.parts.length) : windowP (mirror c) p = windowP c p := by
  unfold windowP
  rw [show (mirror c).parts = c.parts.map flipR from rfl, row_flip, fld_flip (row_ne hw hp), show (mirror c).win0 = c.win1 from rfl, show (mirror c).win1 = c.win0 from rfl]
  generalize fld (row c.parts p) 0 = n
  unfold flipI
  by_cases h0 : n = 0
  · subst h0; simp
  · by_cases h1 : n = 1
    · subst h1; simp
    · simp [h0, h1, Bool.or_comm]
theorem holdsP_mirror {c : Cfg} (hw : wfR [.i64, .i64] c.parts) (k : Int) : holdsP (mirror c) k = holdsP c k := by
  unfold holdsP
  rw [holdsB_mirror hw k, show (mirror c).parts.length = c.parts.length by simp [mirror]]
  rw [scan_congr (fun i hi => by rw [windowP_mirror hw hi])]
theorem allP_mirror {c : Cfg} (hw : wfR [.i64, .i64] c.parts) (n : Nat) : allP (mirror c) n = allP c n := by
  unfold allP
  congr 1
  funext k
  exact holdsP_mirror hw k
theorem holdsP_with {c : Cfg} {l : List (List Int)} (hm : ∀ x, x ∈ l ↔ x ∈ c.chans) (hl : l.length = c.chans.length) (k : Int) : holdsP (withChans c l) k = holdsP c k := by
  unfold holdsP
  rw [holdsB_with hm hl k]
  rfl
theorem allP_with {c : Cfg} {l : List (List Int)} (hm : ∀ x, x ∈ l ↔ x ∈ c.chans) (hl : l.length = c.chans.length) (n : Nat) : allP (withChans c l) n = allP c n := by
  unfold allP
  congr 1
  funext k
  exact holdsP_with hm hl k
theorem holdsP_twice {c : Cfg} {x : List Int} (hx : x ∈ c.chans) {k : Int} (hk : k ≠ 4) : holdsP (withChans c (c.chans ++ [x])) k = holdsP c k := by
  unfold holdsP
  rw [holdsB_twice hx hk]
  rfl
theorem holdsP_four (c : Cfg) (x : List Int) : holdsP (withChans c (c.chans ++ [x])) 4 = decide (8 ≤ c.chans.length) := by
  rw [holdsP_not (by decide), holdsB_four]
/-- 'Has one of the rows it?', told by the list. -/
theorem scan_any (l : List (List Int)) (f : List Int → Bool) : scan l.length (fun i => f (row l i)) = l.any f := by
  unfold scan
  rw [Bool.eq_iff_iff, List.any_eq_true, List.any_eq_true]
  constructor
  · rintro ⟨i, hi, h⟩
    have hi := List.mem_range.1 hi
    exact ⟨l[i], List.getElem_mem hi, by rw [← row_at (List.getElem?_eq_getElem hi)]; exact h⟩
  · rintro ⟨x, hx, h⟩
    obtain ⟨i, hi, rfl⟩ := List.getElem_of_mem hx
    exact ⟨i, List.mem_range.2 hi, by rw [row_at (List.getElem?_eq_getElem hi)]; exact h⟩
end Go.Proofs.YtmhpcgcloojfbaaGreatDoor
