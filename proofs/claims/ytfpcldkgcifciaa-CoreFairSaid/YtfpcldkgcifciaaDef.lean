/- The document's list of defects, in plain lists of numbers. No condition. -/
import Derived.Test.YtfpcldkgcifciaaKitN
namespace Go.Proofs.Ytfpcldkgcifciaa
open Go.RowKit Go.Sort
set_option linter.unusedVariables false
set_option linter.unusedSimpArgs false

/-- Has one of the first n places it? -/
def scan (n : Nat) (f : Nat → Bool) : Bool := (List.range n).any f
theorem scan_next {n : Nat} {f : Nat → Bool} (h : scan n f = false) (hf : f n = false) : scan (n + 1) f = false := by
  unfold scan at *
  rw [List.range_succ, List.any_append, h]
  simp [hf]
theorem scan_hit {n i : Nat} {f : Nat → Bool} (hi : i < n) (hf : f i = true) : scan n f = true := List.any_eq_true.2 ⟨i, List.mem_range.2 hi, hf⟩
theorem scan_false {n : Nat} {f : Nat → Bool} : scan n f = false ↔ ∀ i, i < n → f i = false := by
  unfold scan
  rw [List.any_eq_false]
  constructor
  · intro h i hi; simpa using h i (List.mem_range.2 hi)
  · intro h i hi; simpa using h i (List.mem_range.1 hi)
theorem scan_congr {n : Nat} {f g : Nat → Bool} (h : ∀ i, i < n → f i = g i) : scan n f = scan n g := by
  unfold scan
  rw [Bool.eq_iff_iff, List.any_eq_true, List.any_eq_true]
  constructor
  · rintro ⟨i, hi, hf⟩; exact ⟨i, hi, by rw [← h i (List.mem_range.1 hi)]; exact hf⟩
  · rintro ⟨i, hi, hf⟩; exact ⟨i, hi, by rw [h i (List.mem_range.1 hi)]; exact hf⟩
/-- The number at a place of a row. -/
def fld (x : List Int) (j : Nat) : Int := x.getD j 0
def row (l : List (List Int)) (i : Nat) : List Int := l.getD i []
theorem row_at {l : List (List Int)} {i : Nat} {x : List Int} (h : l[i]? = some x) : row l i = x := by simp [row, List.getD_eq_getElem?_getD, h]
def wordB (n : Int) : Bool := decide (0 ≤ n ∧ n ≤ 4294967295)
/-- Is it a partition's number? -/
def partB (c : Cfg) (p : Int) : Bool := decide (0 ≤ p ∧ p < (c.parts.length : Int))
/-- A channel's defects, 5 to 11. -/
def chanBad (n : Nat) (k : Int) (x : List Int) : Bool :=
  if k = 5 then decide (fld x 0 ≠ 1 ∧ fld x 0 ≠ 2)
  else if k = 6 then decide (¬ (0 ≤ fld x 1 ∧ fld x 1 < (n : Int)) ∨ ¬ (0 ≤ fld x 2 ∧ fld x 2 < (n : Int)))
  else if k = 7 then decide (fld x 1 = fld x 2)
  else if k = 8 then decide (fld x 3 < 1 ∨ 16 < fld x 3)
  else if k = 9 then decide ((fld x 0 = 1 ∧ fld x 4 ≠ 0) ∨ (fld x 0 = 2 ∧ fld x 4 ≠ 1 ∧ fld x 4 ≠ 2 ∧ fld x 4 ≠ 4 ∧ fld x 4 ≠ 8))
  else if k = 10 then decide ((fld x 0 = 1 ∧ (fld x 5 < 0 ∨ 1048576 < fld x 5)) ∨ (fld x 0 = 2 ∧ fld x 5 ≠ 0))
  else if k = 11 then decide (fld x 0 = 1 ∧ fld x 6 ≠ 0) else false
def chansB (c : Cfg) (k : Int) : Bool := scan c.chans.length (fun i => chanBad c.parts.length k (row c.chans i))
/-- A window's defects, 14 to 16. -/
def win14 (c : Cfg) (f : Int) (x : List Int) : Bool := !partB c (fld x 0) || decide (fld (row c.parts (fld x 0).toNat) 0 ≠ f)
def win15 (len : Int) (x : List Int) : Bool := decide (fld x 1 < 0 ∨ fld x 2 < 1 ∨ len < fld x 1 ∨ len - fld x 1 < fld x 2)
def win16 (p x : List Int) : Bool := wordB (fld x 1) && wordB (fld p 1) && wordB (fld p 2) && decide (fld x 1 < fld p 1 + fld p 2)
def winsB (c : Cfg) (f : Int) (len : Int) (l : List (List Int)) (k : Int) : Bool :=
  if k = 12 then decide (len < 1 ∨ 64 < len)
  else if k = 13 then decide (16 < l.length)
  else if k = 14 then scan l.length (fun i => win14 c f (row l i))
  else if k = 15 then scan l.length (fun i => win15 len (row l i))
  else if k = 16 then scan l.length (fun i => decide (0 < i) && win16 (row l (i - 1)) (row l i)) else false
/-- Has a partition a window in the frame of its core? -/
def windowB (c : Cfg) (p : Nat) : Bool :=
  if fld (row c.parts p) 0 = 0 then scan c.win0.length (fun i => decide (fld (row c.win0 i) 0 = (p : Int)))
  else if fld (row c.parts p) 0 = 1 then scan c.win1.length (fun i => decide (fld (row c.win1 i) 0 = (p : Int))) else false
def partBad (c : Cfg) (k : Int) (i : Nat) : Bool :=
  if k = 2 then decide (fld (row c.parts i) 0 ≠ 0 ∧ fld (row c.parts i) 0 ≠ 1)
  else if k = 3 then decide (fld (row c.parts i) 1 < 0 ∨ 64 < fld (row c.parts i) 1)
  else if k = 17 then !windowB c i else false
/-- Has a configuration the defect k? -/
def holdsB (c : Cfg) (k : Int) : Bool :=
  if k = 1 then decide (c.parts.length < 1 ∨ 6 < c.parts.length)
  else if k = 2 ∨ k = 3 ∨ k = 17 then scan c.parts.length (fun i => partBad c k i)
  else if k = 4 then decide (8 < c.chans.length)
  else if 5 ≤ k ∧ k ≤ 11 then chansB c k
  else if 12 ≤ k ∧ k ≤ 16 then winsB c 0 c.len0 c.win0 k || winsB c 1 c.len1 c.win1 k else false
/-- All defects, rising. -/
def allB (c : Cfg) (n : Nat) : List Int := ((List.range n).map (fun i : Nat => (i : Int) + 1)).filter (holdsB c)
theorem allB_next (c : Cfg) (n : Nat) : allB c (n + 1) = allB c n ++ (if holdsB c ((n : Int) + 1) = true then [(n : Int) + 1] else []) := by
  simp only [allB, List.range_succ, List.map_append, List.map_cons, List.map_nil, List.filter_append]
  congr 1
  by_cases h : holdsB c ((n : Int) + 1) = true <;> simp [h]

/-! ### The two cores changed for one another -/
def flipI (n : Int) : Int := if n = 0 then 1 else if n = 1 then 0 else n
def flipR (x : List Int) : List Int := match x with | a :: l => flipI a :: l | [] => []
def mirror (c : Cfg) : Cfg := ⟨c.parts.map flipR, c.chans, c.len1, c.win1, c.len0, c.win0⟩
theorem row_flip (l : List (List Int)) (i : Nat) : row (l.map flipR) i = flipR (row l i) := by
  unfold row
  rw [List.getD_eq_getElem?_getD, List.getD_eq_getElem?_getD, List.getElem?_map]
  cases l[i]? <;> rfl
theorem fld_flip {x : List Int} (h : x ≠ []) : fld (flipR x) 0 = flipI (fld x 0) := by
  cases x with
  | nil => exact absurd rfl h
  | cons a l => rfl
theorem fld_flip1 (x : List Int) : fld (flipR x) 1 = fld x 1 := by
  cases x with
  | nil => rfl
  | cons a l => rfl
theorem row_ne {l : List (List Int)} (hw : wfR [.i64, .i64] l) {i : Nat} (hi : i < l.length) : row l i ≠ [] := by
  have hx : l[i]? = some l[i] := List.getElem?_eq_getElem hi
  obtain ⟨x0, x1, he, _⟩ := wfN2 (hw l[i] (List.getElem_mem hi))
  rw [row_at hx, he]; simp
theorem partB_mirror (c : Cfg) (p : Int) : partB (mirror c) p = partB c p := by simp [partB, mirror]
theorem win14_mirror {c : Cfg} (hw : wfR [.i64, .i64] c.parts) (f : Int) (x : List Int) (hf : f = 0 ∨ f = 1) : win14 (mirror c) (flipI f) x = win14 c f x := by
  unfold win14
  rw [partB_mirror]
  by_cases hp : partB c (fld x 0) = true
  · have hb := of_decide_eq_true hp
    rw [show (mirror c).parts = c.parts.map flipR from rfl, row_flip, fld_flip (row_ne hw (by omega))]
    congr 1
    generalize fld (row c.parts (fld x 0).toNat) 0 = n
    rw [decide_eq_decide]
    unfold flipI
    rcases hf with rfl | rfl
    · by_cases h0 : n = 0
      · subst h0; simp
      · by_cases h1 : n = 1
        · subst h1; simp
        · simp [h0, h1]
    · by_cases h0 : n = 0
      · subst h0; simp
      · by_cases h1 : n = 1
        · subst h1; simp
        · simp [h0, h1]
  · have hp : partB c (fld x 0) = false := by simpa using hp
    rw [hp]; rfl
theorem winsB_mirror {c : Cfg} (hw : wfR [.i64, .i64] c.parts) (f len : Int) (l : List (List Int)) (k : Int) (hf : f = 0 ∨ f = 1) : winsB (mirror c) (flipI f) len l k = winsB c f len l k := by
  unfold winsB
  simp only [win14_mirror hw f _ hf]
theorem windowB_mirror {c : Cfg} (hw : wfR [.i64, .i64] c.parts) {p : Nat} (hp : p < c.parts.length) : windowB (mirror c) p = windowB c p := by
  unfold windowB
  rw [show (mirror c).parts = c.parts.map flipR from rfl, row_flip, fld_flip (row_ne hw hp), show (mirror c).win0 = c.win1 from rfl, show (mirror c).win1 = c.win0 from rfl]
  generalize fld (row c.parts p) 0 = n
  unfold flipI
  by_cases h0 : n = 0
  · subst h0; simp
  · by_cases h1 : n = 1
    · subst h1; simp
    · simp [h0, h1]
theorem partBad_mirror {c : Cfg} (hw : wfR [.i64, .i64] c.parts) (k : Int) {i : Nat} (hi : i < c.parts.length) : partBad (mirror c) k i = partBad c k i := by
  unfold partBad
  rw [windowB_mirror hw hi, show (mirror c).parts = c.parts.map flipR from rfl, row_flip, fld_flip (row_ne hw hi), fld_flip1]
  generalize fld (row c.parts i) 0 = n
  split
  · rw [decide_eq_decide]
    unfold flipI
    by_cases h0 : n = 0
    · subst h0; simp
    · by_cases h1 : n = 1
      · subst h1; simp
      · simp [h0, h1]
  · rfl
theorem holdsB_mirror {c : Cfg} (hw : wfR [.i64, .i64] c.parts) (k : Int) : holdsB (mirror c) k = holdsB c k := by
  have e0 := winsB_mirror hw 0 c.len0 c.win0 k (.inl rfl)
  have e1 := winsB_mirror hw 1 c.len1 c.win1 k (.inr rfl)
  have l : (mirror c).parts.length = c.parts.length := by simp [mirror]
  have es : scan (mirror c).parts.length (fun i => partBad (mirror c) k i) = scan c.parts.length (fun i => partBad c k i) := by
    rw [l]; exact scan_congr (fun i hi => partBad_mirror hw k hi)
  have ec : chansB (mirror c) k = chansB c k := by unfold chansB; rw [l]; rfl
  have ew : (winsB (mirror c) 0 (mirror c).len0 (mirror c).win0 k || winsB (mirror c) 1 (mirror c).len1 (mirror c).win1 k) = (winsB c 0 c.len0 c.win0 k || winsB c 1 c.len1 c.win1 k) := by
    rw [← e0, ← e1, Bool.or_comm]; rfl
  unfold holdsB
  rw [es, ec, ew, l, show (mirror c).chans = c.chans from rfl]
theorem allB_mirror {c : Cfg} (hw : wfR [.i64, .i64] c.parts) (n : Nat) : allB (mirror c) n = allB c n := by
  unfold allB
  congr 1
  funext k
  exact holdsB_mirror hw k

/-! ### Channels in another order; one twice -/
def withChans (c : Cfg) (l : List (List Int)) : Cfg := ⟨c.parts, l, c.len0, c.win0, c.len1, c.win1⟩
theorem chansB_any (c : Cfg) (k : Int) : chansB c k = c.chans.any (chanBad c.parts.length k) := by
  unfold chansB scan
  rw [Bool.eq_iff_iff, List.any_eq_true, List.any_eq_true]
  constructor
  · rintro ⟨i, hi, h⟩
    have hi := List.mem_range.1 hi
    exact ⟨c.chans[i], List.getElem_mem hi, by rw [← row_at (List.getElem?_eq_getElem hi)]; exact h⟩
  · rintro ⟨x, hx, h⟩
    obtain ⟨i, hi, rfl⟩ := List.getElem_of_mem hx
    exact ⟨i, List.mem_range.2 hi, by rw [row_at (List.getElem?_eq_getElem hi)]; exact h⟩
theorem winsB_with (c : Cfg) (l : List (List Int)) (f len : Int) (w : List (List Int)) (k : Int) : winsB (withChans c l) f len w k = winsB c f len w k := rfl
theorem holdsB_with {c : Cfg} {l : List (List Int)} (hm : ∀ x, x ∈ l ↔ x ∈ c.chans) (hl : l.length = c.chans.length) (k : Int) : holdsB (withChans c l) k = holdsB c k := by
  have ec : chansB (withChans c l) k = chansB c k := by
    rw [chansB_any, chansB_any, Bool.eq_iff_iff, List.any_eq_true, List.any_eq_true]
    constructor
    · rintro ⟨x, hx, h⟩; exact ⟨x, (hm x).1 hx, h⟩
    · rintro ⟨x, hx, h⟩; exact ⟨x, (hm x).2 hx, h⟩
  unfold holdsB
  rw [ec, winsB_with, winsB_with, show (withChans c l).chans = l from rfl, hl]
  rfl
theorem holdsB_twice {c : Cfg} {x : List Int} (hx : x ∈ c.chans) {k : Int} (hk : k ≠ 4) : holdsB (withChans c (c.chans ++ [x])) k = holdsB c k := by
  have ec : chansB (withChans c (c.chans ++ [x])) k = chansB c k := by
    rw [chansB_any, chansB_any, show (withChans c (c.chans ++ [x])).chans = c.chans ++ [x] from rfl, List.any_append]
    show (c.chans.any (chanBad c.parts.length k) || [x].any (chanBad c.parts.length k)) = c.chans.any (chanBad c.parts.length k)
    cases h : c.chans.any (chanBad c.parts.length k) with
    | true => rfl
    | false => rw [List.any_eq_false] at h; simpa using h x hx
  unfold holdsB
  rw [ec, winsB_with, winsB_with, if_neg hk, if_neg hk]
  rfl
theorem holdsB_four (c : Cfg) (x : List Int) : holdsB (withChans c (c.chans ++ [x])) 4 = decide (8 ≤ c.chans.length) := by
  unfold holdsB
  simp [withChans]
  omega
end Go.Proofs.Ytfpcldkgcifciaa
