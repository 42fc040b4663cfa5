/- Texts of the ring, joined, what is used of them. No condition but those in the statements. -/
import Derived.Test.YthcnooimegaloaaDoorProg
import Derived.BigQuiet
import Derived.BigRegion
import Derived.Deep.RegionHeld3
import Derived.IntWalk
import Derived.Test.YthcnooimegaloaaDoorQgb
section
namespace Go.Proofs.YthcnooimegaloaaDoor
open Go.RowKit Go.Sort
set_option linter.unusedVariables false
set_option linter.unusedSimpArgs false
/-- Has one of the first n places it? -/
def scan (n : Nat) (f : Nat → Bool) : Bool := (List.range n).any f
theorem scan_next {n : Nat} {f : Nat → Bool} (h : scan n f = false) (hf : f n = false) : scan (n + 1) f = false := by
  unfold scan at *
  rw [List.range_succ, List.any_append, h]
  simp [hf]
theorem scan_hit {n i : Nat} {f : Nat → Bool} (hi : i < n) (hf : f i = true) : scan n f = true := List.any_eq_true.2 ⟨i, List.mem_range.2 hi, hf⟩
theorem scan_false {n : Nat} {f : Nat → Bool} : scan n f = false ↔ ∀ i, i < n → f i = false := by
  unfold scan
  rw [List.any_eq_false]
  constructor
  · intro h i hi; simpa using h i (List.mem_range.2 hi)
  · intro h i hi; simpa using h i (List.mem_range.1 hi)
theorem scan_congr {n : Nat} {f g : Nat → Bool} (h : ∀ i, i < n → f i = g i) : scan n f = scan n g := by
  unfold scan
  rw [Bool.eq_iff_iff, List.any_eq_true, List.any_eq_true]
  constructor
  · rintro ⟨i, hi, hf⟩; exact ⟨i, hi, by rw [← h i (List.mem_range.1 hi)]; exact hf⟩
  · rintro ⟨i, hi, hf⟩; exact ⟨i, hi, by rw [h i (List.mem_range.1 hi)]; exact hf⟩
/-- The number at a place of a row. -/
def fld (x : List Int) (j : Nat) : Int := x.getD j 0
def row (l : List (List Int)) (i : Nat) : List Int := l.getD i []
theorem row_at {l : List (List Int)} {i : Nat} {x : List Int} (h : l[i]? = some x) : row l i = x := by simp [row, List.getD_eq_getElem?_getD, h]
def wordB (n : Int) : Bool := decide (0 ≤ n ∧ n ≤ 4294967295)
/-- Is it a partition's number? -/
def partB (c : Cfg) (p : Int) : Bool := decide (0 ≤ p ∧ p < (c.parts.length : Int))
/-- A channel's defects, 5 to 11. -/
def chanBad (n : Nat) (k : Int) (x : List Int) : Bool :=
  if k = 5 then decide (fld x 0 ≠ 1 ∧ fld x 0 ≠ 2)
  else if k = 6 then decide (¬ (0 ≤ fld x 1 ∧ fld x 1 < (n : Int)) ∨ ¬ (0 ≤ fld x 2 ∧ fld x 2 < (n : Int)))
  else if k = 7 then decide (fld x 1 = fld x 2)
  else if k = 8 then decide (fld x 3 < 1 ∨ 16 < fld x 3)
  else if k = 9 then decide ((fld x 0 = 1 ∧ fld x 4 ≠ 0) ∨ (fld x 0 = 2 ∧ fld x 4 ≠ 1 ∧ fld x 4 ≠ 2 ∧ fld x 4 ≠ 4 ∧ fld x 4 ≠ 8))
  else if k = 10 then decide ((fld x 0 = 1 ∧ (fld x 5 < 0 ∨ 1048576 < fld x 5)) ∨ (fld x 0 = 2 ∧ fld x 5 ≠ 0))
  else if k = 11 then decide (fld x 0 = 1 ∧ fld x 6 ≠ 0) else false
def chansB (c : Cfg) (k : Int) : Bool := scan c.chans.length (fun i => chanBad c.parts.length k (row c.chans i))
/-- A window's defects, 14 to 16. -/
def win14 (c : Cfg) (f : Int) (x : List Int) : Bool := !partB c (fld x 0) || decide (fld (row c.parts (fld x 0).toNat) 0 ≠ f)
def win15 (len : Int) (x : List Int) : Bool := decide (fld x 1 < 0 ∨ fld x 2 < 1 ∨ len < fld x 1 ∨ len - fld x 1 < fld x 2)
def win16 (p x : List Int) : Bool := wordB (fld x 1) && wordB (fld p 1) && wordB (fld p 2) && decide (fld x 1 < fld p 1 + fld p 2)
def winsB (c : Cfg) (f : Int) (len : Int) (l : List (List Int)) (k : Int) : Bool :=
  if k = 12 then decide (len < 1 ∨ 64 < len)
  else if k = 13 then decide (16 < l.length)
  else if k = 14 then scan l.length (fun i => win14 c f (row l i))
  else if k = 15 then scan l.length (fun i => win15 len (row l i))
  else if k = 16 then scan l.length (fun i => decide (0 < i) && win16 (row l (i - 1)) (row l i)) else false
/-- Has a partition a window in the frame of its core? -/
def windowB (c : Cfg) (p : Nat) : Bool :=
  if fld (row c.parts p) 0 = 0 then scan c.win0.length (fun i => decide (fld (row c.win0 i) 0 = (p : Int)))
  else if fld (row c.parts p) 0 = 1 then scan c.win1.length (fun i => decide (fld (row c.win1 i) 0 = (p : Int))) else false
def partBad (c : Cfg) (k : Int) (i : Nat) : Bool :=
  if k = 2 then decide (fld (row c.parts i) 0 ≠ 0 ∧ fld (row c.parts i) 0 ≠ 1)
  else if k = 3 then decide (fld (row c.parts i) 1 < 0 ∨ 64 < fld (row c.parts i) 1)
  else if k = 17 then !windowB c i else false
/-- Has a configuration the defect k? -/
def holdsB (c : Cfg) (k : Int) : Bool :=
  if k = 1 then decide (c.parts.length < 1 ∨ 6 < c.parts.length)
  else if k = 2 ∨ k = 3 ∨ k = 17 then scan c.parts.length (fun i => partBad c k i)
  else if k = 4 then decide (8 < c.chans.length)
  else if 5 ≤ k ∧ k ≤ 11 then chansB c k
  else if 12 ≤ k ∧ k ≤ 16 then winsB c 0 c.len0 c.win0 k || winsB c 1 c.len1 c.win1 k else false
/-- All defects, rising. -/
def allB (c : Cfg) (n : Nat) : List Int := ((List.range n).map (fun i : Nat => (i : Int) + 1)).filter (holdsB c)
theorem chansB_any (c : Cfg) (k : Int) : chansB c k = c.chans.any (chanBad c.parts.length k) := by
  unfold chansB scan
  rw [Bool.eq_iff_iff, List.any_eq_true, List.any_eq_true]
  constructor
  · rintro ⟨i, hi, h⟩
    have hi := List.mem_range.1 hi
    exact ⟨c.chans[i], List.getElem_mem hi, by rw [← row_at (List.getElem?_eq_getElem hi)]; exact h⟩
  · rintro ⟨x, hx, h⟩
    obtain ⟨i, hi, rfl⟩ := List.getElem_of_mem hx
    exact ⟨i, List.mem_range.2 hi, by rw [row_at (List.getElem?_eq_getElem hi)]; exact h⟩
end Go.Proofs.YthcnooimegaloaaDoor
end
section
namespace Go.Proofs.YthcnooimegaloaaDoor
open Go.RowKit Go.Sort
set_option linter.unusedVariables false
set_option linter.unusedSimpArgs false
/-- How many words a channel's source span has. -/
def srcN (x : List Int) : Int := if fld x 0 = 1 then 11 + 4 * fld x 3 else 1 + fld x 4 + fld x 4 * fld x 3
/-- How many words the first partitions', channels' spans have together. -/
def privUp (l : List (List Int)) : Nat → Int
  | 0 => 0
  | n + 1 => privUp l n + fld (row l n) 1
def chanUp (l : List (List Int)) : Nat → Int
  | 0 => 0
  | n + 1 => chanUp l n + srcN (row l n) + 1
def beforeN (c : Cfg) (k : Nat) : Int := privUp c.parts c.parts.length + chanUp c.chans k
def acceptsB (c : Cfg) : Bool := decide (allB c 17 = [])
/-- What an accepted configuration has. -/
structure Accd (c : Cfg) : Prop where
  parts : 1 ≤ c.parts.length ∧ c.parts.length ≤ 6
  priv : ∀ i, i < c.parts.length → 0 ≤ fld (row c.parts i) 1 ∧ fld (row c.parts i) 1 ≤ 64
  chans : c.chans.length ≤ 8
  chan : ∀ i, i < c.chans.length → (fld (row c.chans i) 0 = 1 ∨ fld (row c.chans i) 0 = 2) ∧ 1 ≤ fld (row c.chans i) 3 ∧ fld (row c.chans i) 3 ≤ 16 ∧ 0 ≤ fld (row c.chans i) 4 ∧ fld (row c.chans i) 4 ≤ 8 ∧
    (fld (row c.chans i) 0 = 1 → fld (row c.chans i) 4 = 0) ∧ (fld (row c.chans i) 0 = 2 → 1 ≤ fld (row c.chans i) 4) ∧
    0 ≤ fld (row c.chans i) 1 ∧ fld (row c.chans i) 1 < (c.parts.length : Int) ∧ 0 ≤ fld (row c.chans i) 2 ∧ fld (row c.chans i) 2 < (c.parts.length : Int) ∧ fld (row c.chans i) 1 ≠ fld (row c.chans i) 2
theorem allB_nil {c : Cfg} (h : allB c 17 = []) {k : Int} (h1 : 1 ≤ k) (h2 : k ≤ 17) : holdsB c k = false := by
  cases hh : holdsB c k with
  | false => rfl
  | true =>
    exfalso
    have : k ∈ allB c 17 := by
      unfold allB
      rw [List.mem_filter]
      exact ⟨List.mem_map.2 ⟨(k - 1).toNat, List.mem_range.2 (by omega), by omega⟩, hh⟩
    rw [h] at this
    cases this
theorem accd_of {c : Cfg} (h : acceptsB c = true) : Accd c := by
  have hn : allB c 17 = [] := of_decide_eq_true h
  have b : ∀ k : Int, 1 ≤ k → k ≤ 17 → holdsB c k = false := fun k => allB_nil hn
  have b1 : ¬ (c.parts.length < 1 ∨ 6 < c.parts.length) := of_decide_eq_false (b 1 (by omega) (by omega))
  have b3 : ∀ i, i < c.parts.length → partBad c 3 i = false := scan_false.1 (b 3 (by omega) (by omega))
  have b4 : ¬ (8 < c.chans.length) := of_decide_eq_false (b 4 (by omega) (by omega))
  have bc : ∀ k : Int, 5 ≤ k → k ≤ 11 → ∀ i, i < c.chans.length → chanBad c.parts.length k (row c.chans i) = false := fun k h1 h2 => by
    have := b k (by omega) (by omega)
    unfold holdsB at this
    rw [if_neg (by omega), if_neg (by omega), if_neg (by omega), if_pos ⟨h1, h2⟩] at this
    exact scan_false.1 this
  refine ⟨by omega, fun i hi => ?_, by omega, fun i hi => ?_⟩
  · have := of_decide_eq_false (show decide (fld (row c.parts i) 1 < 0 ∨ 64 < fld (row c.parts i) 1) = false from b3 i hi)
    omega
  · have c5 := of_decide_eq_false (show decide (fld (row c.chans i) 0 ≠ 1 ∧ fld (row c.chans i) 0 ≠ 2) = false from bc 5 (by omega) (by omega) i hi)
    have c6 := of_decide_eq_false (show decide (¬ (0 ≤ fld (row c.chans i) 1 ∧ fld (row c.chans i) 1 < (c.parts.length : Int)) ∨ ¬ (0 ≤ fld (row c.chans i) 2 ∧ fld (row c.chans i) 2 < (c.parts.length : Int))) = false from bc 6 (by omega) (by omega) i hi)
    have c7 := of_decide_eq_false (show decide (fld (row c.chans i) 1 = fld (row c.chans i) 2) = false from bc 7 (by omega) (by omega) i hi)
    have c8 := of_decide_eq_false (show decide (fld (row c.chans i) 3 < 1 ∨ 16 < fld (row c.chans i) 3) = false from bc 8 (by omega) (by omega) i hi)
    have c9 := of_decide_eq_false (show decide ((fld (row c.chans i) 0 = 1 ∧ fld (row c.chans i) 4 ≠ 0) ∨ (fld (row c.chans i) 0 = 2 ∧ fld (row c.chans i) 4 ≠ 1 ∧ fld (row c.chans i) 4 ≠ 2 ∧ fld (row c.chans i) 4 ≠ 4 ∧ fld (row c.chans i) 4 ≠ 8)) = false from bc 9 (by omega) (by omega) i hi)
    omega
theorem srcN_in {x : List Int} (h0 : fld x 0 = 1 ∨ fld x 0 = 2) (h1 : 1 ≤ fld x 3) (h2 : fld x 3 ≤ 16) (h3 : 0 ≤ fld x 4) (h4 : fld x 4 ≤ 8) : 1 ≤ srcN x ∧ srcN x ≤ 137 := by
  have h5 : 0 ≤ fld x 4 * fld x 3 := Int.mul_nonneg h3 (by omega)
  have h6 : fld x 4 * fld x 3 ≤ 8 * 16 := Int.mul_le_mul h4 h2 (by omega) (by omega)
  unfold srcN
  split <;> omega
theorem privUp_in {c : Cfg} (h : Accd c) : ∀ n, n ≤ c.parts.length → 0 ≤ privUp c.parts n ∧ privUp c.parts n ≤ 64 * (n : Int)
  | 0, _ => ⟨Int.le_refl _, Int.le_refl _⟩
  | n + 1, hn => by
    have ih := privUp_in h n (by omega)
    have hp := h.priv n (by omega)
    show 0 ≤ privUp c.parts n + fld (row c.parts n) 1 ∧ privUp c.parts n + fld (row c.parts n) 1 ≤ 64 * ((n + 1 : Nat) : Int)
    omega
theorem chanUp_in {c : Cfg} (h : Accd c) : ∀ n, n ≤ c.chans.length → 0 ≤ chanUp c.chans n ∧ chanUp c.chans n ≤ 138 * (n : Int)
  | 0, _ => ⟨Int.le_refl _, Int.le_refl _⟩
  | n + 1, hn => by
    have ih := chanUp_in h n (by omega)
    obtain ⟨a, b, c', d, e, _⟩ := h.chan n (by omega)
    have hs := srcN_in a b c' d e
    show 0 ≤ chanUp c.chans n + srcN (row c.chans n) + 1 ∧ chanUp c.chans n + srcN (row c.chans n) + 1 ≤ 138 * ((n + 1 : Nat) : Int)
    omega
theorem beforeN_in {c : Cfg} (h : Accd c) {k : Nat} (hk : k ≤ c.chans.length) : 0 ≤ beforeN c k ∧ beforeN c k ≤ 1488 := by
  have h1 := privUp_in h c.parts.length (Nat.le_refl _)
  have h2 := chanUp_in h k hk
  have h3 := h.parts
  have h4 := h.chans
  unfold beforeN
  omega
end Go.Proofs.YthcnooimegaloaaDoor
end
section
namespace Go.Proofs.YthcnooimegaloaaDoor
open Go.RowKit Go.Sort Go.ChangeShapes Go.WideShapes
set_option linter.unusedVariables false
set_option linter.unusedSimpArgs false
theorem Tryd.infoS : (Tryd.prog.info? 119).map (fun i => (i.size)) = some 2 := by kernel_rfl
theorem results_cell_span {fn : Func} {p : Tmp} (h : fn.results = #[.cell p 119]) (tmps : Array Value) (w : World) (g : Nat) (a b : Int)
    (hp : tmps.getD p undef = .pointer (some ⟨g, 0, none⟩)) (h0 : w.cell? ⟨g, 0, none⟩ = some (.int .i64 a)) (h1 : w.cell? ⟨g, 1, none⟩ = some (.int .i64 b)) : (results fn tmps).run Tryd.prog w = .ok (.agg #[.int .i64 a, .int .i64 b]) w := by
  have hp' : tmps[p]?.getD undef = .pointer (some ⟨g, 0, none⟩) := by simpa using hp
  obtain ⟨i, hi, hs⟩ : ∃ i, Tryd.prog.info? 119 = some i ∧ i.size = 2 := by
    have h := Tryd.infoS
    cases hh : Tryd.prog.info? 119 with
    | none => rw [hh] at h; cases h
    | some i => rw [hh] at h; exact ⟨i, rfl, by simpa using h⟩
  simp [results, h, hp', asAddr, loadVar, isAgg, run_underlying Tryd.underlying119, sizeOf, typeInfo, hi, hs]
  go_simp
end Go.Proofs.YthcnooimegaloaaDoor
end
section
namespace Go.Proofs.YthcnooimegaloaaDoor
open Go.RowKit Go.Sort Go.ChangeShapes Go.WideShapes
set_option linter.unusedVariables false
set_option linter.unusedSimpArgs false
/-- A partition's private span, From and Size; noughts, if there is none. -/
def privSpan (c : Cfg) (p : Int) : Int × Int := if acceptsB c = true ∧ 0 ≤ p ∧ p < (c.parts.length : Int) then (privUp c.parts p.toNat, fld (row c.parts p.toNat) 1) else (0, 0)
end Go.Proofs.YthcnooimegaloaaDoor
end
section
namespace Go.Proofs.YthcnooimegaloaaDoor
open Go.RowKit Go.Sort
set_option linter.unusedVariables false
set_option linter.unusedSimpArgs false
/-- A request's word. -/
def nameS (op : Int) : ByteArray :=
  if op = 1 then ⟨#[99, 114, 101, 97, 116, 101]⟩ else
  if op = 2 then ⟨#[110, 111, 114, 109, 97, 108]⟩ else
  if op = 3 then ⟨#[119, 114, 105, 116, 101]⟩ else
  if op = 4 then ⟨#[114, 101, 97, 100]⟩ else
  if op = 5 then ⟨#[115, 101, 110, 100]⟩ else
  if op = 6 then ⟨#[114, 101, 99, 101, 105, 118, 101]⟩ else
  if op = 7 then ⟨#[115, 116, 97, 116, 117, 115]⟩ else
  if op = 8 then ⟨#[112, 101, 101, 107]⟩ else
  if op = 9 then ⟨#[112, 111, 107, 101]⟩ else ⟨#[]⟩
theorem nameS_out {op : Int} (h : op < 1 ∨ 9 < op) : nameS op = ⟨#[]⟩ := by
  unfold nameS
  rw [if_neg (by omega)]; rw [if_neg (by omega)]; rw [if_neg (by omega)]; rw [if_neg (by omega)]; rw [if_neg (by omega)]; rw [if_neg (by omega)]; rw [if_neg (by omega)]; rw [if_neg (by omega)]; rw [if_neg (by omega)]
/-- Is there such a port? -/
def portB (c : Cfg) (port : Int) : Bool := acceptsB c && decide (0 ≤ port ∧ port < 2 * (c.chans.length : Int))
/-- A port's channel, whose it is, is it at the source. -/
def portK (c : Cfg) (port : Int) : Int := if portB c port = true then port / 2 else 0
def portS (c : Cfg) (port : Int) : Bool := portB c port && decide (port % 2 = 0)
def portP (c : Cfg) (port : Int) : Int := if portB c port = true then fld (row c.chans (port / 2).toNat) (if port % 2 = 0 then 1 else 2) else 0
theorem port_none {c : Cfg} {port : Int} (h : portB c port = false) : portK c port = 0 ∧ portS c port = false ∧ portP c port = 0 := by
  unfold portK portS portP
  rw [h]
  exact ⟨rfl, rfl, rfl⟩
theorem port_even {c : Cfg} {port x0 x1 x2 x3 x4 x5 x6 : Int} {k : Nat} (h : portB c port = true) (hk : port = 2 * (k : Int)) (hx : c.chans[k]? = some [x0, x1, x2, x3, x4, x5, x6]) : portK c port = (k : Int) ∧ portS c port = true ∧ portP c port = x1 := by
  have h2 : port % 2 = 0 := by omega
  have h3 : port / 2 = (k : Int) := by omega
  unfold portK portS portP
  rw [h, if_pos rfl, if_pos rfl, h3, if_pos h2, Int.toNat_natCast, row_at hx, decide_eq_true h2]
  exact ⟨rfl, rfl, rfl⟩
theorem port_odd {c : Cfg} {port x0 x1 x2 x3 x4 x5 x6 : Int} {k : Nat} (h : portB c port = true) (hk : port = 2 * (k : Int) + 1) (hx : c.chans[k]? = some [x0, x1, x2, x3, x4, x5, x6]) : portK c port = (k : Int) ∧ portS c port = false ∧ portP c port = x2 := by
  have h2 : ¬ port % 2 = 0 := by omega
  have h3 : port / 2 = (k : Int) := by omega
  unfold portK portS portP
  rw [h, if_pos rfl, if_pos rfl, h3, if_neg h2, Int.toNat_natCast, row_at hx, decide_eq_false h2]
  exact ⟨rfl, rfl, rfl⟩
/-- A port of an accepted configuration. -/
theorem port_of {c : Cfg} {port : Int} (h : portB c port = true) : acceptsB c = true ∧ ∃ k : Nat, k < c.chans.length ∧ (port = 2 * (k : Int) ∨ port = 2 * (k : Int) + 1) := by
  unfold portB at h
  rw [Bool.and_eq_true, decide_eq_true_eq] at h
  obtain ⟨h1, h2, h3⟩ := h
  exact ⟨h1, (port / 2).toNat, by omega, by omega⟩
end Go.Proofs.YthcnooimegaloaaDoor
end
section
namespace Go.Proofs.YthcnooimegaloaaDoor
open Go.RowKit Go.Sort Go.ChangeShapes Go.WideShapes
set_option linter.unusedVariables false
set_option linter.unusedSimpArgs false
/-- A value of some cells in a box of its own. -/
theorem box_new (w : World) (cs : Array Value) (t : TypeId) : ∃ W, Hid (W = w.alloc (.cells cs t)) ∧ Below w.heap.size w W ∧ w.heap.size < W.heap.size ∧ ∀ w', Below W.heap.size W w' → w'.heap[w.heap.size]? = some (.cells cs t (0, 0)) := by
  refine ⟨_, rfl, (Below.refl _ _).alloc (Nat.le_refl _) _, by simp, fun w' hb => ?_⟩
  exact (hb.block w.heap.size (by simp)).trans (heap_alloc_new w _)
def madeB (made : List Int) (port : Int) : Bool := decide (port ∈ made)
theorem made_hit {made : List Int} {port : Int} {i : Nat} (hi : i < made.length) (h : made.getD i 0 = port) : madeB made port = true := decide_eq_true (by rw [← h, List.getD_eq_getElem?_getD]; simp [hi])
theorem made_none {made : List Int} {port : Int} (h : ∀ i, i < made.length → made.getD i 0 ≠ port) : madeB made port = false := decide_eq_false (fun hm => by
  obtain ⟨i, hi, he⟩ := List.getElem_of_mem hm
  exact h i hi (by rw [List.getD_eq_getElem?_getD]; simp [hi, he]))
/-- A standing by value lies so: the ports that were made. -/
def SIn (w : World) (made : List Int) (ma : Option Addr) : Prop := IntRowK .i64 w w.heap.size ma made ∧ made.length ≤ 1000000
theorem SIn.later {w w' : World} {made : List Int} {ma : Option Addr} (h : SIn w made ma) (hb : Below w.heap.size w w') : SIn w' made ma := ⟨(h.1.below hb).more hb.size, h.2⟩
end Go.Proofs.YthcnooimegaloaaDoor
end
section
namespace Go.Proofs.YthcnooimegaloaaDoor
open Go.RowKit Go.Sort Go.ChangeShapes Go.WideShapes
set_option linter.unusedVariables false
set_option linter.unusedSimpArgs false
theorem privSpan_in {c : Cfg} (wx : CfgWf c) (p : Int) : 0 ≤ (privSpan c p).1 ∧ (privSpan c p).1 ≤ 384 ∧ 0 ≤ (privSpan c p).2 ∧ (privSpan c p).2 ≤ 64 := by
  unfold privSpan
  split
  · rename_i h
    obtain ⟨h1, h2, h3⟩ := h
    have ha := accd_of h1
    have hp := privUp_in ha p.toNat (by omega)
    have hq := ha.priv p.toNat (by omega)
    have hl := ha.parts
    exact ⟨hp.1, by omega, hq.1, hq.2⟩
  · exact ⟨Int.le_refl _, by decide, Int.le_refl _, by decide⟩
/-- Is an address in a partition's private span? -/
def privB (c : Cfg) (p a : Int) : Bool := decide ((privSpan c p).1 ≤ a ∧ a - (privSpan c p).1 < (privSpan c p).2)
end Go.Proofs.YthcnooimegaloaaDoor
end
section
namespace Go.Proofs.YthcnooimegaloaaDoor
open Go.RowKit Go.Sort
set_option linter.unusedVariables false
set_option linter.unusedSimpArgs false
/-- Is the op one that this kind of channel, or this side of it, doesn't know? -/
def modeB (kind : Int) (src : Bool) (op : Int) : Bool := (decide (op = 3) && (decide (kind ≠ 1) || !src)) || (decide (op = 4) && (decide (kind ≠ 1) || src)) || (decide (op = 5) && (decide (kind ≠ 2) || !src)) || (decide (op = 6) && (decide (kind ≠ 2) || src))
/-- Behind the rows that ask for the port and for normal work. -/
def talkT (kind : Int) (src : Bool) (words op : Int) (n : Nat) : Int :=
  if modeB kind src op = true then 5 else if (op = 3 ∨ op = 5) ∧ n = 0 then 3 else if (op = 3 ∨ op = 5) ∧ words < (n : Int) then 4 else 0
def hasB (c : Cfg) (sp : Int) (made : List Int) (port : Int) : Bool := portB c port && (decide (portP c port = sp) && madeB made port)
def talkN (c : Cfg) (sp : Int) (sn : Bool) (made : List Int) (op port : Int) (n : Nat) : Int :=
  if hasB c sp made port = false then 3 else if sn = false then 5 else talkT (fld (row c.chans (portK c port).toNat) 0) (portS c port) (fld (row c.chans (portK c port).toNat) 3) op n
/-- The code of the first row that holds; 0: none does. -/
def refusedN (c : Cfg) (sp : Int) (sn : Bool) (made : List Int) (op port ad : Int) (n : Nat) : Int :=
  if acceptsB c = false ∨ sp < 0 ∨ (c.parts.length : Int) ≤ sp then 4
  else if op = 1 then (if portB c port = false ∨ portP c port ≠ sp then 4 else if madeB made port = true then 1 else if sn = true then 5 else 0)
  else if op = 2 then (if sn = true then 5 else 0)
  else if 3 ≤ op ∧ op ≤ 7 then talkN c sp sn made op port n
  else if op = 8 ∨ op = 9 then (if op = 9 ∧ n ≠ 1 then 3 else if privB c sp ad = false then 6 else 0)
  else 3
def refT (c : Cfg) (sp : Int) (sn : Bool) (made : List Int) (op port ad : Int) (n : Nat) : Int :=
  if op = 1 then (if portB c port = false ∨ portP c port ≠ sp then 4 else if madeB made port = true then 1 else if sn = true then 5 else 0)
  else if op = 2 then (if sn = true then 5 else 0)
  else if 3 ≤ op ∧ op ≤ 7 then talkN c sp sn made op port n
  else if op = 8 ∨ op = 9 then (if op = 9 ∧ n ≠ 1 then 3 else if privB c sp ad = false then 6 else 0)
  else 3
theorem refused_out {c : Cfg} {sp : Int} {sn : Bool} {made : List Int} {op port ad : Int} {n : Nat} (h : acceptsB c = false ∨ sp < 0 ∨ (c.parts.length : Int) ≤ sp) : refusedN c sp sn made op port ad n = 4 := by unfold refusedN; rw [if_pos h]
theorem refused_on {c : Cfg} {sp : Int} {sn : Bool} {made : List Int} {op port ad : Int} {n : Nat} (h1 : acceptsB c = true) (h2 : ¬ sp < 0) (h3 : ¬ (c.parts.length : Int) ≤ sp) : refusedN c sp sn made op port ad n = refT c sp sn made op port ad n := by
  unfold refusedN
  rw [if_neg (by rw [h1]; exact fun h => h.elim (fun e => by cases e) (fun h => h.elim h2 h3))]
  rfl
theorem portK_of {c : Cfg} {port : Int} (h : portB c port = true) : ∃ k : Nat, k < c.chans.length ∧ portK c port = (k : Int) := by
  obtain ⟨_, k, hk, h1⟩ := port_of h
  refine ⟨k, hk, ?_⟩
  unfold portK
  rw [if_pos h]
  omega
end Go.Proofs.YthcnooimegaloaaDoor
end
