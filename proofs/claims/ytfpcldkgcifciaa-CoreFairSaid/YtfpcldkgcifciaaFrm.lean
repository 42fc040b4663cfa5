/- Frames, in plain lists of numbers. No condition. -/
import Derived.Test.YtfpcldkgcifciaaDef
namespace Go.Proofs.Ytfpcldkgcifciaa
open Go.RowKit Go.Sort
set_option linter.unusedVariables false
set_option linter.unusedSimpArgs false

/-- Where the window ahead of the i-th one ends. -/
def endAt (l : List (List Int)) : Nat → Int
  | 0 => 0
  | i + 1 => fld (row l i) 1 + fld (row l i) 2
def okW (len : Int) (l : List (List Int)) (i : Nat) : Bool := decide (endAt l i ≤ fld (row l i) 1 ∧ 1 ≤ fld (row l i) 2 ∧ fld (row l i) 2 ≤ len - fld (row l i) 1)
def badW (len : Int) (l : List (List Int)) (i : Nat) : Bool := !okW len l i
def headB (len : Int) (l : List (List Int)) : Bool := decide (1 ≤ len ∧ len ≤ 64 ∧ l.length ≤ 16)
/-- Is the frame right? -/
def rightB (len : Int) (l : List (List Int)) : Bool := headB len l && !scan l.length (badW len l)
theorem right_head {len : Int} {l : List (List Int)} (h : headB len l = false) : rightB len l = false := by unfold rightB; rw [h]; rfl
theorem right_bad {len : Int} {l : List (List Int)} (h : scan l.length (badW len l) = true) : rightB len l = false := by unfold rightB; rw [h]; simp
theorem right_all {len : Int} {l : List (List Int)} (h : headB len l = true) (hs : scan l.length (badW len l) = false) : rightB len l = true := by unfold rightB; rw [h, hs]; rfl
theorem badW_at {len : Int} {l : List (List Int)} {i : Nat} {x0 x1 x2 : Int} (h : l[i]? = some [x0, x1, x2]) : badW len l i = !decide (endAt l i ≤ x1 ∧ 1 ≤ x2 ∧ x2 ≤ len - x1) := by
  unfold badW okW; rw [row_at h]; rfl
theorem endAt_succ {l : List (List Int)} {i : Nat} {x0 x1 x2 : Int} (h : l[i]? = some [x0, x1, x2]) : endAt l (i + 1) = x1 + x2 := by
  show fld (row l i) 1 + fld (row l i) 2 = _
  rw [row_at h]; rfl
theorem end_in {len : Int} {l : List (List Int)} (hl : 1 ≤ len) : ∀ {i : Nat}, scan i (badW len l) = false → 0 ≤ endAt l i ∧ endAt l i ≤ len
  | 0, _ => ⟨Int.le_refl _, by show 0 ≤ len; omega⟩
  | i + 1, h => by
    have h1 := scan_false.1 h i (by omega)
    have ih := end_in (len := len) (l := l) hl (i := i) (scan_false.2 (fun j hj => scan_false.1 h j (by omega)))
    unfold badW okW at h1
    simp only [Bool.not_eq_false', decide_eq_true_eq] at h1
    show 0 ≤ fld (row l i) 1 + fld (row l i) 2 ∧ fld (row l i) 1 + fld (row l i) 2 ≤ len
    omega
/-- What a right frame has. -/
structure Rt (len : Int) (l : List (List Int)) : Prop where
  lo : 1 ≤ len
  hi : len ≤ 64
  few : l.length ≤ 16
  ok : ∀ i, i < l.length → 0 ≤ endAt l i ∧ endAt l i ≤ fld (row l i) 1 ∧ 1 ≤ fld (row l i) 2 ∧ fld (row l i) 1 + fld (row l i) 2 ≤ len
theorem right_rt {len : Int} {l : List (List Int)} (h : rightB len l = true) : Rt len l := by
  unfold rightB at h
  rw [Bool.and_eq_true, Bool.not_eq_true'] at h
  obtain ⟨h1, h2⟩ := h
  obtain ⟨a, b, c⟩ := of_decide_eq_true h1
  refine ⟨a, b, c, fun i hi => ?_⟩
  have h3 := scan_false.1 h2 i hi
  have h4 := end_in (len := len) (l := l) a (i := i) (scan_false.2 (fun j hj => scan_false.1 h2 j (by omega)))
  unfold badW okW at h3
  simp only [Bool.not_eq_false', decide_eq_true_eq] at h3
  omega
/-- A window's end is not behind a later one's start. -/
theorem Rt.chain {len : Int} {l : List (List Int)} (h : Rt len l) {i : Nat} : ∀ {j : Nat}, i < j → j < l.length → fld (row l i) 1 + fld (row l i) 2 ≤ fld (row l j) 1
  | 0, h1, _ => by omega
  | j + 1, h1, h2 => by
    have h3 := h.ok (j + 1) h2
    have h4 := h.ok j (by omega)
    have e : endAt l (j + 1) = fld (row l j) 1 + fld (row l j) 2 := rfl
    by_cases hij : i = j
    · subst hij; omega
    · have := h.chain (i := i) (j := j) (by omega) (by omega)
      omega
/-- Is a window open, entered, at a place? -/
def openB (p : Int) (x : List Int) : Bool := decide (fld x 1 ≤ p ∧ p < fld x 1 + fld x 2)
def entB (p : Int) (x : List Int) : Bool := decide (p = fld x 1)
/-- The first place that has it. -/
def firstN (f : Nat → Bool) (n : Nat) : Option Nat := (List.range n).find? f
theorem firstN_iff {f : Nat → Bool} {n i : Nat} : firstN f n = some i ↔ i < n ∧ f i = true ∧ ∀ j, j < i → f j = false := by
  unfold firstN
  rw [List.find?_range_eq_some]
  constructor
  · rintro ⟨h1, h2, h3⟩; exact ⟨by simpa using h2, h1, fun j hj => by simpa using h3 j hj⟩
  · rintro ⟨h1, h2, h3⟩; exact ⟨h2, by simpa using h1, fun j hj => by simpa using h3 j hj⟩
theorem firstN_some {f : Nat → Bool} {n i : Nat} (h1 : i < n) (h2 : f i = true) (h3 : ∀ j, j < i → f j = false) : firstN f n = some i := firstN_iff.2 ⟨h1, h2, h3⟩
theorem firstN_none {f : Nat → Bool} {n : Nat} (h : ∀ j, j < n → f j = false) : firstN f n = none := by
  cases e : firstN f n with
  | none => rfl
  | some i => obtain ⟨h1, h2, _⟩ := firstN_iff.1 e; rw [h i h1] at h2; cases h2
theorem firstN_ex {f : Nat → Bool} : ∀ {n i : Nat}, i < n → f i = true → ∃ j, firstN f n = some j := by
  intro n i h1 h2
  cases e : firstN f n with
  | some j => exact ⟨j, rfl⟩
  | none =>
    unfold firstN at e
    rw [List.find?_eq_none] at e
    exact absurd h2 (e i (List.mem_range.2 h1))
def whoI (is : Int → List Int → Bool) (l : List (List Int)) (p : Int) : Option Nat := firstN (fun i => is p (row l i)) l.length
/-- The Part of the first window of which it holds. -/
def whoO (is : Int → List Int → Bool) (l : List (List Int)) (p : Int) : Option Int := (whoI is l p).map (fun i => fld (row l i) 0)
theorem ent_open {len : Int} {l : List (List Int)} (h : Rt len l) {p : Int} {i : Nat} (hi : i < l.length) (he : entB p (row l i) = true) : openB p (row l i) = true := by
  have := h.ok i hi
  have e := of_decide_eq_true he
  exact decide_eq_true (by omega)
theorem open_one {len : Int} {l : List (List Int)} (h : Rt len l) {p : Int} {i j : Nat} (hi : i < l.length) (hj : j < l.length) (h1 : openB p (row l i) = true) (h2 : openB p (row l j) = true) : i = j := by
  have a := of_decide_eq_true h1
  have b := of_decide_eq_true h2
  by_cases e : i = j
  · exact e
  · by_cases e2 : i < j
    · have := h.chain e2 hj; omega
    · have := h.chain (i := j) (j := i) (by omega) hi; omega
/-- What holds of one window at most. -/
def One (is : Int → List Int → Bool) (l : List (List Int)) : Prop := ∀ p i j, i < l.length → j < l.length → is p (row l i) = true → is p (row l j) = true → i = j
theorem one_open {len : Int} {l : List (List Int)} (h : Rt len l) : One openB l := fun _ _ _ hi hj h1 h2 => open_one h hi hj h1 h2
theorem one_ent {len : Int} {l : List (List Int)} (h : Rt len l) : One entB l := fun _ _ _ hi hj h1 h2 => open_one h hi hj (ent_open h hi h1) (ent_open h hj h2)
theorem who_iff {is : Int → List Int → Bool} {l : List (List Int)} (h : One is l) {p q : Int} : whoO is l p = some q ↔ ∃ i, i < l.length ∧ is p (row l i) = true ∧ fld (row l i) 0 = q := by
  unfold whoO whoI
  constructor
  · intro e
    rw [Option.map_eq_some_iff] at e
    obtain ⟨i, h1, h2⟩ := e
    obtain ⟨h3, h4, _⟩ := firstN_iff.1 h1
    exact ⟨i, h3, h4, h2⟩
  · rintro ⟨i, h1, h2, h3⟩
    obtain ⟨j, hj⟩ := firstN_ex (f := fun i => is p (row l i)) h1 h2
    obtain ⟨h4, h5, _⟩ := firstN_iff.1 hj
    have := h p i j h1 h4 h2 h5
    subst this
    rw [hj]; simp [h3]
theorem ent_none {len : Int} {l : List (List Int)} (h : Rt len l) {p : Int} (hn : whoI openB l p = none) : whoI entB l p = none := by
  cases e : whoI entB l p with
  | none => rfl
  | some i =>
    obtain ⟨h1, h2, _⟩ := firstN_iff.1 e
    obtain ⟨j, hj⟩ := firstN_ex (f := fun i => openB p (row l i)) h1 (ent_open h h1 h2)
    rw [show whoI openB l p = some j from hj] at hn; cases hn
theorem ent_some {len : Int} {l : List (List Int)} (h : Rt len l) {p : Int} {i : Nat} (hn : whoI openB l p = some i) : whoI entB l p = if fld (row l i) 1 = p then some i else none := by
  obtain ⟨h1, h2, h3⟩ := firstN_iff.1 hn
  by_cases e : fld (row l i) 1 = p
  · rw [if_pos e]
    have he : entB p (row l i) = true := decide_eq_true e.symm
    obtain ⟨j, hj⟩ := firstN_ex (f := fun i => entB p (row l i)) h1 he
    obtain ⟨h4, h5, _⟩ := firstN_iff.1 hj
    rw [open_one h h1 h4 h2 (ent_open h h4 h5)]
    exact hj
  · rw [if_neg e]
    refine firstN_none (fun j hj => ?_)
    cases e2 : entB p (row l j) with
    | false => rfl
    | true =>
      have := open_one h h1 hj h2 (ent_open h hj e2)
      subst this
      exact absurd (of_decide_eq_true e2).symm e
theorem who_ent {len : Int} {l : List (List Int)} (h : Rt len l) {p q : Int} (he : whoO entB l p = some q) : whoO openB l p = some q := by
  obtain ⟨i, h1, h2, h3⟩ := (who_iff (one_ent h)).1 he
  exact (who_iff (one_open h)).2 ⟨i, h1, ent_open h h1 h2, h3⟩
/-- May it be asked of a tick? -/
def mayB (len : Int) (l : List (List Int)) (t : Int) : Bool := rightB len l && decide (0 ≤ t ∧ t ≤ 1099511627776)
theorem may_rt {len : Int} {l : List (List Int)} {t : Int} (h : mayB len l t = true) : Rt len l ∧ 0 ≤ t ∧ t ≤ 1099511627776 ∧ rightB len l = true := by
  unfold mayB at h
  rw [Bool.and_eq_true] at h
  exact ⟨right_rt h.1, (of_decide_eq_true h.2).1, (of_decide_eq_true h.2).2, h.1⟩
/-- Whose time it is, who enters. -/
def atO (is : Int → List Int → Bool) (len : Int) (l : List (List Int)) (t : Int) : Option Int := if mayB len l t = true then whoO is l (t % len) else none
/-- Does it hold of a window of that part? -/
def hitB (is : Int → List Int → Bool) (len : Int) (l : List (List Int)) (part n : Int) : Bool := decide (whoO is l (n % len) = some part)
/-- The ticks of which it holds, among n from a on. -/
def upL (is : Int → List Int → Bool) (len : Int) (l : List (List Int)) (part a : Int) (n : Nat) : List Int := ((List.range n).map (fun k : Nat => a + (k : Int))).filter (hitB is len l part)
theorem upL_next (is : Int → List Int → Bool) (len : Int) (l : List (List Int)) (part a : Int) (n : Nat) : upL is len l part a (n + 1) = upL is len l part a n ++ (if hitB is len l part (a + n) = true then [a + (n : Int)] else []) := by
  simp only [upL, List.range_succ, List.map_append, List.map_cons, List.map_nil, List.filter_append]
  congr 1
  by_cases h : hitB is len l part (a + n) = true <;> simp [h]
theorem upL_len (is : Int → List Int → Bool) (len : Int) (l : List (List Int)) (part a : Int) (n : Nat) : (upL is len l part a n).length ≤ n := by
  unfold upL
  refine Nat.le_trans (List.length_filter_le _ _) ?_
  simp
theorem upL_mem {is : Int → List Int → Bool} {len : Int} {l : List (List Int)} {part a x : Int} {n : Nat} : x ∈ upL is len l part a n ↔ (∃ k : Nat, k < n ∧ x = a + (k : Int)) ∧ hitB is len l part x = true := by
  unfold upL
  rw [List.mem_filter, List.mem_map]
  constructor
  · rintro ⟨⟨k, hk, rfl⟩, h⟩; exact ⟨⟨k, List.mem_range.1 hk, rfl⟩, h⟩
  · rintro ⟨⟨k, hk, rfl⟩, h⟩; exact ⟨⟨k, List.mem_range.2 hk, rfl⟩, h⟩
/-- The next entry behind a tick. -/
def nextO (len : Int) (l : List (List Int)) (part t : Int) : Option Int := if mayB len l t = true then (upL entB len l part (t + 1) len.toNat).head? else none
theorem next_none {len : Int} {l : List (List Int)} {part t : Int} (h : mayB len l t = false) : nextO len l part t = none := by unfold nextO; rw [if_neg (by rw [h]; decide)]
theorem next_all {len : Int} {l : List (List Int)} {part t : Int} {n : Nat} (hn : len.toNat = n) (h : upL entB len l part (t + 1) n = []) : nextO len l part t = none := by
  unfold nextO; split
  · rw [hn, h]; rfl
  · rfl
theorem upL_more {is : Int → List Int → Bool} {len : Int} {l : List (List Int)} {part a : Int} : ∀ {m k : Nat}, k ≤ m → ∃ r, upL is len l part a m = upL is len l part a k ++ r
  | 0, k, h => ⟨[], by rw [show k = 0 by omega]; simp⟩
  | m + 1, k, h => by
    by_cases e : k = m + 1
    · exact ⟨[], by rw [e]; simp⟩
    · obtain ⟨r, hr⟩ := upL_more (is := is) (len := len) (l := l) (part := part) (a := a) (m := m) (k := k) (by omega)
      exact ⟨r ++ _, by rw [upL_next, hr, List.append_assoc]⟩
theorem next_hit {len : Int} {l : List (List Int)} {part t : Int} {k : Nat} (hm : mayB len l t = true) (hk : k < len.toNat) (h0 : upL entB len l part (t + 1) k = []) (h : hitB entB len l part (t + 1 + k) = true) : nextO len l part t = some (t + 1 + k) := by
  unfold nextO
  rw [if_pos hm]
  obtain ⟨r, hr⟩ := upL_more (is := entB) (len := len) (l := l) (part := part) (a := t + 1) (m := len.toNat) (k := k + 1) (by omega)
  rw [hr, upL_next, h0, if_pos h]; rfl
theorem next_some {len : Int} {l : List (List Int)} {part t n : Int} (h : nextO len l part t = some n) : mayB len l t = true ∧ t < n ∧ n - t ≤ len ∧ ∀ u, t < u → u < n → atO entB len l u ≠ some part := by
  unfold nextO at h
  split at h
  · rename_i hm
    obtain ⟨hr, h0, h1, h2⟩ := may_rt hm
    have hmem : n ∈ upL entB len l part (t + 1) len.toNat := List.mem_of_head? h
    obtain ⟨⟨k, hk, e⟩, hh⟩ := upL_mem.1 hmem
    have hlo := hr.lo
    refine ⟨hm, by omega, by omega, fun u hu1 hu2 hc => ?_⟩
    have hh2 : hitB entB len l part u = true := by
      unfold atO at hc
      split at hc
      · exact decide_eq_true hc
      · cases hc
    obtain ⟨j, hj⟩ : ∃ j : Nat, u = t + 1 + (j : Int) := ⟨(u - t - 1).toNat, by omega⟩
    have hjk : j < k := by omega
    obtain ⟨r, hr2⟩ := upL_more (is := entB) (len := len) (l := l) (part := part) (a := t + 1) (m := len.toNat) (k := j + 1) (by omega)
    have hmem2 : u ∈ upL entB len l part (t + 1) (j + 1) := upL_mem.2 ⟨⟨j, by omega, hj⟩, hh2⟩
    rw [hr2] at h
    cases hl : upL entB len l part (t + 1) (j + 1) with
    | nil => rw [hl] at hmem2; cases hmem2
    | cons y ys =>
      rw [hl] at h
      simp at h
      subst h
      have : y ∈ upL entB len l part (t + 1) (j + 1) := by rw [hl]; simp
      obtain ⟨⟨i, hi, e3⟩, _⟩ := upL_mem.1 this
      omega
  · cases h
theorem who_hit {is : Int → List Int → Bool} {l : List (List Int)} {p : Int} {i : Nat} (hs : scan i (fun j => is p (row l j)) = false) (hi : i < l.length) (h : is p (row l i) = true) : whoI is l p = some i :=
  firstN_some hi h (fun j hj => scan_false.1 hs j hj)
theorem who_hitO {is : Int → List Int → Bool} {l : List (List Int)} {p x0 x1 x2 : Int} {i : Nat} (hs : scan i (fun j => is p (row l j)) = false) (hx : l[i]? = some [x0, x1, x2]) (h : is p [x0, x1, x2] = true) : whoO is l p = some x0 := by
  have e := row_at hx
  unfold whoO
  rw [who_hit hs (List.getElem?_eq_some_iff.1 hx).1 (by rw [e]; exact h)]
  simp [e, fld]
theorem who_miss {is : Int → List Int → Bool} {l : List (List Int)} {p : Int} (hs : scan l.length (fun j => is p (row l j)) = false) : whoI is l p = none := firstN_none (fun j hj => scan_false.1 hs j hj)
theorem who_missO {is : Int → List Int → Bool} {l : List (List Int)} {p : Int} (hs : scan l.length (fun j => is p (row l j)) = false) : whoO is l p = none := by unfold whoO; rw [who_miss hs]; rfl
/-- The window that is open, by its number. -/
def numI (o : Option Nat) : Int := o.elim (-1) (fun i => (i : Int))
def atI (len : Int) (l : List (List Int)) (t : Int) : Int := if mayB len l t = true then numI (whoI openB l (t % len)) else -1
/-- A pair's two values. -/
@[reducible] def ptV (o : Option Int) : Value := .tuple #[.int .i64 (o.getD 0), .bool o.isSome]
end Go.Proofs.Ytfpcldkgcifciaa
