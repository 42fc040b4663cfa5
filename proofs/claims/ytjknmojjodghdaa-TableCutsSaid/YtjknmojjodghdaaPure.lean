/- What is parsed from what is printed, and the other way round. No condition but those in the statements. -/
import Derived.Test.YtjknmojjodghdaaPrint
import Derived.Test.YtjknmojjodghdaaParse
namespace Go.Proofs.Ytjknmojjodghdaa
open Go.RowKit Go.Sort Go.ChangeShapes Go.WideShapes
set_option linter.unusedVariables false
set_option linter.unusedSimpArgs false

theorem rowsAt_cons (xs : List Int) (k n m : Nat) : rowsAt xs k n (m + 1) = chunk xs k n :: rowsAt xs (k + n) n m := by
  simp only [rowsAt, List.range_succ_eq_map, List.map_cons, List.map_map, Nat.mul_zero, Nat.add_zero]
  congr 1
  apply List.map_congr_left
  intro i _
  simp only [Function.comp, Nat.mul_succ]
  congr 1; omega
theorem chunk_mid (A x B : List Int) : chunk (A ++ (x ++ B)) A.length x.length = x := by
  apply List.ext_getElem?
  intro i
  by_cases hi : i < x.length
  · rw [chunk, List.getElem?_map, List.getElem?_range hi, Option.map_some, List.getD_eq_getElem?_getD, List.getElem?_append_right (by omega), Nat.add_sub_cancel_left, List.getElem?_append_left hi, List.getElem?_eq_getElem hi]
    rfl
  · rw [List.getElem?_eq_none (by simp [chunk]; omega), List.getElem?_eq_none (by omega)]
theorem rowsAt_flat {n : Nat} : ∀ (l : List (List Int)) (A B : List Int), (∀ x ∈ l, x.length = n) → rowsAt (A ++ (l.flatten ++ B)) A.length n l.length = l
  | [], A, B, _ => by simp [rowsAt]
  | x :: l, A, B, h => by
    have hx := h x (by simp)
    have ih := rowsAt_flat l (A ++ x) B (fun y hy => h y (by simp [hy]))
    rw [List.length_cons, rowsAt_cons, List.flatten_cons, List.append_assoc]
    have h1 := chunk_mid A x (l.flatten ++ B)
    rw [hx] at h1
    rw [h1]
    congr 1
    rw [List.append_assoc, List.length_append, hx] at ih
    exact ih
theorem chunk_take {xs : List Int} {k n : Nat} (h : k + n ≤ xs.length) : chunk xs k n = (xs.drop k).take n := by
  apply List.ext_getElem?
  intro i
  by_cases hi : i < n
  · rw [chunk, List.getElem?_map, List.getElem?_range hi, Option.map_some, List.getElem?_take, if_pos hi, List.getElem?_drop, List.getD_eq_getElem?_getD, List.getElem?_eq_getElem (by omega)]
    rfl
  · rw [List.getElem?_eq_none (by simp [chunk]; omega), List.getElem?_eq_none (by simp; omega)]
theorem flat_rowsAt {xs : List Int} {k n : Nat} : ∀ {m : Nat}, k + n * m ≤ xs.length → (rowsAt xs k n m).flatten = (xs.drop k).take (n * m)
  | 0, _ => by simp [rowsAt]
  | m + 1, h => by
    rw [Nat.mul_succ] at h
    have ih := flat_rowsAt (xs := xs) (k := k) (n := n) (m := m) (by omega)
    rw [rowsAt_succ, List.flatten_append, ih, List.flatten_cons, List.flatten_nil, List.append_nil, chunk_take (by omega), Nat.mul_succ, List.take_add, List.drop_drop]

theorem wfW_of_fit {xs : List Int} (h : xs.all fitB = true) : wfW xs := fun q hq => u32_of_word (fitB_yes.1 (List.all_eq_true.1 h q hq))
theorem fit_of_wfW {xs : List Int} (h : wfW xs) : xs.all fitB = true := List.all_eq_true.2 fun q hq => fitB_yes.2 (bounds_u32 (h q hq))
/-- Words that begin alike have the same counts. -/
theorem alike {xs ys : List Int} (h : ∀ i, i < 6 → ys.getD i 0 = xs.getD i 0) : manyB ys = manyB xs ∧ countN ys = countN xs := by
  unfold manyB countN nP nC nA nB
  rw [h 0 (by omega), h 1 (by omega), h 3 (by omega), h 5 (by omega)]
  exact ⟨rfl, rfl⟩
theorem nums_split (c : Cfg) : numsN c = headN c ++ (c.parts.flatten ++ (c.chans.flatten ++ (c.win0.flatten ++ c.win1.flatten))) := by simp [numsN]
theorem nums_head (c : Cfg) : (numsN c).getD 0 0 = (c.parts.length : Int) ∧ (numsN c).getD 1 0 = (c.chans.length : Int) ∧ (numsN c).getD 2 0 = c.len0 ∧ (numsN c).getD 3 0 = (c.win0.length : Int) ∧ (numsN c).getD 4 0 = c.len1 ∧ (numsN c).getD 5 0 = (c.win1.length : Int) := by
  rw [nums_split]
  exact ⟨rfl, rfl, rfl, rfl, rfl, rfl⟩
theorem parse_nums {c : Cfg} (h : CfgWf c) (hl : cfgLe 64 c = true) : parseE (numsN c) = 0 ∧ parseC (numsN c) = c ∧ manyB (numsN c) = false ∧ countN (numsN c) = (numsN c).length := by
  obtain ⟨h0, h1, h2, h3⟩ := cfgLe_yes hl
  obtain ⟨e0, e1, e2, e3, e4, e5⟩ := nums_head c
  have p0 : nP (numsN c) = c.parts.length := by unfold nP; rw [e0]; rfl
  have p1 : nC (numsN c) = c.chans.length := by unfold nC; rw [e1]; rfl
  have p3 : nA (numsN c) = c.win0.length := by unfold nA; rw [e3]; rfl
  have p5 : nB (numsN c) = c.win1.length := by unfold nB; rw [e5]; rfl
  obtain ⟨_, hlen⟩ := nums_len h hl
  have hc : countN (numsN c) = (numsN c).length := by unfold countN; rw [p0, p1, p3, p5, hlen]
  have hm : manyB (numsN c) = false := by unfold manyB; rw [e0, e1, e3, e5]; exact decide_eq_false (by unfold max4; omega)
  have f2 := flat_len h.wp; have f7 := flat_len h.wc; have f3 := flat_len h.wa
  simp only [List.length_cons, List.length_nil] at f2 f7 f3
  refine ⟨parseE_ok (by rw [hlen]; omega) hm hc.symm, ?_, hm, hc⟩
  have r0 := rowsAt_flat c.parts (headN c) (c.chans.flatten ++ (c.win0.flatten ++ c.win1.flatten)) (fun x hx => (h.wp x hx).1)
  have r1 := rowsAt_flat c.chans (headN c ++ c.parts.flatten) (c.win0.flatten ++ c.win1.flatten) (fun x hx => (h.wc x hx).1)
  have r2 := rowsAt_flat c.win0 (headN c ++ c.parts.flatten ++ c.chans.flatten) c.win1.flatten (fun x hx => (h.wa x hx).1)
  have r3 := rowsAt_flat c.win1 (headN c ++ c.parts.flatten ++ c.chans.flatten ++ c.win0.flatten) [] (fun x hx => (h.wb x hx).1)
  have hh : (headN c).length = 6 := rfl
  simp only [List.append_assoc, List.length_append, List.append_nil, f2, f7, f3, hh] at r0 r1 r2 r3
  rw [← nums_split] at r0 r1 r2 r3
  unfold parseC
  rw [p0, p1, p3, p5, e2, e4]
  obtain ⟨parts, chans, len0, win0, len1, win1⟩ := c
  simp only [Nat.reduceAdd, List.length_cons, List.length_nil] at r0 r1 r2 r3 ⊢
  rw [Cfg.mk.injEq]
  refine ⟨r0, ?_, rfl, ?_, rfl, ?_⟩
  · rw [show 6 + 2 * parts.length = 6 + parts.length * 2 by omega]; exact r1
  · rw [show 6 + 2 * parts.length + 7 * chans.length = 6 + (parts.length * 2 + chans.length * 7) by omega]; exact r2
  · rw [show 6 + 2 * parts.length + 7 * chans.length + 3 * win0.length = 6 + (parts.length * 2 + (chans.length * 7 + win0.length * 3)) by omega]; exact r3
/-- What is parsed has just these words. -/
theorem parseE_zero {xs : List Int} (h : parseE xs = 0) : ¬ xs.length < 6 ∧ manyB xs = false ∧ xs.length = countN xs := by
  unfold parseE at h
  split at h
  · cases h
  · split at h
    · cases h
    · split at h
      · cases h
      · split at h
        · cases h
        · rename_i h1 h2 h3 h4
          exact ⟨h1, by simpa using h2, by omega⟩
theorem print_parse {xs : List Int} (hw : wfW xs) (h : parseE xs = 0) : printN (parseC xs) = xs ∧ cfgLe 64 (parseC xs) = true := by
  obtain ⟨h6, hm, hc⟩ := parseE_zero h
  have hm2 := max4_le (of_decide_eq_false hm)
  have b0 := wfW_at hw 0; have b1 := wfW_at hw 1; have b3 := wfW_at hw 3; have b5 := wfW_at hw 5
  have q0 : ((nP xs : Nat) : Int) = xs.getD 0 0 := Int.toNat_of_nonneg b0.1
  have q1 : ((nC xs : Nat) : Int) = xs.getD 1 0 := Int.toNat_of_nonneg b1.1
  have q3 : ((nA xs : Nat) : Int) = xs.getD 3 0 := Int.toNat_of_nonneg b3.1
  have q5 : ((nB xs : Nat) : Int) = xs.getD 5 0 := Int.toNat_of_nonneg b5.1
  have hle : cfgLe 64 (parseC xs) = true := decide_eq_true ⟨by simp [parseC]; omega, by simp [parseC]; omega, by simp [parseC]; omega, by simp [parseC]; omega⟩
  have hn : numsN (parseC xs) = xs := by
    unfold countN at hc
    have hd : headN (parseC xs) = xs.take 6 := by
      match xs, h6, q0, q1, q3, q5 with
      | x0 :: x1 :: x2 :: x3 :: x4 :: x5 :: ys, _, q0, q1, q3, q5 =>
        simp only [headN, parseC, rowsAt_len, q0, q1, q3, q5]
        rfl
      | [], h6, _, _, _, _ => exact absurd (by simp) h6
      | [_], h6, _, _, _, _ => exact absurd (by simp) h6
      | [_, _], h6, _, _, _, _ => exact absurd (by simp) h6
      | [_, _, _], h6, _, _, _, _ => exact absurd (by simp) h6
      | [_, _, _, _], h6, _, _, _, _ => exact absurd (by simp) h6
      | [_, _, _, _, _], h6, _, _, _, _ => exact absurd (by simp) h6
    rw [nums_split, hd]
    show xs.take 6 ++ ((rowsAt xs 6 2 (nP xs)).flatten ++ ((rowsAt xs (6 + 2 * nP xs) 7 (nC xs)).flatten ++ ((rowsAt xs (6 + 2 * nP xs + 7 * nC xs) 3 (nA xs)).flatten ++ (rowsAt xs (6 + 2 * nP xs + 7 * nC xs + 3 * nA xs) 3 (nB xs)).flatten))) = xs
    rw [flat_rowsAt (by omega), flat_rowsAt (by omega), flat_rowsAt (by omega), flat_rowsAt (by omega)]
    generalize 2 * nP xs = a at *
    generalize 7 * nC xs = b at *
    generalize 3 * nA xs = d at *
    generalize 3 * nB xs = e at *
    have s : ∀ (k m : Nat), (xs.drop k).take m ++ xs.drop (k + m) = xs.drop k := fun k m => by
      have := List.take_append_drop m (xs.drop k)
      rwa [List.drop_drop] at this
    have s4 : (xs.drop (6 + a + b + d)).take e = xs.drop (6 + a + b + d) := List.take_of_length_le (by simp; omega)
    rw [s4, s, s, s, List.take_append_drop]
  have ht : toldB (parseC xs) = true := by rw [← nums_fit hle, hn]; exact fit_of_wfW hw
  exact ⟨by rw [printN, if_pos ht, hn], hle⟩
theorem parse_print {c : Cfg} (h : CfgWf c) (ht : toldB c = true) : printN c = numsN c ∧ cfgLe 64 c = true ∧ wfW (numsN c) ∧ parseE (numsN c) = 0 ∧ parseO (numsN c) = c := by
  have hl : cfgLe 64 c = true := by unfold toldB at ht; cases hh : cfgLe 64 c with
    | true => rfl
    | false => rw [hh] at ht; cases ht
  obtain ⟨p0, p1, _, _⟩ := parse_nums h hl
  exact ⟨by rw [printN, if_pos ht], hl, wfW_of_fit (by rw [nums_fit hl]; exact ht), p0, by rw [parseO_yes p0]; exact p1⟩
/-- Of a configuration's words none of the beginnings is one's, nor is what has a word more. -/
theorem cut_less {c : Cfg} (h : CfgWf c) (hl : cfgLe 64 c = true) {j : Nat} (hj : j < (numsN c).length) : parseE ((numsN c).take j) = 8 := by
  obtain ⟨_, _, hm, hc⟩ := parse_nums h hl
  have hjl : ((numsN c).take j).length = j := by rw [List.length_take]; omega
  by_cases h6 : j < 6
  · exact parseE_six (by rw [hjl]; exact h6)
  · have ha := alike (xs := numsN c) (ys := (numsN c).take j) (fun i hi => by
      rw [List.getD_eq_getElem?_getD, List.getD_eq_getElem?_getD, List.getElem?_take, if_pos (by omega)])
    exact parseE_short (by rw [hjl]; exact h6) (by rw [ha.1]; exact hm) (by rw [hjl, ha.2, hc]; exact hj)
theorem cut_more {c : Cfg} (h : CfgWf c) (hl : cfgLe 64 c = true) (m : Int) : parseE (numsN c ++ [m]) = 9 := by
  obtain ⟨_, _, hm, hc⟩ := parse_nums h hl
  obtain ⟨_, hlen⟩ := nums_len h hl
  have ha := alike (xs := numsN c) (ys := numsN c ++ [m]) (fun i hi => by
    rw [List.getD_eq_getElem?_getD, List.getD_eq_getElem?_getD, List.getElem?_append_left (by rw [hlen]; omega)])
  exact parseE_rest (by rw [List.length_append, hlen]; omega) (by rw [ha.1]; exact hm) (by rw [List.length_append, ha.2, hc]; simp)
end Go.Proofs.Ytjknmojjodghdaa
