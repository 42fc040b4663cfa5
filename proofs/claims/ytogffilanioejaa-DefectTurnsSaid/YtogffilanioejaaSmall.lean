/- within, isCore, isPart, and the predicates of partitions and channels, as contracts. No condition but those in the statements. -/
import Derived.Test.YtogffilanioejaaDefP
import Derived.Test.YtogffilanioejaaProg
import Derived.BigQuiet
import Derived.IntWalk
namespace Go.Proofs.Ytogffilanioejaa
open Go.RowKit Go.Sort Go.ChangeShapes Go.WideShapes
set_option linter.unusedVariables false
set_option linter.unusedSimpArgs false

theorem within_b (n a b : Int) (w : World) : Calls Try.prog 21 #[.int .i64 n, .int .i64 a, .int .i64 b] w fun e w' => e = .returned (.bool (decide (a ≤ n ∧ n ≤ b))) ∧ w = w' := by
  by_cases h1 : a ≤ n
  · by_cases h2 : n ≤ b
    · have HX := Lib.hid (show decide (a ≤ n ∧ n ≤ b) = true from decide_eq_true ⟨h1, h2⟩)
      go_enter Try.func21, Try.ntmps21
      go_wp2
      go_ret
      exact ⟨by first | (rw [HX.out]; rfl) | rfl, rfl⟩
    · have h2d : decide (n ≤ b) = false := decide_eq_false h2
      have HX := Lib.hid (show decide (a ≤ n ∧ n ≤ b) = false from decide_eq_false (fun h => h2 h.2))
      go_enter Try.func21, Try.ntmps21
      go_wp2
      go_ret
      exact ⟨by first | (rw [HX.out]; rfl) | rfl, rfl⟩
  · have h1d : decide (a ≤ n) = false := decide_eq_false h1
    have HX := Lib.hid (show decide (a ≤ n ∧ n ≤ b) = false from decide_eq_false (fun h => h1 h.1))
    go_enter Try.func21, Try.ntmps21
    go_wp2
    go_ret
    exact ⟨by first | (rw [HX.out]; rfl) | rfl, rfl⟩
theorem within_is (n a b : Int) (q : Bool) (w : World) (h : decide (a ≤ n ∧ n ≤ b) = q) : Calls Try.prog 21 #[.int .i64 n, .int .i64 a, .int .i64 b] w fun e w' => e = .returned (.bool q) ∧ w = w' := by subst h; exact within_b n a b w
theorem isCore_b (n : Int) (w : World) : Calls Try.prog 24 #[.int .i64 n] w fun e w' => e = .returned (.bool (decide (n = 0 ∨ n = 1))) ∧ w = w' := by
  by_cases h1 : n = 0
  · have h1a : ((n : Int) == 0) = true := by simp [h1]
    have h1b : ((n : Int) != 0) = false := by simp [h1]
    have HX := Lib.hid (show decide (n = 0 ∨ n = 1) = true from decide_eq_true (by omega))
    go_enter Try.func24, Try.ntmps24
    go_wp2
    go_ret
    exact ⟨by first | (rw [HX.out]; rfl) | rfl, rfl⟩
  · have h1a : ((n : Int) == 0) = false := by simp [h1]
    have h1b : ((n : Int) != 0) = true := by simp [h1]
    by_cases h2 : n = 1
    · have h2a : ((n : Int) == 1) = true := by simp [h2]
      have h2b : ((n : Int) != 1) = false := by simp [h2]
      have HX := Lib.hid (show decide (n = 0 ∨ n = 1) = true from decide_eq_true (by omega))
      go_enter Try.func24, Try.ntmps24
      go_wp2
      go_ret
      exact ⟨by first | (rw [HX.out]; rfl) | rfl, rfl⟩
    · have h2a : ((n : Int) == 1) = false := by simp [h2]
      have h2b : ((n : Int) != 1) = true := by simp [h2]
      have HX := Lib.hid (show decide (n = 0 ∨ n = 1) = false from decide_eq_false (by omega))
      go_enter Try.func24, Try.ntmps24
      go_wp2
      go_ret
      exact ⟨by first | (rw [HX.out]; rfl) | rfl, rfl⟩
theorem isCore_is (n : Int) (q : Bool) (w : World) (h : decide (n = 0 ∨ n = 1) = q) : Calls Try.prog 24 #[.int .i64 n] w fun e w' => e = .returned (.bool q) ∧ w = w' := by subst h; exact isCore_b n w
theorem isPart_plain (parts chans : List (List Int)) (len0 : Int) (win0 : List (List Int)) (len1 : Int) (win1 : List (List Int)) (pa : Option Addr) (pc : Nat) (ca : Option Addr) (cc : Nat) (aa : Option Addr) (ac : Nat) (ba : Option Addr) (bc : Nat) (p : Int) (w : World) (hl : parts.length ≤ 1000000) : Calls Try.prog 49 #[.agg #[.slice pa parts.length pc, .slice ca chans.length cc, .int .i64 len0, .slice aa win0.length ac, .int .i64 len1, .slice ba win1.length bc], .int .i64 p] w fun e w' => e = .returned (.bool (partB (⟨parts, chans, len0, win0, len1, win1⟩ : Cfg) p)) ∧ Below w.heap.size w w' := by
  obtain ⟨q, hq⟩ : ∃ q, decide (0 ≤ p ∧ p ≤ (parts.length : Int) - 1) = q := ⟨_, rfl⟩
  have HX := Lib.hid (show partB (⟨parts, chans, len0, win0, len1, win1⟩ : Cfg) p = q by rw [← hq]; exact decide_eq_decide.2 (by show _ ∧ p < (parts.length : Int) ↔ _; omega))
  go_enter Try.func49, Try.ntmps49
  go_wp2_with (go_at_call 21; ((with_reducible refine (within_is _ _ _ q _ hq).mono ?_); rintro e w5 ⟨rfl, rfl⟩))
  go_ret
  exact ⟨by first | (rw [HX.out]; rfl) | rfl, (Below.refl _ _).alloc (Nat.le_refl _) _⟩
theorem isPart_is (parts chans : List (List Int)) (len0 : Int) (win0 : List (List Int)) (len1 : Int) (win1 : List (List Int)) (pa : Option Addr) (pc : Nat) (ca : Option Addr) (cc : Nat) (aa : Option Addr) (ac : Nat) (ba : Option Addr) (bc : Nat) (p : Int) (b : Bool) (w : World) (hl : parts.length ≤ 1000000) (h : partB (⟨parts, chans, len0, win0, len1, win1⟩ : Cfg) p = b) : Calls Try.prog 49 #[.agg #[.slice pa parts.length pc, .slice ca chans.length cc, .int .i64 len0, .slice aa win0.length ac, .int .i64 len1, .slice ba win1.length bc], .int .i64 p] w fun e w' => e = .returned (.bool b) ∧ Below w.heap.size w w' := by subst h; exact isPart_plain parts chans len0 win0 len1 win1 pa pc ca cc aa ac ba bc p w hl

theorem pred2_b (x0 x1 : Int) (w : World) : Calls Try.prog 23 #[.agg #[.int .i64 x0, .int .i64 x1]] w fun e w' => e = .returned (.bool (decide (x0 ≠ 0 ∧ x0 ≠ 1))) ∧ Below w.heap.size w w' := by
  by_cases h1 : decide (x0 = 0 ∨ x0 = 1) = true
  · have g1 := of_decide_eq_true h1
    have HG := Lib.hid g1
    clear g1
    have HX := Lib.hid (show decide (x0 ≠ 0 ∧ x0 ≠ 1) = false from decide_eq_false (by have := HG.out; omega))
    go_enter Try.func23, Try.ntmps23
    go_wp2_with (first | (go_at_call 24; ((with_reducible refine (isCore_is _ _ _ (by assumption)).mono ?_); rintro e w5 ⟨rfl, rfl⟩)))
    go_ret
    exact ⟨by first | (rw [HX.out]; rfl) | rfl, (Below.refl _ _).alloc (Nat.le_refl _) _⟩
  · have h1 : decide (x0 = 0 ∨ x0 = 1) = false := by simpa using h1
    have HG := Lib.hid (of_decide_eq_false h1)
    have HX := Lib.hid (show decide (x0 ≠ 0 ∧ x0 ≠ 1) = true from decide_eq_true (by have := HG.out; omega))
    go_enter Try.func23, Try.ntmps23
    go_wp2_with (first | (go_at_call 24; ((with_reducible refine (isCore_is _ _ _ (by assumption)).mono ?_); rintro e w5 ⟨rfl, rfl⟩)))
    go_ret
    exact ⟨by first | (rw [HX.out]; rfl) | rfl, (Below.refl _ _).alloc (Nat.le_refl _) _⟩

theorem pred3_b (x0 x1 : Int) (w : World) : Calls Try.prog 25 #[.agg #[.int .i64 x0, .int .i64 x1]] w fun e w' => e = .returned (.bool (decide (x1 < 0 ∨ 64 < x1))) ∧ Below w.heap.size w w' := by
  by_cases h1 : decide (0 ≤ x1 ∧ x1 ≤ 64) = true
  · have HG := Lib.hid (of_decide_eq_true h1)
    have HX := Lib.hid (show decide (x1 < 0 ∨ 64 < x1) = false from decide_eq_false (by have := HG.out; omega))
    go_enter Try.func25, Try.ntmps25
    go_wp2_with (first | (go_at_call 21; ((with_reducible refine (within_is _ _ _ _ _ (by assumption)).mono ?_); rintro e w5 ⟨rfl, rfl⟩)))
    go_ret
    exact ⟨by first | (rw [HX.out]; rfl) | rfl, (Below.refl _ _).alloc (Nat.le_refl _) _⟩
  · have h1 : decide (0 ≤ x1 ∧ x1 ≤ 64) = false := by simpa using h1
    have HG := Lib.hid (of_decide_eq_false h1)
    have HX := Lib.hid (show decide (x1 < 0 ∨ 64 < x1) = true from decide_eq_true (by have := HG.out; omega))
    go_enter Try.func25, Try.ntmps25
    go_wp2_with (first | (go_at_call 21; ((with_reducible refine (within_is _ _ _ _ _ (by assumption)).mono ?_); rintro e w5 ⟨rfl, rfl⟩)))
    go_ret
    exact ⟨by first | (rw [HX.out]; rfl) | rfl, (Below.refl _ _).alloc (Nat.le_refl _) _⟩

theorem pred5_b (x0 x1 x2 x3 x4 x5 x6 : Int) (w : World) : Calls Try.prog 28 #[.agg #[.int .i64 x0, .int .i64 x1, .int .i64 x2, .int .i64 x3, .int .i64 x4, .int .i64 x5, .int .u32 x6]] w fun e w' => e = .returned (.bool (decide (x0 ≠ 1 ∧ x0 ≠ 2))) ∧ Below w.heap.size w w' := by
  by_cases h1 : x0 = 1
  · have h1a : ((x0 : Int) == 1) = true := by simp [h1]
    have h1b : ((x0 : Int) != 1) = false := by simp [h1]
    have HX := Lib.hid (show decide (x0 ≠ 1 ∧ x0 ≠ 2) = false from decide_eq_false (by omega))
    go_enter Try.func28, Try.ntmps28
    go_wp2
    go_ret
    exact ⟨by first | (rw [HX.out]; rfl) | rfl, (Below.refl _ _).alloc (Nat.le_refl _) _⟩
  · have h1a : ((x0 : Int) == 1) = false := by simp [h1]
    have h1b : ((x0 : Int) != 1) = true := by simp [h1]
    by_cases h2 : x0 = 2
    · have h2a : ((x0 : Int) == 2) = true := by simp [h2]
      have h2b : ((x0 : Int) != 2) = false := by simp [h2]
      have HX := Lib.hid (show decide (x0 ≠ 1 ∧ x0 ≠ 2) = false from decide_eq_false (by omega))
      go_enter Try.func28, Try.ntmps28
      go_wp2
      go_ret
      exact ⟨by first | (rw [HX.out]; rfl) | rfl, (Below.refl _ _).alloc (Nat.le_refl _) _⟩
    · have h2a : ((x0 : Int) == 2) = false := by simp [h2]
      have h2b : ((x0 : Int) != 2) = true := by simp [h2]
      have HX := Lib.hid (show decide (x0 ≠ 1 ∧ x0 ≠ 2) = true from decide_eq_true (by omega))
      go_enter Try.func28, Try.ntmps28
      go_wp2
      go_ret
      exact ⟨by first | (rw [HX.out]; rfl) | rfl, (Below.refl _ _).alloc (Nat.le_refl _) _⟩

theorem pred7_b (x0 x1 x2 x3 x4 x5 x6 : Int) (w : World) : Calls Try.prog 30 #[.agg #[.int .i64 x0, .int .i64 x1, .int .i64 x2, .int .i64 x3, .int .i64 x4, .int .i64 x5, .int .u32 x6]] w fun e w' => e = .returned (.bool (decide (x1 = x2))) ∧ Below w.heap.size w w' := by
  by_cases h1 : x1 = x2
  · have h1a : ((x1 : Int) == x2) = true := by simp [h1]
    have h1b : ((x1 : Int) != x2) = false := by simp [h1]
    have HX := Lib.hid (show decide (x1 = x2) = true from decide_eq_true (by omega))
    go_enter Try.func30, Try.ntmps30
    go_wp2
    go_ret
    exact ⟨by first | (rw [HX.out]; rfl) | rfl, (Below.refl _ _).alloc (Nat.le_refl _) _⟩
  · have h1a : ((x1 : Int) == x2) = false := by simp [h1]
    have h1b : ((x1 : Int) != x2) = true := by simp [h1]
    have HX := Lib.hid (show decide (x1 = x2) = false from decide_eq_false (by omega))
    go_enter Try.func30, Try.ntmps30
    go_wp2
    go_ret
    exact ⟨by first | (rw [HX.out]; rfl) | rfl, (Below.refl _ _).alloc (Nat.le_refl _) _⟩

theorem pred9_b (x0 x1 x2 x3 x4 x5 x6 : Int) (w : World) : Calls Try.prog 32 #[.agg #[.int .i64 x0, .int .i64 x1, .int .i64 x2, .int .i64 x3, .int .i64 x4, .int .i64 x5, .int .u32 x6]] w fun e w' => e = .returned (.bool (decide ((x0 = 1 ∧ x4 ≠ 0) ∨ (x0 = 2 ∧ x4 ≠ 1 ∧ x4 ≠ 2 ∧ x4 ≠ 4 ∧ x4 ≠ 8)))) ∧ Below w.heap.size w w' := by
  by_cases h1 : x0 = 1
  · have h1a : ((x0 : Int) == 1) = true := by simp [h1]
    have h1b : ((x0 : Int) != 1) = false := by simp [h1]
    by_cases h2 : x4 = 0
    · have h2a : ((x4 : Int) == 0) = true := by simp [h2]
      have h2b : ((x4 : Int) != 0) = false := by simp [h2]
      have HX := Lib.hid (show decide ((x0 = 1 ∧ x4 ≠ 0) ∨ (x0 = 2 ∧ x4 ≠ 1 ∧ x4 ≠ 2 ∧ x4 ≠ 4 ∧ x4 ≠ 8)) = false from decide_eq_false (by omega))
      go_enter Try.func32, Try.ntmps32
      go_wp2
      go_ret
      exact ⟨by first | (rw [HX.out]; rfl) | rfl, (Below.refl _ _).alloc (Nat.le_refl _) _⟩
    · have h2a : ((x4 : Int) == 0) = false := by simp [h2]
      have h2b : ((x4 : Int) != 0) = true := by simp [h2]
      have HX := Lib.hid (show decide ((x0 = 1 ∧ x4 ≠ 0) ∨ (x0 = 2 ∧ x4 ≠ 1 ∧ x4 ≠ 2 ∧ x4 ≠ 4 ∧ x4 ≠ 8)) = true from decide_eq_true (by omega))
      go_enter Try.func32, Try.ntmps32
      go_wp2
      go_ret
      exact ⟨by first | (rw [HX.out]; rfl) | rfl, (Below.refl _ _).alloc (Nat.le_refl _) _⟩
  · have h1a : ((x0 : Int) == 1) = false := by simp [h1]
    have h1b : ((x0 : Int) != 1) = true := by simp [h1]
    by_cases h3 : x0 = 2
    · have h3a : ((x0 : Int) == 2) = true := by simp [h3]
      have h3b : ((x0 : Int) != 2) = false := by simp [h3]
      by_cases h4 : x4 = 1
      · have h4a : ((x4 : Int) == 1) = true := by simp [h4]
        have h4b : ((x4 : Int) != 1) = false := by simp [h4]
        have HX := Lib.hid (show decide ((x0 = 1 ∧ x4 ≠ 0) ∨ (x0 = 2 ∧ x4 ≠ 1 ∧ x4 ≠ 2 ∧ x4 ≠ 4 ∧ x4 ≠ 8)) = false from decide_eq_false (by omega))
        go_enter Try.func32, Try.ntmps32
        go_wp2
        go_ret
        exact ⟨by first | (rw [HX.out]; rfl) | rfl, (Below.refl _ _).alloc (Nat.le_refl _) _⟩
      · have h4a : ((x4 : Int) == 1) = false := by simp [h4]
        have h4b : ((x4 : Int) != 1) = true := by simp [h4]
        by_cases h5 : x4 = 2
        · have h5a : ((x4 : Int) == 2) = true := by simp [h5]
          have h5b : ((x4 : Int) != 2) = false := by simp [h5]
          have HX := Lib.hid (show decide ((x0 = 1 ∧ x4 ≠ 0) ∨ (x0 = 2 ∧ x4 ≠ 1 ∧ x4 ≠ 2 ∧ x4 ≠ 4 ∧ x4 ≠ 8)) = false from decide_eq_false (by omega))
          go_enter Try.func32, Try.ntmps32
          go_wp2
          go_ret
          exact ⟨by first | (rw [HX.out]; rfl) | rfl, (Below.refl _ _).alloc (Nat.le_refl _) _⟩
        · have h5a : ((x4 : Int) == 2) = false := by simp [h5]
          have h5b : ((x4 : Int) != 2) = true := by simp [h5]
          by_cases h6 : x4 = 4
          · have h6a : ((x4 : Int) == 4) = true := by simp [h6]
            have h6b : ((x4 : Int) != 4) = false := by simp [h6]
            have HX := Lib.hid (show decide ((x0 = 1 ∧ x4 ≠ 0) ∨ (x0 = 2 ∧ x4 ≠ 1 ∧ x4 ≠ 2 ∧ x4 ≠ 4 ∧ x4 ≠ 8)) = false from decide_eq_false (by omega))
            go_enter Try.func32, Try.ntmps32
            go_wp2
            go_ret
            exact ⟨by first | (rw [HX.out]; rfl) | rfl, (Below.refl _ _).alloc (Nat.le_refl _) _⟩
          · have h6a : ((x4 : Int) == 4) = false := by simp [h6]
            have h6b : ((x4 : Int) != 4) = true := by simp [h6]
            by_cases h7 : x4 = 8
            · have h7a : ((x4 : Int) == 8) = true := by simp [h7]
              have h7b : ((x4 : Int) != 8) = false := by simp [h7]
              have HX := Lib.hid (show decide ((x0 = 1 ∧ x4 ≠ 0) ∨ (x0 = 2 ∧ x4 ≠ 1 ∧ x4 ≠ 2 ∧ x4 ≠ 4 ∧ x4 ≠ 8)) = false from decide_eq_false (by omega))
              go_enter Try.func32, Try.ntmps32
              go_wp2
              go_ret
              exact ⟨by first | (rw [HX.out]; rfl) | rfl, (Below.refl _ _).alloc (Nat.le_refl _) _⟩
            · have h7a : ((x4 : Int) == 8) = false := by simp [h7]
              have h7b : ((x4 : Int) != 8) = true := by simp [h7]
              have HX := Lib.hid (show decide ((x0 = 1 ∧ x4 ≠ 0) ∨ (x0 = 2 ∧ x4 ≠ 1 ∧ x4 ≠ 2 ∧ x4 ≠ 4 ∧ x4 ≠ 8)) = true from decide_eq_true (by omega))
              go_enter Try.func32, Try.ntmps32
              go_wp2
              go_ret
              exact ⟨by first | (rw [HX.out]; rfl) | rfl, (Below.refl _ _).alloc (Nat.le_refl _) _⟩
    · have h3a : ((x0 : Int) == 2) = false := by simp [h3]
      have h3b : ((x0 : Int) != 2) = true := by simp [h3]
      have HX := Lib.hid (show decide ((x0 = 1 ∧ x4 ≠ 0) ∨ (x0 = 2 ∧ x4 ≠ 1 ∧ x4 ≠ 2 ∧ x4 ≠ 4 ∧ x4 ≠ 8)) = false from decide_eq_false (by omega))
      go_enter Try.func32, Try.ntmps32
      go_wp2
      go_ret
      exact ⟨by first | (rw [HX.out]; rfl) | rfl, (Below.refl _ _).alloc (Nat.le_refl _) _⟩

theorem pred11_b (x0 x1 x2 x3 x4 x5 x6 : Int) (w : World) : Calls Try.prog 34 #[.agg #[.int .i64 x0, .int .i64 x1, .int .i64 x2, .int .i64 x3, .int .i64 x4, .int .i64 x5, .int .u32 x6]] w fun e w' => e = .returned (.bool (decide (x0 = 1 ∧ x6 ≠ 0))) ∧ Below w.heap.size w w' := by
  by_cases h1 : x0 = 1
  · have h1a : ((x0 : Int) == 1) = true := by simp [h1]
    have h1b : ((x0 : Int) != 1) = false := by simp [h1]
    by_cases h2 : x6 = 0
    · have h2a : ((x6 : Int) == 0) = true := by simp [h2]
      have h2b : ((x6 : Int) != 0) = false := by simp [h2]
      have HX := Lib.hid (show decide (x0 = 1 ∧ x6 ≠ 0) = false from decide_eq_false (by omega))
      go_enter Try.func34, Try.ntmps34
      go_wp2
      go_ret
      exact ⟨by first | (rw [HX.out]; rfl) | rfl, (Below.refl _ _).alloc (Nat.le_refl _) _⟩
    · have h2a : ((x6 : Int) == 0) = false := by simp [h2]
      have h2b : ((x6 : Int) != 0) = true := by simp [h2]
      have HX := Lib.hid (show decide (x0 = 1 ∧ x6 ≠ 0) = true from decide_eq_true (by omega))
      go_enter Try.func34, Try.ntmps34
      go_wp2
      go_ret
      exact ⟨by first | (rw [HX.out]; rfl) | rfl, (Below.refl _ _).alloc (Nat.le_refl _) _⟩
  · have h1a : ((x0 : Int) == 1) = false := by simp [h1]
    have h1b : ((x0 : Int) != 1) = true := by simp [h1]
    have HX := Lib.hid (show decide (x0 = 1 ∧ x6 ≠ 0) = false from decide_eq_false (by omega))
    go_enter Try.func34, Try.ntmps34
    go_wp2
    go_ret
    exact ⟨by first | (rw [HX.out]; rfl) | rfl, (Below.refl _ _).alloc (Nat.le_refl _) _⟩

theorem pred8_b (x0 x1 x2 x3 x4 x5 x6 : Int) (w : World) : Calls Try.prog 31 #[.agg #[.int .i64 x0, .int .i64 x1, .int .i64 x2, .int .i64 x3, .int .i64 x4, .int .i64 x5, .int .u32 x6]] w fun e w' => e = .returned (.bool (decide (x3 < 1 ∨ 16 < x3))) ∧ Below w.heap.size w w' := by
  by_cases h1 : decide (1 ≤ x3 ∧ x3 ≤ 16) = true
  · have HG := Lib.hid (of_decide_eq_true h1)
    have HX := Lib.hid (show decide (x3 < 1 ∨ 16 < x3) = false from decide_eq_false (by have := HG.out; omega))
    go_enter Try.func31, Try.ntmps31
    go_wp2_with (first | (go_at_call 21; ((with_reducible refine (within_is _ _ _ _ _ (by assumption)).mono ?_); rintro e w5 ⟨rfl, rfl⟩)))
    go_ret
    exact ⟨by first | (rw [HX.out]; rfl) | rfl, (Below.refl _ _).alloc (Nat.le_refl _) _⟩
  · have h1 : decide (1 ≤ x3 ∧ x3 ≤ 16) = false := by simpa using h1
    have HG := Lib.hid (of_decide_eq_false h1)
    have HX := Lib.hid (show decide (x3 < 1 ∨ 16 < x3) = true from decide_eq_true (by have := HG.out; omega))
    go_enter Try.func31, Try.ntmps31
    go_wp2_with (first | (go_at_call 21; ((with_reducible refine (within_is _ _ _ _ _ (by assumption)).mono ?_); rintro e w5 ⟨rfl, rfl⟩)))
    go_ret
    exact ⟨by first | (rw [HX.out]; rfl) | rfl, (Below.refl _ _).alloc (Nat.le_refl _) _⟩

theorem pred10_b (x0 x1 x2 x3 x4 x5 x6 : Int) (w : World) : Calls Try.prog 33 #[.agg #[.int .i64 x0, .int .i64 x1, .int .i64 x2, .int .i64 x3, .int .i64 x4, .int .i64 x5, .int .u32 x6]] w fun e w' => e = .returned (.bool (decide ((x0 = 1 ∧ (x5 < 0 ∨ 1048576 < x5)) ∨ (x0 = 2 ∧ x5 ≠ 0)))) ∧ Below w.heap.size w w' := by
  by_cases h1 : x0 = 1
  · have h1a : ((x0 : Int) == 1) = true := by simp [h1]
    have h1b : ((x0 : Int) != 1) = false := by simp [h1]
    by_cases h1 : decide (0 ≤ x5 ∧ x5 ≤ 1048576) = true
    · have HG := Lib.hid (of_decide_eq_true h1)
      have HX := Lib.hid (show decide ((x0 = 1 ∧ (x5 < 0 ∨ 1048576 < x5)) ∨ (x0 = 2 ∧ x5 ≠ 0)) = false from decide_eq_false (by have := HG.out; omega))
      go_enter Try.func33, Try.ntmps33
      go_wp2_with (first | (go_at_call 21; ((with_reducible refine (within_is _ _ _ _ _ (by assumption)).mono ?_); rintro e w5 ⟨rfl, rfl⟩)))
      go_ret
      exact ⟨by first | (rw [HX.out]; rfl) | rfl, (Below.refl _ _).alloc (Nat.le_refl _) _⟩
    · have h1 : decide (0 ≤ x5 ∧ x5 ≤ 1048576) = false := by simpa using h1
      have HG := Lib.hid (of_decide_eq_false h1)
      have HX := Lib.hid (show decide ((x0 = 1 ∧ (x5 < 0 ∨ 1048576 < x5)) ∨ (x0 = 2 ∧ x5 ≠ 0)) = true from decide_eq_true (by have := HG.out; omega))
      go_enter Try.func33, Try.ntmps33
      go_wp2_with (first | (go_at_call 21; ((with_reducible refine (within_is _ _ _ _ _ (by assumption)).mono ?_); rintro e w5 ⟨rfl, rfl⟩)))
      go_ret
      exact ⟨by first | (rw [HX.out]; rfl) | rfl, (Below.refl _ _).alloc (Nat.le_refl _) _⟩
  · have h1a : ((x0 : Int) == 1) = false := by simp [h1]
    have h1b : ((x0 : Int) != 1) = true := by simp [h1]
    by_cases h2 : x0 = 2
    · have h2a : ((x0 : Int) == 2) = true := by simp [h2]
      have h2b : ((x0 : Int) != 2) = false := by simp [h2]
      by_cases h3 : x5 = 0
      · have h3a : ((x5 : Int) == 0) = true := by simp [h3]
        have h3b : ((x5 : Int) != 0) = false := by simp [h3]
        have HX := Lib.hid (show decide ((x0 = 1 ∧ (x5 < 0 ∨ 1048576 < x5)) ∨ (x0 = 2 ∧ x5 ≠ 0)) = false from decide_eq_false (by omega))
        go_enter Try.func33, Try.ntmps33
        go_wp2
        go_ret
        exact ⟨by first | (rw [HX.out]; rfl) | rfl, (Below.refl _ _).alloc (Nat.le_refl _) _⟩
      · have h3a : ((x5 : Int) == 0) = false := by simp [h3]
        have h3b : ((x5 : Int) != 0) = true := by simp [h3]
        have HX := Lib.hid (show decide ((x0 = 1 ∧ (x5 < 0 ∨ 1048576 < x5)) ∨ (x0 = 2 ∧ x5 ≠ 0)) = true from decide_eq_true (by omega))
        go_enter Try.func33, Try.ntmps33
        go_wp2
        go_ret
        exact ⟨by first | (rw [HX.out]; rfl) | rfl, (Below.refl _ _).alloc (Nat.le_refl _) _⟩
    · have h2a : ((x0 : Int) == 2) = false := by simp [h2]
      have h2b : ((x0 : Int) != 2) = true := by simp [h2]
      have HX := Lib.hid (show decide ((x0 = 1 ∧ (x5 < 0 ∨ 1048576 < x5)) ∨ (x0 = 2 ∧ x5 ≠ 0)) = false from decide_eq_false (by omega))
      go_enter Try.func33, Try.ntmps33
      go_wp2
      go_ret
      exact ⟨by first | (rw [HX.out]; rfl) | rfl, (Below.refl _ _).alloc (Nat.le_refl _) _⟩
end Go.Proofs.Ytogffilanioejaa
