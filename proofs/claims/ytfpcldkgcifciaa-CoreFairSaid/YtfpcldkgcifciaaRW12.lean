/- The document's windows at defects 12 and 13, as contracts. No condition but those in the statements. -/
import Derived.Test.YtfpcldkgcifciaaRefA
import Derived.BigQuiet
namespace Go.Proofs.Ytfpcldkgcifciaa
open Go.RowKit Go.Sort
set_option linter.unusedVariables false
set_option linter.unusedSimpArgs false

theorem rwins0_12 (parts chans : List (List Int)) (len0 : Int) (win0 : List (List Int)) (len1 : Int) (win1 : List (List Int)) (pa : Option Addr) (pc : Nat) (ca : Option Addr) (cc : Nat) (aa : Option Addr) (ac : Nat) (ba : Option Addr) (bc : Nat) (w : World) : Calls Try.prog 31 #[.agg #[.slice pa parts.length pc, .slice ca chans.length cc, .int .i64 len0, .slice aa win0.length ac, .int .i64 len1, .slice ba win1.length bc], .int .i64 0, .int .i64 12] w fun e w' => e = .returned (.bool (winsB (⟨parts, chans, len0, win0, len1, win1⟩ : Cfg) 0 len0 win0 12)) ∧ Below w.heap.size w w' := by
  by_cases h1 : len0 < 1
  · have HX := Lib.hid (show winsB (⟨parts, chans, len0, win0, len1, win1⟩ : Cfg) 0 len0 win0 12 = true from (show decide (len0 < 1 ∨ 64 < len0) = true from decide_eq_true (by omega)))
    go_enter Try.func31, Try.ntmps31
    go_wp2
    go_ret
    exact ⟨by rw [HX.out]; rfl, (Below.refl _ _).alloc (Nat.le_refl _) _⟩
  · have h1d : decide (len0 < 1) = false := decide_eq_false h1
    by_cases h2 : 64 < len0
    · have HX := Lib.hid (show winsB (⟨parts, chans, len0, win0, len1, win1⟩ : Cfg) 0 len0 win0 12 = true from (show decide (len0 < 1 ∨ 64 < len0) = true from decide_eq_true (by omega)))
      go_enter Try.func31, Try.ntmps31
      go_wp2
      go_ret
      exact ⟨by rw [HX.out]; rfl, (Below.refl _ _).alloc (Nat.le_refl _) _⟩
    · have h2d : decide (64 < len0) = false := decide_eq_false h2
      have HX := Lib.hid (show winsB (⟨parts, chans, len0, win0, len1, win1⟩ : Cfg) 0 len0 win0 12 = false from (show decide (len0 < 1 ∨ 64 < len0) = false from decide_eq_false (by omega)))
      go_enter Try.func31, Try.ntmps31
      go_wp2
      go_ret
      exact ⟨by rw [HX.out]; rfl, (Below.refl _ _).alloc (Nat.le_refl _) _⟩

theorem rwins0_13 (parts chans : List (List Int)) (len0 : Int) (win0 : List (List Int)) (len1 : Int) (win1 : List (List Int)) (pa : Option Addr) (pc : Nat) (ca : Option Addr) (cc : Nat) (aa : Option Addr) (ac : Nat) (ba : Option Addr) (bc : Nat) (w : World) : Calls Try.prog 31 #[.agg #[.slice pa parts.length pc, .slice ca chans.length cc, .int .i64 len0, .slice aa win0.length ac, .int .i64 len1, .slice ba win1.length bc], .int .i64 0, .int .i64 13] w fun e w' => e = .returned (.bool (winsB (⟨parts, chans, len0, win0, len1, win1⟩ : Cfg) 0 len0 win0 13)) ∧ Below w.heap.size w w' := by
  by_cases h1 : (16 : Int) < (win0.length : Int)
  · have HX := Lib.hid (show winsB (⟨parts, chans, len0, win0, len1, win1⟩ : Cfg) 0 len0 win0 13 = true from (show decide (16 < win0.length) = true from decide_eq_true (by omega)))
    go_enter Try.func31, Try.ntmps31
    go_wp2
    go_ret
    exact ⟨by rw [HX.out]; rfl, (Below.refl _ _).alloc (Nat.le_refl _) _⟩
  · have h1d : decide ((16 : Int) < (win0.length : Int)) = false := decide_eq_false h1
    have HX := Lib.hid (show winsB (⟨parts, chans, len0, win0, len1, win1⟩ : Cfg) 0 len0 win0 13 = false from (show decide (16 < win0.length) = false from decide_eq_false (by omega)))
    go_enter Try.func31, Try.ntmps31
    go_wp2
    go_ret
    exact ⟨by rw [HX.out]; rfl, (Below.refl _ _).alloc (Nat.le_refl _) _⟩

theorem rwins1_12 (parts chans : List (List Int)) (len0 : Int) (win0 : List (List Int)) (len1 : Int) (win1 : List (List Int)) (pa : Option Addr) (pc : Nat) (ca : Option Addr) (cc : Nat) (aa : Option Addr) (ac : Nat) (ba : Option Addr) (bc : Nat) (w : World) : Calls Try.prog 31 #[.agg #[.slice pa parts.length pc, .slice ca chans.length cc, .int .i64 len0, .slice aa win0.length ac, .int .i64 len1, .slice ba win1.length bc], .int .i64 1, .int .i64 12] w fun e w' => e = .returned (.bool (winsB (⟨parts, chans, len0, win0, len1, win1⟩ : Cfg) 1 len1 win1 12)) ∧ Below w.heap.size w w' := by
  by_cases h1 : len1 < 1
  · have HX := Lib.hid (show winsB (⟨parts, chans, len0, win0, len1, win1⟩ : Cfg) 1 len1 win1 12 = true from (show decide (len1 < 1 ∨ 64 < len1) = true from decide_eq_true (by omega)))
    go_enter Try.func31, Try.ntmps31
    go_wp2
    go_ret
    exact ⟨by rw [HX.out]; rfl, (Below.refl _ _).alloc (Nat.le_refl _) _⟩
  · have h1d : decide (len1 < 1) = false := decide_eq_false h1
    by_cases h2 : 64 < len1
    · have HX := Lib.hid (show winsB (⟨parts, chans, len0, win0, len1, win1⟩ : Cfg) 1 len1 win1 12 = true from (show decide (len1 < 1 ∨ 64 < len1) = true from decide_eq_true (by omega)))
      go_enter Try.func31, Try.ntmps31
      go_wp2
      go_ret
      exact ⟨by rw [HX.out]; rfl, (Below.refl _ _).alloc (Nat.le_refl _) _⟩
    · have h2d : decide (64 < len1) = false := decide_eq_false h2
      have HX := Lib.hid (show winsB (⟨parts, chans, len0, win0, len1, win1⟩ : Cfg) 1 len1 win1 12 = false from (show decide (len1 < 1 ∨ 64 < len1) = false from decide_eq_false (by omega)))
      go_enter Try.func31, Try.ntmps31
      go_wp2
      go_ret
      exact ⟨by rw [HX.out]; rfl, (Below.refl _ _).alloc (Nat.le_refl _) _⟩

theorem rwins1_13 (parts chans : List (List Int)) (len0 : Int) (win0 : List (List Int)) (len1 : Int) (win1 : List (List Int)) (pa : Option Addr) (pc : Nat) (ca : Option Addr) (cc : Nat) (aa : Option Addr) (ac : Nat) (ba : Option Addr) (bc : Nat) (w : World) : Calls Try.prog 31 #[.agg #[.slice pa parts.length pc, .slice ca chans.length cc, .int .i64 len0, .slice aa win0.length ac, .int .i64 len1, .slice ba win1.length bc], .int .i64 1, .int .i64 13] w fun e w' => e = .returned (.bool (winsB (⟨parts, chans, len0, win0, len1, win1⟩ : Cfg) 1 len1 win1 13)) ∧ Below w.heap.size w w' := by
  by_cases h1 : (16 : Int) < (win1.length : Int)
  · have HX := Lib.hid (show winsB (⟨parts, chans, len0, win0, len1, win1⟩ : Cfg) 1 len1 win1 13 = true from (show decide (16 < win1.length) = true from decide_eq_true (by omega)))
    go_enter Try.func31, Try.ntmps31
    go_wp2
    go_ret
    exact ⟨by rw [HX.out]; rfl, (Below.refl _ _).alloc (Nat.le_refl _) _⟩
  · have h1d : decide ((16 : Int) < (win1.length : Int)) = false := decide_eq_false h1
    have HX := Lib.hid (show winsB (⟨parts, chans, len0, win0, len1, win1⟩ : Cfg) 1 len1 win1 13 = false from (show decide (16 < win1.length) = false from decide_eq_false (by omega)))
    go_enter Try.func31, Try.ntmps31
    go_wp2
    go_ret
    exact ⟨by rw [HX.out]; rfl, (Below.refl _ _).alloc (Nat.le_refl _) _⟩
end Go.Proofs.Ytfpcldkgcifciaa
