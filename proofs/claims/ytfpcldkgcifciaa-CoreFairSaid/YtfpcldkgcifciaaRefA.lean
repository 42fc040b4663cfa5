/- The document's part, word and chans, as contracts. No condition but those in the statements. -/
import Derived.Test.YtfpcldkgcifciaaDef
import Derived.Test.YtfpcldkgcifciaaProg
import Derived.IntWalk
namespace Go.Proofs.Ytfpcldkgcifciaa
open Go.RowKit Go.Sort
set_option linter.unusedVariables false
set_option linter.unusedSimpArgs false

theorem word_b (n : Int) (w : World) : Calls Try.prog 35 #[.int .i64 n] w fun e w' => e = .returned (.bool (wordB n)) ∧ w = w' := by
  by_cases h0 : 0 ≤ n
  · by_cases h3 : n ≤ 4294967295
    · go_enter Try.func35, Try.ntmps35
      go_wp2
      go_ret
      exact ⟨by simp [wordB, h0, h3], rfl⟩
    · go_enter Try.func35, Try.ntmps35
      go_wp2
      go_ret
      exact ⟨by simp [wordB, h0, h3], rfl⟩
  · have e2 : wordB n = false := by unfold wordB; exact decide_eq_false (fun h => h0 h.1)
    rw [e2]
    have e : decide (0 ≤ n) = false := decide_eq_false h0
    go_enter Try.func35, Try.ntmps35
    go_wp2
    go_ret
    exact ⟨rfl, rfl⟩
theorem part_plain (parts chans : List (List Int)) (len0 : Int) (win0 : List (List Int)) (len1 : Int) (win1 : List (List Int)) (pa : Option Addr) (pc : Nat) (ca : Option Addr) (cc : Nat) (aa : Option Addr) (ac : Nat) (ba : Option Addr) (bc : Nat) (p : Int) (w : World) : Calls Try.prog 34 #[.agg #[.slice pa parts.length pc, .slice ca chans.length cc, .int .i64 len0, .slice aa win0.length ac, .int .i64 len1, .slice ba win1.length bc], .int .i64 p] w fun e w' => e = .returned (.bool (partB (⟨parts, chans, len0, win0, len1, win1⟩ : Cfg) p)) ∧ Below w.heap.size w w' := by
  by_cases h1 : 0 ≤ p
  · by_cases h2 : p < (parts.length : Int)
    · have HX := Lib.hid (show partB (⟨parts, chans, len0, win0, len1, win1⟩ : Cfg) p = true from decide_eq_true ⟨h1, h2⟩)
      go_enter Try.func34, Try.ntmps34
      go_wp2
      go_ret
      exact ⟨by rw [HX.out]; rfl, (Below.refl _ _).alloc (Nat.le_refl _) _⟩
    · have h2d : decide (p < (parts.length : Int)) = false := decide_eq_false h2
      have HX := Lib.hid (show partB (⟨parts, chans, len0, win0, len1, win1⟩ : Cfg) p = false from decide_eq_false (fun h => h2 h.2))
      go_enter Try.func34, Try.ntmps34
      go_wp2
      go_ret
      exact ⟨by rw [HX.out]; rfl, (Below.refl _ _).alloc (Nat.le_refl _) _⟩
  · have h1d : decide (0 ≤ p) = false := decide_eq_false h1
    have HX := Lib.hid (show partB (⟨parts, chans, len0, win0, len1, win1⟩ : Cfg) p = false from decide_eq_false (fun h => h1 h.1))
    go_enter Try.func34, Try.ntmps34
    go_wp2
    go_ret
    exact ⟨by rw [HX.out]; rfl, (Below.refl _ _).alloc (Nat.le_refl _) _⟩
theorem part_is (parts chans : List (List Int)) (len0 : Int) (win0 : List (List Int)) (len1 : Int) (win1 : List (List Int)) (pa : Option Addr) (pc : Nat) (ca : Option Addr) (cc : Nat) (aa : Option Addr) (ac : Nat) (ba : Option Addr) (bc : Nat) (p : Int) (b : Bool) (w : World) (h : partB (⟨parts, chans, len0, win0, len1, win1⟩ : Cfg) p = b) : Calls Try.prog 34 #[.agg #[.slice pa parts.length pc, .slice ca chans.length cc, .int .i64 len0, .slice aa win0.length ac, .int .i64 len1, .slice ba win1.length bc], .int .i64 p] w fun e w' => e = .returned (.bool b) ∧ Below w.heap.size w w' := by subst h; exact part_plain parts chans len0 win0 len1 win1 pa pc ca cc aa ac ba bc p w
end Go.Proofs.Ytfpcldkgcifciaa
