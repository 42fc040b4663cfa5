/- Great, fewRows, the numbers that are words, as contracts. No condition but those in the statements. -/
import Derived.Test.YtjknmojjodghdaaSame
namespace Go.Proofs.Ytjknmojjodghdaa
open Go.RowKit Go.Sort
set_option linter.unusedVariables false
set_option linter.unusedSimpArgs false

/-- At most so many rows of each kind. -/
def cfgLe (n : Nat) (c : Cfg) : Bool := decide (c.parts.length ≤ n ∧ c.chans.length ≤ n ∧ c.win0.length ≤ n ∧ c.win1.length ≤ n)
theorem cfgLe_yes {n : Nat} {c : Cfg} (h : cfgLe n c = true) : c.parts.length ≤ n ∧ c.chans.length ≤ n ∧ c.win0.length ≤ n ∧ c.win1.length ≤ n := of_decide_eq_true h
theorem cfgLe_few {n : Nat} {c : Cfg} (h : cfgLe n c = true) (hn : n ≤ 1000000) : CfgFew c := by
  obtain ⟨a, b, d, e⟩ := cfgLe_yes h
  exact ⟨by omega, by omega, by omega, by omega⟩
def fitB (n : Int) : Bool := decide (0 ≤ n ∧ n ≤ 4294967295)
theorem fitB_yes {n : Int} : fitB n = true ↔ 0 ≤ n ∧ n ≤ 4294967295 := by unfold fitB; exact decide_eq_true_iff
theorem fitB_no {n : Int} : fitB n = false ↔ ¬ (0 ≤ n ∧ n ≤ 4294967295) := by unfold fitB; exact decide_eq_false_iff_not
theorem fit_b (n : Int) (w : World) (h1 : -9223372036854775808 ≤ n) (h2 : n ≤ 9223372036854775807) :
    Calls Try.prog 34 #[.int .i64 n] w fun e w' => e = .returned (.bool (fitB n)) ∧ w = w' := by
  by_cases h0 : 0 ≤ n
  · by_cases h3 : n ≤ 4294967295
    · go_enter Try.func34, Try.ntmps34
      go_wp2
      go_ret
      exact ⟨by simp [fitB, h0, h3], rfl⟩
    · go_enter Try.func34, Try.ntmps34
      go_wp2
      go_ret
      exact ⟨by simp [fitB, h0, h3], rfl⟩
  · have e : ¬ (IntKind.u64.wrap n ≤ 4294967295) := by rw [IntKind.wrap_u64]; omega
    have e2 : fitB n = false := by unfold fitB; exact decide_eq_false (fun h => h0 h.1)
    rw [e2]
    go_enter Try.func34, Try.ntmps34
    go_wp2
    go_ret
    exact ⟨rfl, rfl⟩
theorem word_b (n : Int) (w : World) :
    Calls Try.prog 35 #[.int .i64 n] w fun e w' => e = .returned (.bool (fitB n)) ∧ w = w' := by
  by_cases h0 : 0 ≤ n
  · by_cases h3 : n ≤ 4294967295
    · go_enter Try.func35, Try.ntmps35
      go_wp2
      go_ret
      exact ⟨by simp [fitB, h0, h3], rfl⟩
    · go_enter Try.func35, Try.ntmps35
      go_wp2
      go_ret
      exact ⟨by simp [fitB, h0, h3], rfl⟩
  · have e2 : fitB n = false := by unfold fitB; exact decide_eq_false (fun h => h0 h.1)
    rw [e2]
    have e : decide (0 ≤ n) = false := decide_eq_false h0
    go_enter Try.func35, Try.ntmps35
    go_wp2
    go_ret
    exact ⟨rfl, rfl⟩
theorem word_is (n : Int) (b : Bool) (w : World) (h : fitB n = b) : Calls Try.prog 35 #[.int .i64 n] w fun e w' => e = .returned (.bool b) ∧ w = w' := by subst h; exact word_b n w
theorem fit_is (n : Int) (b : Bool) (w : World) (h1 : -9223372036854775808 ≤ n) (h2 : n ≤ 9223372036854775807) (h : fitB n = b) : Calls Try.prog 34 #[.int .i64 n] w fun e w' => e = .returned (.bool b) ∧ w = w' := by subst h; exact fit_b n w h1 h2

theorem great_plain (parts chans : List (List Int)) (len0 : Int) (win0 : List (List Int)) (len1 : Int) (win1 : List (List Int)) (pa : Option Addr) (pc : Nat) (ca : Option Addr) (cc : Nat) (aa : Option Addr) (ac : Nat) (ba : Option Addr) (bc : Nat) (w : World) : Calls Try.prog 13 #[.agg #[.slice pa parts.length pc, .slice ca chans.length cc, .int .i64 len0, .slice aa win0.length ac, .int .i64 len1, .slice ba win1.length bc]] w fun e w' => e = .returned (.bool (!cfgLe 100 (⟨parts, chans, len0, win0, len1, win1⟩ : Cfg))) ∧ Below w.heap.size w w' := by
  by_cases g0 : parts.length ≤ 100
  · have f0 : ¬ ((100 : Int) < (parts.length : Int)) := by omega
    have e0 : (parts.length : Int) ≤ 100 := by omega
    by_cases g1 : chans.length ≤ 100
    · have f1 : ¬ ((100 : Int) < (chans.length : Int)) := by omega
      have e1 : (chans.length : Int) ≤ 100 := by omega
      by_cases g2 : win0.length ≤ 100
      · have f2 : ¬ ((100 : Int) < (win0.length : Int)) := by omega
        have e2 : (win0.length : Int) ≤ 100 := by omega
        by_cases g3 : win1.length ≤ 100
        · have f3 : ¬ ((100 : Int) < (win1.length : Int)) := by omega
          have e3 : (win1.length : Int) ≤ 100 := by omega
          have HR := Lib.hid (show cfgLe 100 (⟨parts, chans, len0, win0, len1, win1⟩ : Cfg) = true from decide_eq_true ⟨g0, g1, g2, g3⟩)
          go_enter Try.func13, Try.ntmps13
          go_wp2
          go_ret
          exact ⟨by rw [HR.out]; rfl, (Below.refl _ _).alloc (Nat.le_refl _) _⟩
        · have f3 : ((100 : Int) < (win1.length : Int)) := by omega
          have e3 : ¬ ((win1.length : Int) ≤ 100) := by omega
          have HR := Lib.hid (show cfgLe 100 (⟨parts, chans, len0, win0, len1, win1⟩ : Cfg) = false from decide_eq_false (fun h => g3 h.2.2.2))
          go_enter Try.func13, Try.ntmps13
          go_wp2
          go_ret
          exact ⟨by rw [HR.out]; rfl, (Below.refl _ _).alloc (Nat.le_refl _) _⟩
      · have f2 : ((100 : Int) < (win0.length : Int)) := by omega
        have e2 : ¬ ((win0.length : Int) ≤ 100) := by omega
        have HR := Lib.hid (show cfgLe 100 (⟨parts, chans, len0, win0, len1, win1⟩ : Cfg) = false from decide_eq_false (fun h => g2 h.2.2.1))
        go_enter Try.func13, Try.ntmps13
        go_wp2
        go_ret
        exact ⟨by rw [HR.out]; rfl, (Below.refl _ _).alloc (Nat.le_refl _) _⟩
    · have f1 : ((100 : Int) < (chans.length : Int)) := by omega
      have e1 : ¬ ((chans.length : Int) ≤ 100) := by omega
      have HR := Lib.hid (show cfgLe 100 (⟨parts, chans, len0, win0, len1, win1⟩ : Cfg) = false from decide_eq_false (fun h => g1 h.2.1))
      go_enter Try.func13, Try.ntmps13
      go_wp2
      go_ret
      exact ⟨by rw [HR.out]; rfl, (Below.refl _ _).alloc (Nat.le_refl _) _⟩
  · have f0 : ((100 : Int) < (parts.length : Int)) := by omega
    have e0 : ¬ ((parts.length : Int) ≤ 100) := by omega
    have HR := Lib.hid (show cfgLe 100 (⟨parts, chans, len0, win0, len1, win1⟩ : Cfg) = false from decide_eq_false (fun h => g0 h.1))
    go_enter Try.func13, Try.ntmps13
    go_wp2
    go_ret
    exact ⟨by rw [HR.out]; rfl, (Below.refl _ _).alloc (Nat.le_refl _) _⟩
/-- The greatest of four. -/
def max4 (x y z u : Int) : Int := max (max (max x y) z) u
theorem max4_run {P : Program} (ts : Array TypeId) (t : TypeId) (k : IntKind) (x y z u : Int) (w : World) : (Builtin.max_ ts t #[.int k x, .int k y, .int k z, .int k u]).run P w = .ok (.int k (max4 x y z u)) w := by
  simp [Builtin.max_, Builtin.max2, max4]
  omega
theorem few_plain (parts chans : List (List Int)) (len0 : Int) (win0 : List (List Int)) (len1 : Int) (win1 : List (List Int)) (pa : Option Addr) (pc : Nat) (ca : Option Addr) (cc : Nat) (aa : Option Addr) (ac : Nat) (ba : Option Addr) (bc : Nat) (w : World) : Calls Try.prog 32 #[.agg #[.slice pa parts.length pc, .slice ca chans.length cc, .int .i64 len0, .slice aa win0.length ac, .int .i64 len1, .slice ba win1.length bc]] w fun e w' => e = .returned (.bool (cfgLe 64 (⟨parts, chans, len0, win0, len1, win1⟩ : Cfg))) ∧ Below w.heap.size w w' := by
  have HR := Lib.hid (show cfgLe 64 (⟨parts, chans, len0, win0, len1, win1⟩ : Cfg) = decide (max4 (parts.length : Int) chans.length win0.length win1.length ≤ 64) by unfold cfgLe max4; dsimp only; congr 1; rw [eq_iff_iff]; omega)
  have hm := max4_run (P := Try.prog) #[3, 3, 3, 3] 3 .i64 (parts.length : Int) chans.length win0.length win1.length
  go_enter Try.func32, Try.ntmps32
  go_wp2
  go_ret
  exact ⟨by rw [HR.out]; rfl, (Below.refl _ _).alloc (Nat.le_refl _) _⟩
theorem great_b (c : Cfg) (x : CfgAt) (w : World) : Calls Try.prog 13 #[.agg (cfgCells c x)] w fun e w' => e = .returned (.bool (!cfgLe 100 c)) ∧ Below w.heap.size w w' := by
  obtain ⟨parts, chans, len0, win0, len1, win1⟩ := c
  obtain ⟨pa, pc, ca, cc, aa, ac, ba, bc⟩ := x
  exact great_plain parts chans len0 win0 len1 win1 pa pc ca cc aa ac ba bc w
theorem few_b (c : Cfg) (x : CfgAt) (w : World) : Calls Try.prog 32 #[.agg (cfgCells c x)] w fun e w' => e = .returned (.bool (cfgLe 64 c)) ∧ Below w.heap.size w w' := by
  obtain ⟨parts, chans, len0, win0, len1, win1⟩ := c
  obtain ⟨pa, pc, ca, cc, aa, ac, ba, bc⟩ := x
  exact few_plain parts chans len0 win0 len1 win1 pa pc ca cc aa ac ba bc w
end Go.Proofs.Ytjknmojjodghdaa
