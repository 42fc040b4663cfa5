/- mayBe, tick, isOpen, isEntered as contracts. No condition but those in the statements. -/
import Derived.Test.YtfpcldkgcifciaaRight
import Derived.BigQuiet
import Derived.IntWalk
import Derived.BigRegion
import Derived.OpenShut
namespace Go.Proofs.Ytfpcldkgcifciaa
open Go.RowKit Go.Sort Go.ChangeShapes Go.WideShapes
set_option linter.unusedVariables false
set_option linter.unusedSimpArgs false


theorem right_is (len : Int) (l : List (List Int)) (A : Option Addr) (c : Nat) (q : Bool) (w : World) (hf : FIn w len l A) (h : rightB len l = q) : Calls Try.prog 32 #[.agg #[.int .i64 len, .slice A l.length c]] w fun e w' => e = .returned (.bool q) ∧ Below w.heap.size w w' := by subst h; exact right_b len l A c w hf
theorem rright_is (len : Int) (l : List (List Int)) (A : Option Addr) (c : Nat) (q : Bool) (w : World) (hf : FIn w len l A) (h : rightB len l = q) : Calls Try.prog 36 #[.agg #[.int .i64 len, .slice A l.length c]] w fun e w' => e = .returned (.bool q) ∧ Below w.heap.size w w' := by subst h; exact rright_b len l A c w hf

set_option maxRecDepth 100000 in
set_option maxHeartbeats 1600000 in
theorem may_b (len : Int) (l : List (List Int)) (A : Option Addr) (c : Nat) (t : Int) (w : World) (hf : FIn w len l A) : Calls Try.prog 24 #[.agg #[.int .i64 len, .slice A l.length c], .int .i64 t] w fun e w' => e = .returned (.bool (mayB len l t)) ∧ Below w.heap.size w w' := by
  obtain ⟨W, HW, hB, hWs, bx⟩ := fbox_new w len A l.length c 26
  have hfW := hf.later hB
  have HB := Lib.hid hB
  clear hB hf
  obtain ⟨c0, c1⟩ := bx _ (Below.refl _ _)
  by_cases hq : rightB len l = true
  · have HQ := Lib.hid hq
    clear hq
    by_cases h1 : 0 ≤ t
    · by_cases h2 : t ≤ 1099511627776
      · have HX := Lib.hid (show mayB len l t = true by unfold mayB; rw [HQ.out]; rw [decide_eq_true (show 0 ≤ t ∧ t ≤ 1099511627776 by omega)]; rfl)
        go_enter Try.func24, Try.ntmps24
        go_wp2_with (first | (rw [← HW.out]) | (go_at_call 32; ((with_reducible refine (right_is len l A c _ _ hfW HQ.out).mono ?_); rintro e w5 ⟨rfl, hb5⟩)))
        go_ret
        exact ⟨by rw [HX.out]; rfl, HB.out.trans (hb5.mono HB.out.size)⟩
      · have h2d : decide (t ≤ 1099511627776) = false := decide_eq_false h2
        have HX := Lib.hid (show mayB len l t = false by unfold mayB; rw [HQ.out]; first | (rw [decide_eq_false (show ¬ (0 ≤ t ∧ t ≤ 1099511627776) by omega)]; rfl) | rfl)
        go_enter Try.func24, Try.ntmps24
        go_wp2_with (first | (rw [← HW.out]) | (go_at_call 32; ((with_reducible refine (right_is len l A c _ _ hfW HQ.out).mono ?_); rintro e w5 ⟨rfl, hb5⟩)))
        go_ret
        exact ⟨by rw [HX.out]; rfl, HB.out.trans (hb5.mono HB.out.size)⟩
    · have h1d : decide (0 ≤ t) = false := decide_eq_false h1
      have HX := Lib.hid (show mayB len l t = false by unfold mayB; rw [HQ.out]; first | (rw [decide_eq_false (show ¬ (0 ≤ t ∧ t ≤ 1099511627776) by omega)]; rfl) | rfl)
      go_enter Try.func24, Try.ntmps24
      go_wp2_with (first | (rw [← HW.out]) | (go_at_call 32; ((with_reducible refine (right_is len l A c _ _ hfW HQ.out).mono ?_); rintro e w5 ⟨rfl, hb5⟩)))
      go_ret
      exact ⟨by rw [HX.out]; rfl, HB.out.trans (hb5.mono HB.out.size)⟩
  · have HQ := Lib.hid (show rightB len l = false by simpa using hq)
    clear hq
    have HX := Lib.hid (show mayB len l t = false by unfold mayB; rw [HQ.out]; first | (rw [decide_eq_false (show ¬ (0 ≤ t ∧ t ≤ 1099511627776) by omega)]; rfl) | rfl)
    go_enter Try.func24, Try.ntmps24
    go_wp2_with (first | (rw [← HW.out]) | (go_at_call 32; ((with_reducible refine (right_is len l A c _ _ hfW HQ.out).mono ?_); rintro e w5 ⟨rfl, hb5⟩)))
    go_ret
    exact ⟨by rw [HX.out]; rfl, HB.out.trans (hb5.mono HB.out.size)⟩
theorem may_is (len : Int) (l : List (List Int)) (A : Option Addr) (c : Nat) (t : Int) (q : Bool) (w : World) (hf : FIn w len l A) (h : mayB len l t = q) : Calls Try.prog 24 #[.agg #[.int .i64 len, .slice A l.length c], .int .i64 t] w fun e w' => e = .returned (.bool q) ∧ Below w.heap.size w w' := by subst h; exact may_b len l A c t w hf

set_option maxRecDepth 100000 in
set_option maxHeartbeats 1600000 in
theorem rtick_b (len : Int) (l : List (List Int)) (A : Option Addr) (c : Nat) (t : Int) (w : World) (hf : FIn w len l A) : Calls Try.prog 33 #[.agg #[.int .i64 len, .slice A l.length c], .int .i64 t] w fun e w' => e = .returned (.bool (mayB len l t)) ∧ Below w.heap.size w w' := by
  obtain ⟨W, HW, hB, hWs, bx⟩ := fbox_new w len A l.length c 26
  have hfW := hf.later hB
  have HB := Lib.hid hB
  clear hB hf
  obtain ⟨c0, c1⟩ := bx _ (Below.refl _ _)
  obtain ⟨q, hq⟩ : ∃ q, rightB len l = q := ⟨_, rfl⟩
  have HQ := Lib.hid hq
  clear hq
  by_cases h1 : 0 ≤ t
  · by_cases h2 : t ≤ 1099511627776
    · cases q with
      | true =>
        have HX := Lib.hid (show mayB len l t = true by unfold mayB; rw [HQ.out]; rw [decide_eq_true (show 0 ≤ t ∧ t ≤ 1099511627776 by omega)]; rfl)
        go_enter Try.func33, Try.ntmps33
        go_wp2_with (first | (rw [← HW.out]) | (go_at_call 36; ((with_reducible refine (rright_is len l A c _ _ hfW HQ.out).mono ?_); rintro e w5 ⟨rfl, hb5⟩)))
        go_ret
        exact ⟨by rw [HX.out]; rfl, HB.out.trans (hb5.mono HB.out.size)⟩
      | false =>
        have HX := Lib.hid (show mayB len l t = false by unfold mayB; rw [HQ.out]; first | (rw [decide_eq_false (show ¬ (0 ≤ t ∧ t ≤ 1099511627776) by omega)]; rfl) | rfl)
        go_enter Try.func33, Try.ntmps33
        go_wp2_with (first | (rw [← HW.out]) | (go_at_call 36; ((with_reducible refine (rright_is len l A c _ _ hfW HQ.out).mono ?_); rintro e w5 ⟨rfl, hb5⟩)))
        go_ret
        exact ⟨by rw [HX.out]; rfl, HB.out.trans (hb5.mono HB.out.size)⟩
    · have h2d : decide (t ≤ 1099511627776) = false := decide_eq_false h2
      have HX := Lib.hid (show mayB len l t = false by unfold mayB; rw [decide_eq_false (show ¬ (0 ≤ t ∧ t ≤ 1099511627776) by omega), Bool.and_false])
      go_enter Try.func33, Try.ntmps33
      go_wp2_with (first | (rw [← HW.out]) | (go_at_call 36; ((with_reducible refine (rright_is len l A c _ _ hfW HQ.out).mono ?_); rintro e w5 ⟨rfl, hb5⟩)))
      go_ret
      exact ⟨by rw [HX.out]; rfl, HB.out⟩
  · have h1d : decide (0 ≤ t) = false := decide_eq_false h1
    have HX := Lib.hid (show mayB len l t = false by unfold mayB; rw [decide_eq_false (show ¬ (0 ≤ t ∧ t ≤ 1099511627776) by omega), Bool.and_false])
    go_enter Try.func33, Try.ntmps33
    go_wp2_with (first | (rw [← HW.out]) | (go_at_call 36; ((with_reducible refine (rright_is len l A c _ _ hfW HQ.out).mono ?_); rintro e w5 ⟨rfl, hb5⟩)))
    go_ret
    exact ⟨by rw [HX.out]; rfl, HB.out⟩
theorem rtick_is (len : Int) (l : List (List Int)) (A : Option Addr) (c : Nat) (t : Int) (q : Bool) (w : World) (hf : FIn w len l A) (h : mayB len l t = q) : Calls Try.prog 33 #[.agg #[.int .i64 len, .slice A l.length c], .int .i64 t] w fun e w' => e = .returned (.bool q) ∧ Below w.heap.size w w' := by subst h; exact rtick_b len l A c t w hf

theorem isOpen_b (x0 x1 x2 p : Int) (w : World) (h0 : 0 ≤ x1) (h1 : 1 ≤ x2) (h2 : x1 + x2 ≤ 64) : Calls Try.prog 26 #[.agg #[.int .i64 x0, .int .i64 x1, .int .i64 x2], .int .i64 p] w fun e w' => e = .returned (.bool (openB p [x0, x1, x2])) ∧ Below w.heap.size w w' := by
  by_cases g1 : x1 ≤ p
  · by_cases g2 : p < x1 + x2
    · have HX := Lib.hid (show openB p [x0, x1, x2] = true from (show decide (x1 ≤ p ∧ p < x1 + x2) = true from decide_eq_true (by omega)))
      go_enter Try.func26, Try.ntmps26
      go_wp2
      go_ret
      exact ⟨by rw [HX.out]; rfl, (Below.refl _ _).alloc (Nat.le_refl _) _⟩
    · have g2d : decide (p < x1 + x2) = false := decide_eq_false g2
      have HX := Lib.hid (show openB p [x0, x1, x2] = false from (show decide (x1 ≤ p ∧ p < x1 + x2) = false from decide_eq_false (by omega)))
      go_enter Try.func26, Try.ntmps26
      go_wp2
      go_ret
      exact ⟨by rw [HX.out]; rfl, (Below.refl _ _).alloc (Nat.le_refl _) _⟩
  · have g1d : decide (x1 ≤ p) = false := decide_eq_false g1
    have HX := Lib.hid (show openB p [x0, x1, x2] = false from (show decide (x1 ≤ p ∧ p < x1 + x2) = false from decide_eq_false (by omega)))
    go_enter Try.func26, Try.ntmps26
    go_wp2
    go_ret
    exact ⟨by rw [HX.out]; rfl, (Below.refl _ _).alloc (Nat.le_refl _) _⟩
theorem isEnt_b (x0 x1 x2 p : Int) (w : World) (h0 : 0 ≤ x1) (h1 : 1 ≤ x2) (h2 : x1 + x2 ≤ 64) : Calls Try.prog 28 #[.agg #[.int .i64 x0, .int .i64 x1, .int .i64 x2], .int .i64 p] w fun e w' => e = .returned (.bool (entB p [x0, x1, x2])) ∧ Below w.heap.size w w' := by
  by_cases g1 : p = x1
  · have g1a : ((p : Int) == x1) = true := by simp [g1]
    have g1b : ((p : Int) != x1) = false := by simp [g1]
    have HX := Lib.hid (show entB p [x0, x1, x2] = true from (show decide (p = x1) = true from decide_eq_true (by omega)))
    go_enter Try.func28, Try.ntmps28
    go_wp2
    go_ret
    exact ⟨by rw [HX.out]; rfl, (Below.refl _ _).alloc (Nat.le_refl _) _⟩
  · have g1a : ((p : Int) == x1) = false := by simp [g1]
    have g1b : ((p : Int) != x1) = true := by simp [g1]
    have HX := Lib.hid (show entB p [x0, x1, x2] = false from (show decide (p = x1) = false from decide_eq_false (by omega)))
    go_enter Try.func28, Try.ntmps28
    go_wp2
    go_ret
    exact ⟨by rw [HX.out]; rfl, (Below.refl _ _).alloc (Nat.le_refl _) _⟩
theorem isOpen_is (x0 x1 x2 p : Int) (q : Bool) (w : World) (h : 0 ≤ x1 ∧ 1 ≤ x2 ∧ x1 + x2 ≤ 64) (hq : openB p [x0, x1, x2] = q) : Calls Try.prog 26 #[.agg #[.int .i64 x0, .int .i64 x1, .int .i64 x2], .int .i64 p] w fun e w' => e = .returned (.bool q) ∧ Below w.heap.size w w' := by subst hq; exact isOpen_b x0 x1 x2 p w h.1 h.2.1 h.2.2
theorem isEnt_is (x0 x1 x2 p : Int) (q : Bool) (w : World) (h : 0 ≤ x1 ∧ 1 ≤ x2 ∧ x1 + x2 ≤ 64) (hq : entB p [x0, x1, x2] = q) : Calls Try.prog 28 #[.agg #[.int .i64 x0, .int .i64 x1, .int .i64 x2], .int .i64 p] w fun e w' => e = .returned (.bool q) ∧ Below w.heap.size w w' := by subst hq; exact isEnt_b x0 x1 x2 p w h.1 h.2.1 h.2.2
end Go.Proofs.Ytfpcldkgcifciaa
