/- The document's At, Enters, as contracts. No condition but those in the statements. -/
import Derived.Test.YtfpcldkgcifciaaRAt1
import Derived.BigQuiet
import Derived.IntWalk
import Derived.BigRegion
import Derived.OpenShut
namespace Go.Proofs.Ytfpcldkgcifciaa
open Go.RowKit Go.Sort Go.ChangeShapes Go.WideShapes
set_option linter.unusedVariables false
set_option linter.unusedSimpArgs false


theorem at_cases (len : Int) (l : List (List Int)) (t : Int) : (atI len l t = -1 ∧ atO openB len l t = none ∧ atO entB len l t = none) ∨
    (∃ k : Nat, k < l.length ∧ mayB len l t = true ∧ atI len l t = (k : Int) ∧ atO openB len l t = some (fld (row l k) 0) ∧ atO entB len l t = if fld (row l k) 1 = t % len then some (fld (row l k) 0) else none) := by
  cases hm : mayB len l t with
  | false => exact .inl ⟨atI_no hm, by unfold atO; rw [hm]; rfl, by unfold atO; rw [hm]; rfl⟩
  | true =>
    have hR := (may_rt hm).1
    have hA := atI_yes hm rfl
    cases hw : whoI openB l (t % len) with
    | none => exact .inl ⟨by rw [hA, hw]; rfl, by unfold atO whoO; rw [if_pos hm, hw]; rfl, by unfold atO whoO; rw [if_pos hm, ent_none hR hw]; rfl⟩
    | some k =>
      refine .inr ⟨k, (firstN_iff.1 hw).1, rfl, by rw [hA, hw]; rfl, by unfold atO whoO; rw [if_pos hm, hw]; rfl, ?_⟩
      unfold atO whoO
      rw [if_pos hm, ent_some hR hw]
      by_cases e : fld (row l k) 1 = t % len
      · rw [if_pos e, if_pos e]; rfl
      · rw [if_neg e, if_neg e]; rfl
theorem rat1_is (len : Int) (l : List (List Int)) (A : Option Addr) (c : Nat) (t k : Int) (w : World) (hf : FIn w len l A) (h : atI len l t = k) : Calls Try.prog 27 #[.agg #[.int .i64 len, .slice A l.length c], .int .i64 t] w fun e w' => e = .returned (.int .i64 k) ∧ Below w.heap.size w w' := by subst h; exact rat1_b len l A c t w hf

set_option maxRecDepth 100000 in
set_option maxHeartbeats 1600000 in
theorem rat_b (len : Int) (l : List (List Int)) (A : Option Addr) (c : Nat) (t : Int) (w : World) (hf : FIn w len l A) : Calls Try.prog 20 #[.agg #[.int .i64 len, .slice A l.length c], .int .i64 t] w fun e w' => e = .returned (ptV (atO openB len l t)) ∧ Below w.heap.size w w' := by
  obtain ⟨W, HW, hB, hWs, bx⟩ := fbox_new w len A l.length c 26
  have hfW := hf.later hB
  have HB := Lib.hid hB
  clear hB hf
  obtain ⟨c0, c1⟩ := bx _ (Below.refl _ _)
  rcases at_cases len l t with ⟨h1, h2, h3⟩ | ⟨i, hlt, hm, h1, h2, h3⟩
  · have HX := Lib.hid h2
    have H1 := Lib.hid h1
    clear h1 h2 h3
    go_enter Try.func20, Try.ntmps20
    go_wp2_with (first | (rw [← HW.out]) | fail)
    refine (rat1_is len l A c t _ _ hfW H1.out).mono ?_
    rintro e w5 ⟨rfl, hb5⟩
    skip
    go_wp2_with fail
    go_ret2
    exact ⟨by rw [HX.out]; rfl, HB.out.trans (hb5.mono HB.out.size)⟩
  · have H1 := Lib.hid h1
    obtain ⟨b, o, x0, x1, x2, e0, hbl, e1, ⟨hw0, hw1, hw2⟩, k0⟩ := hfW.row.at3 hfW.wf hlt
    subst e0
    rw [row_at e1] at h2 h3
    have h4 : atO openB len l t = some x0 := h2
    have g0 : (0 : Int) ≤ (i : Int) := by omega
    have g1 : (i : Int) < (l.length : Int) := by omega
    have g2 : ¬ (i : Int) < 0 := by omega
    have g3 : decide ((i : Int) < 0) = false := decide_eq_false g2
    have HM := Lib.hid hm
    clear h1 h2 h3 e1 hm
    have HX := Lib.hid h4
    clear h4
    go_enter Try.func20, Try.ntmps20
    go_wp2_with (first | (rw [← HW.out]) | fail)
    refine (rat1_is len l (some ⟨b, o, none⟩) c t _ _ hfW H1.out).mono ?_
    rintro e w5 ⟨rfl, hb5⟩
    have k1 := k0 _ hb5
    obtain ⟨p0, p1, p2⟩ := k1
    obtain ⟨d0, d1⟩ := bx _ hb5
    clear c0 c1
    go_wp2
    go_ret2
    exact ⟨by rw [HX.out]; rfl, HB.out.trans (hb5.mono HB.out.size)⟩

set_option maxRecDepth 100000 in
set_option maxHeartbeats 1600000 in
theorem renters_b (len : Int) (l : List (List Int)) (A : Option Addr) (c : Nat) (t : Int) (w : World) (hf : FIn w len l A) : Calls Try.prog 22 #[.agg #[.int .i64 len, .slice A l.length c], .int .i64 t] w fun e w' => e = .returned (ptV (atO entB len l t)) ∧ Below w.heap.size w w' := by
  obtain ⟨W, HW, hB, hWs, bx⟩ := fbox_new w len A l.length c 26
  have hfW := hf.later hB
  have HB := Lib.hid hB
  clear hB hf
  obtain ⟨c0, c1⟩ := bx _ (Below.refl _ _)
  rcases at_cases len l t with ⟨h1, h2, h3⟩ | ⟨i, hlt, hm, h1, h2, h3⟩
  · have HX := Lib.hid h3
    have H1 := Lib.hid h1
    clear h1 h2 h3
    go_enter Try.func22, Try.ntmps22
    go_wp2_with (first | (rw [← HW.out]) | fail)
    refine (rat1_is len l A c t _ _ hfW H1.out).mono ?_
    rintro e w5 ⟨rfl, hb5⟩
    obtain ⟨d0, d1⟩ := bx _ hb5
    have f0 : ∀ p : Regrown, (grow (redrawn w5 p.d) p.os).cell? ⟨w.heap.size, 0, none⟩ = some (.int .i64 len) := fun p => cell_regrown (d0) p.d p.os
    have f1 : ∀ p : Regrown, (grow (redrawn w5 p.d) p.os).cell? ⟨w.heap.size, 1, none⟩ = some (.slice A l.length c) := fun p => cell_regrown (d1) p.d p.os
    have hbq := Below.refl w5.heap.size w5
    clear c0 c1 d0 d1
    go_wp2_with ((first | with_reducible refine wpList_on hbq ?_ | with_reducible refine wp_on hbq (by kernel_rfl) (by kernel_rfl) ?_); (repeat (go_big_quiet_step (fail))); with_reducible refine wpQuiet_nil ?_; intro wc hbq)
    go_ret2
    exact ⟨by rw [HX.out]; rfl, HB.out.trans ((hb5.trans (hbq.mono hb5.size)).mono HB.out.size)⟩
  · have H1 := Lib.hid h1
    obtain ⟨b, o, x0, x1, x2, e0, hbl, e1, ⟨hw0, hw1, hw2⟩, k0⟩ := hfW.row.at3 hfW.wf hlt
    subst e0
    rw [row_at e1] at h2 h3
    have h4 : atO entB len l t = if x1 = t % len then some x0 else none := h3
    have g0 : (0 : Int) ≤ (i : Int) := by omega
    have g1 : (i : Int) < (l.length : Int) := by omega
    have g2 : ¬ (i : Int) < 0 := by omega
    have g3 : decide ((i : Int) < 0) = false := decide_eq_false g2
    have HM := Lib.hid hm
    clear h1 h2 h3 e1 hm
    obtain ⟨hR, t0, t1, -⟩ := may_rt HM.out
    have hlo := hR.lo
    have hrem : t.tmod len = t % len := Int.tmod_eq_emod_of_nonneg t0
    have hp0 := Int.emod_nonneg t (show len ≠ 0 by omega)
    have hp1 := Int.emod_lt_of_pos t (show 0 < len by omega)
    have hz : ¬ len = 0 := by omega
    have hza : (len == 0) = false := by simp [hz]
    have hhi := hR.hi
    obtain ⟨p, hp⟩ : ∃ p, t % len = p := ⟨_, rfl⟩
    rw [hp] at hrem hp0 hp1 h4
    clear hR hp
    by_cases he : x1 = p
    · have HX := Lib.hid (show atO entB len l t = some x0 by rw [h4, if_pos he])
      have hea : (x1 != p) = false := by simp [he]
      clear h4 he
      go_enter Try.func22, Try.ntmps22
      go_wp2_with (first | (rw [← HW.out]) | fail)
      refine (rat1_is len l (some ⟨b, o, none⟩) c t _ _ hfW H1.out).mono ?_
      rintro e w5 ⟨rfl, hb5⟩
      have k1 := k0 _ hb5
      obtain ⟨p0, p1, p2⟩ := k1
      obtain ⟨d0, d1⟩ := bx _ hb5
      have f0 : ∀ p : Regrown, (grow (redrawn w5 p.d) p.os).cell? ⟨w.heap.size, 0, none⟩ = some (.int .i64 len) := fun p => cell_regrown (d0) p.d p.os
      have f1 : ∀ p : Regrown, (grow (redrawn w5 p.d) p.os).cell? ⟨w.heap.size, 1, none⟩ = some (.slice (some ⟨b, o, none⟩) l.length c) := fun p => cell_regrown (d1) p.d p.os
      have s0 : ∀ p : Regrown, (grow (redrawn w5 p.d) p.os).cell? ⟨b, o + i * 3, none⟩ = some (.int .i64 x0) := fun p => cell_regrown (p0) p.d p.os
      have s1 : ∀ p : Regrown, (grow (redrawn w5 p.d) p.os).cell? ⟨b, o + i * 3 + 1, none⟩ = some (.int .i64 x1) := fun p => cell_regrown (p1) p.d p.os
      have s2 : ∀ p : Regrown, (grow (redrawn w5 p.d) p.os).cell? ⟨b, o + i * 3 + 2, none⟩ = some (.int .i64 x2) := fun p => cell_regrown (p2) p.d p.os
      have hbq := Below.refl w5.heap.size w5
      have HW5 := Lib.hid (HB.out.trans (hb5.mono HB.out.size))
      clear c0 c1 p0 p1 p2 d0 d1 k0 hb5
      go_wp2_with ((first | with_reducible refine wpList_on hbq ?_ | with_reducible refine wp_on hbq (by kernel_rfl) (by kernel_rfl) ?_); (repeat (go_big_quiet_step (fail))); with_reducible refine wpQuiet_nil ?_; intro wc hbq)
      go_ret2
      exact ⟨by rw [HX.out]; rfl, HW5.out.trans (hbq.mono HW5.out.size)⟩
    · have HX := Lib.hid (show atO entB len l t = none by rw [h4, if_neg he])
      have hea : (x1 != p) = true := by simp [he]
      clear h4 he
      go_enter Try.func22, Try.ntmps22
      go_wp2_with (first | (rw [← HW.out]) | fail)
      refine (rat1_is len l (some ⟨b, o, none⟩) c t _ _ hfW H1.out).mono ?_
      rintro e w5 ⟨rfl, hb5⟩
      have k1 := k0 _ hb5
      obtain ⟨p0, p1, p2⟩ := k1
      obtain ⟨d0, d1⟩ := bx _ hb5
      have f0 : ∀ p : Regrown, (grow (redrawn w5 p.d) p.os).cell? ⟨w.heap.size, 0, none⟩ = some (.int .i64 len) := fun p => cell_regrown (d0) p.d p.os
      have f1 : ∀ p : Regrown, (grow (redrawn w5 p.d) p.os).cell? ⟨w.heap.size, 1, none⟩ = some (.slice (some ⟨b, o, none⟩) l.length c) := fun p => cell_regrown (d1) p.d p.os
      have s0 : ∀ p : Regrown, (grow (redrawn w5 p.d) p.os).cell? ⟨b, o + i * 3, none⟩ = some (.int .i64 x0) := fun p => cell_regrown (p0) p.d p.os
      have s1 : ∀ p : Regrown, (grow (redrawn w5 p.d) p.os).cell? ⟨b, o + i * 3 + 1, none⟩ = some (.int .i64 x1) := fun p => cell_regrown (p1) p.d p.os
      have s2 : ∀ p : Regrown, (grow (redrawn w5 p.d) p.os).cell? ⟨b, o + i * 3 + 2, none⟩ = some (.int .i64 x2) := fun p => cell_regrown (p2) p.d p.os
      have hbq := Below.refl w5.heap.size w5
      have HW5 := Lib.hid (HB.out.trans (hb5.mono HB.out.size))
      clear c0 c1 p0 p1 p2 d0 d1 k0 hb5
      go_wp2_with ((first | with_reducible refine wpList_on hbq ?_ | with_reducible refine wp_on hbq (by kernel_rfl) (by kernel_rfl) ?_); (repeat (go_big_quiet_step (fail))); with_reducible refine wpQuiet_nil ?_; intro wc hbq)
      go_ret2
      exact ⟨by rw [HX.out]; rfl, HW5.out.trans (hbq.mono HW5.out.size)⟩
end Go.Proofs.Ytfpcldkgcifciaa
