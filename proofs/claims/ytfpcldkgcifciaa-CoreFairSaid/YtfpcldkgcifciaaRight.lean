/- Frames by value; Right of both sides, as contracts. No condition but those in the statements. -/
import Derived.Test.YtfpcldkgcifciaaFrm
import Derived.Test.YtfpcldkgcifciaaProg
import Derived.Test.YtfpcldkgcifciaaOff
import Derived.BigQuiet
import Derived.IntWalk
import Derived.BigRegion
import Derived.OpenShut
namespace Go.Proofs.Ytfpcldkgcifciaa
open Go.RowKit Go.Sort Go.ChangeShapes Go.WideShapes
set_option linter.unusedVariables false
set_option linter.unusedSimpArgs false


/-- A frame by value lies so in the world. -/
structure FIn (w : World) (len : Int) (l : List (List Int)) (A : Option Addr) : Prop where
  row : RowN [.i64, .i64, .i64] w w.heap.size A l
  wf : wfR [.i64, .i64, .i64] l
  few : l.length ≤ 1000000
  int : (Lit.int .i64 len).wf = true
theorem FIn.later {w w' : World} {len : Int} {l : List (List Int)} {A : Option Addr} (h : FIn w len l A) (hb : Below w.heap.size w w') : FIn w' len l A := ⟨h.row.later hb, h.wf, h.few, h.int⟩
theorem fbox_new (w : World) (len : Int) (A : Option Addr) (n c : Nat) (t : TypeId) : ∃ W, Hid (W = w.alloc (.cells #[.int .i64 len, .slice A n c] t)) ∧ Below w.heap.size w W ∧ w.heap.size < W.heap.size ∧
    (∀ w', Below W.heap.size W w' → w'.cell? ⟨w.heap.size, 0, none⟩ = some (.int .i64 len) ∧ w'.cell? ⟨w.heap.size, 1, none⟩ = some (.slice A n c)) := by
  refine ⟨_, rfl, (Below.refl _ _).alloc (Nat.le_refl _) _, by simp, fun w' hb => ?_⟩
  have h : ∀ o v, (w.alloc (.cells #[.int .i64 len, .slice A n c] t)).cell? ⟨w.heap.size, o, none⟩ = some v → w'.cell? ⟨w.heap.size, o, none⟩ = some v := fun o v h => (hb.cell (p := ⟨w.heap.size, o, none⟩) (by simp)).trans h
  exact ⟨h 0 _ (cell_blk (heap_alloc_new w _) rfl), h 1 _ (cell_blk (heap_alloc_new w _) rfl)⟩

set_option maxRecDepth 100000 in
set_option maxHeartbeats 4000000 in
theorem right_b (len : Int) (l : List (List Int)) (A : Option Addr) (c : Nat) (w : World) (hf : FIn w len l A) : Calls Try.prog 32 #[.agg #[.int .i64 len, .slice A l.length c]] w fun e w' => e = .returned (.bool (rightB len l)) ∧ Below w.heap.size w w' := by
  obtain ⟨W, HW, hB, hWs, bx⟩ := fbox_new w len A l.length c 26
  have hfW := hf.later hB
  have HB := Lib.hid hB
  clear hB hf
  obtain ⟨u0, u1⟩ := bounds_i64 hfW.int
  obtain ⟨c0, c1⟩ := bx _ (Below.refl _ _)
  by_cases h1 : len < 1
  · have HX := Lib.hid (show rightB len l = false from right_head (decide_eq_false (by omega)))
    go_enter Try.func32, Try.ntmps32
    go_wp2
    go_ret
    exact ⟨by rw [HX.out]; rfl, (Below.refl _ _).alloc (Nat.le_refl _) _⟩
  · have h1d : decide (len < 1) = false := decide_eq_false h1
    by_cases h2 : 64 < len
    · have HX := Lib.hid (show rightB len l = false from right_head (decide_eq_false (by omega)))
      go_enter Try.func32, Try.ntmps32
      go_wp2
      go_ret
      exact ⟨by rw [HX.out]; rfl, (Below.refl _ _).alloc (Nat.le_refl _) _⟩
    · have h2d : decide (64 < len) = false := decide_eq_false h2
      by_cases h3 : (16 : Int) < (l.length : Int)
      · have HX := Lib.hid (show rightB len l = false from right_head (decide_eq_false (by omega)))
        go_enter Try.func32, Try.ntmps32
        go_wp2
        go_ret
        exact ⟨by rw [HX.out]; rfl, (Below.refl _ _).alloc (Nat.le_refl _) _⟩
      · have h3d : decide ((16 : Int) < (l.length : Int)) = false := decide_eq_false h3
        have HH := Lib.hid (show headB len l = true from decide_eq_true (by omega))
        go_enter Try.func32, Try.ntmps32
        go_wp2
        clear c0 c1
        go_loopw [3, 23] (fun ev ix wr => ∃ i : Nat, i ≤ l.length ∧ ix = .int .i64 i ∧ ev = .int .i64 (endAt l i) ∧ scan i (badW len l) = false ∧ Below W.heap.size W wr) (fun _ ix _ => l.length - (intOf ix).toNat)
        case atStart => exact ⟨0, Nat.zero_le _, rfl, rfl, rfl, (by rw [← HW.out]; exact Below.refl _ _)⟩
        case round =>
          obtain ⟨i, hi, rfl, rfl, ht, hbc⟩ := hrel
          have HT := Lib.hid ht
          obtain ⟨he0, he1⟩ := end_in (len := len) (l := l) (by omega) ht
          obtain ⟨e, he⟩ : ∃ e, endAt l i = e := ⟨_, rfl⟩
          rw [he] at he0 he1
          have HE := Lib.hid he
          rw [he]
          obtain ⟨c0, c1⟩ := bx _ hbc
          clear ht he
          by_cases hlt : i < l.length
          · obtain ⟨b, o, x0, x1, x2, e0, hbl, e1, ⟨hw0, hw1, hw2⟩, k0⟩ := hfW.row.at3 hfW.wf hlt
            subst e0
            have k0 := k0 _ hbc
            obtain ⟨p0, p1, p2⟩ := k0
            have E1 := Lib.hid e1
            obtain ⟨s0, s1⟩ := bounds_i64 hw1
            obtain ⟨t0, t1⟩ := bounds_i64 hw2
            obtain ⟨c2, c3⟩ := bx _ (hbc.alloc hbc.size (.cells #[.int .i64 x0, .int .i64 x1, .int .i64 x2] 49))
            clear e1
            by_cases h1 : x1 < e
            · have HX := Lib.hid (show rightB len l = false from right_bad (scan_hit (f := badW len l) hlt (by rw [badW_at E1.out]; rw [HE.out]; exact (show (!decide (e ≤ x1 ∧ 1 ≤ x2 ∧ x2 ≤ len - x1)) = true by rw [decide_eq_false (by omega)]; rfl))))
              go_wp2
              go_ret
              exact ⟨by rw [HX.out]; rfl, HB.out.trans ((hbc.alloc hbc.size _).mono HB.out.size)⟩
            · have h1d : decide (x1 < e) = false := decide_eq_false h1
              by_cases h2 : x2 < 1
              · have HX := Lib.hid (show rightB len l = false from right_bad (scan_hit (f := badW len l) hlt (by rw [badW_at E1.out]; rw [HE.out]; exact (show (!decide (e ≤ x1 ∧ 1 ≤ x2 ∧ x2 ≤ len - x1)) = true by rw [decide_eq_false (by omega)]; rfl))))
                go_wp2
                go_ret
                exact ⟨by rw [HX.out]; rfl, HB.out.trans ((hbc.alloc hbc.size _).mono HB.out.size)⟩
              · have h2d : decide (x2 < 1) = false := decide_eq_false h2
                by_cases h3 : len - x1 < x2
                · have HX := Lib.hid (show rightB len l = false from right_bad (scan_hit (f := badW len l) hlt (by rw [badW_at E1.out]; rw [HE.out]; exact (show (!decide (e ≤ x1 ∧ 1 ≤ x2 ∧ x2 ≤ len - x1)) = true by rw [decide_eq_false (by omega)]; rfl))))
                  go_wp2
                  go_ret
                  exact ⟨by rw [HX.out]; rfl, HB.out.trans ((hbc.alloc hbc.size _).mono HB.out.size)⟩
                · have h3d : decide (len - x1 < x2) = false := decide_eq_false h3
                  have HX := Lib.hid (show scan (i + 1) (badW len l) = false from scan_next HT.out (by rw [badW_at E1.out]; rw [HE.out]; exact (show (!decide (e ≤ x1 ∧ 1 ≤ x2 ∧ x2 ≤ len - x1)) = false by rw [decide_eq_true (by omega)]; rfl)))
                  have HE2 := Lib.hid (endAt_succ E1.out)
                  go_wp2
                  go_roundw
                  case rel => exact ⟨i + 1, by omega, by go_num, (by rw [HE2.out]), HX.out, hbc.alloc hbc.size _⟩
                  case measure => simp [intOf]; omega
          · have HS := Lib.hid (show rightB len l = true from right_all HH.out (by have h := HT.out; rw [show i = l.length by omega] at h; exact h))
            clear HT
            go_wp2
            go_ret
            exact ⟨by rw [HS.out]; rfl, HB.out.trans (hbc.mono HB.out.size)⟩

set_option maxRecDepth 100000 in
set_option maxHeartbeats 4000000 in
theorem rright_b (len : Int) (l : List (List Int)) (A : Option Addr) (c : Nat) (w : World) (hf : FIn w len l A) : Calls Try.prog 36 #[.agg #[.int .i64 len, .slice A l.length c]] w fun e w' => e = .returned (.bool (rightB len l)) ∧ Below w.heap.size w w' := by
  obtain ⟨W, HW, hB, hWs, bx⟩ := fbox_new w len A l.length c 26
  have hfW := hf.later hB
  have HB := Lib.hid hB
  clear hB hf
  obtain ⟨u0, u1⟩ := bounds_i64 hfW.int
  obtain ⟨c0, c1⟩ := bx _ (Below.refl _ _)
  by_cases h1 : len < 1
  · have HX := Lib.hid (show rightB len l = false from right_head (decide_eq_false (by omega)))
    go_enter Try.func36, Try.ntmps36
    go_wp2
    go_ret
    exact ⟨by rw [HX.out]; rfl, (Below.refl _ _).alloc (Nat.le_refl _) _⟩
  · have h1d : decide (len < 1) = false := decide_eq_false h1
    by_cases h2 : 64 < len
    · have HX := Lib.hid (show rightB len l = false from right_head (decide_eq_false (by omega)))
      go_enter Try.func36, Try.ntmps36
      go_wp2
      go_ret
      exact ⟨by rw [HX.out]; rfl, (Below.refl _ _).alloc (Nat.le_refl _) _⟩
    · have h2d : decide (64 < len) = false := decide_eq_false h2
      by_cases h3 : (16 : Int) < (l.length : Int)
      · have HX := Lib.hid (show rightB len l = false from right_head (decide_eq_false (by omega)))
        go_enter Try.func36, Try.ntmps36
        go_wp2
        go_ret
        exact ⟨by rw [HX.out]; rfl, (Below.refl _ _).alloc (Nat.le_refl _) _⟩
      · have h3d : decide ((16 : Int) < (l.length : Int)) = false := decide_eq_false h3
        have HH := Lib.hid (show headB len l = true from decide_eq_true (by omega))
        go_enter Try.func36, Try.ntmps36
        go_wp2_with (rw [← HW.out])
        clear c0 c1
        go_loopw [3] (fun ix wr => ∃ i : Nat, i ≤ l.length ∧ ix = .int .i64 i ∧ scan i (badW len l) = false ∧ Below W.heap.size W wr) (fun ix _ => l.length - (intOf ix).toNat)
        case atStart => exact ⟨0, Nat.zero_le _, rfl, rfl, Below.refl _ _⟩
        case round =>
          obtain ⟨i, hi, rfl, ht, hbc⟩ := hrel
          have HT := Lib.hid ht
          obtain ⟨he0, he1⟩ := end_in (len := len) (l := l) (by omega) ht
          obtain ⟨e, he⟩ : ∃ e, endAt l i = e := ⟨_, rfl⟩
          rw [he] at he0 he1
          have HE := Lib.hid he
          clear ht he
          by_cases hlt : i < l.length
          · by_cases hi0 : i = 0
            · have he3 : e = 0 := by rw [← HE.out, hi0]; rfl
              have HI0 := Lib.hid hi0
              have hi1 : ¬ (0 < i) := by omega
              clear hi0
              obtain ⟨b, o, x0, x1, x2, e0, hbl, e1, ⟨hw0, hw1, hw2⟩, k0⟩ := hfW.row.at3 hfW.wf hlt
              subst e0
              have E1 := Lib.hid e1
              have e1 : ¬ (0 < i) := by omega
              have e2 : decide (0 < i) = false := decide_eq_false e1
              obtain ⟨wa, hwa⟩ : ∃ u, Hid (u = wr.alloc (.cells #[.int .i64 x0, .int .i64 x1, .int .i64 x2] 49)) := ⟨_, rfl⟩
              have hba : Below wr.heap.size wr wa := by rw [hwa.out]; exact (Below.refl _ _).alloc (Nat.le_refl _) _
              have hxa : wa.heap[wr.heap.size]? = some (.cells #[.int .i64 x0, .int .i64 x1, .int .i64 x2] 49 (0, 0)) := by rw [hwa.out]; exact heap_alloc_new _ _
              have hwb := hbc.trans (hba.mono hbc.size)
              have HWB := Lib.hid hwb
              obtain ⟨c2, c3⟩ := bx _ hbc
              obtain ⟨d0, d1⟩ := bx _ hwb
              have k1 := k0 _ hbc
              obtain ⟨p0, p1, p2⟩ := k1
              have f0 : ∀ p : Regrown, (grow (redrawn wa p.d) p.os).cell? ⟨w.heap.size, 0, none⟩ = some (.int .i64 len) := fun p => cell_regrown (d0) p.d p.os
              have f1 : ∀ p : Regrown, (grow (redrawn wa p.d) p.os).cell? ⟨w.heap.size, 1, none⟩ = some (.slice (some ⟨b, o, none⟩) l.length c) := fun p => cell_regrown (d1) p.d p.os
              have a0 : ∀ p : Regrown, (grow (redrawn wa p.d) p.os).cell? ⟨wr.heap.size, 0, none⟩ = some (.int .i64 x0) := fun p => cell_regrown (cell_blk hxa (i := 0) rfl) p.d p.os
              have a1 : ∀ p : Regrown, (grow (redrawn wa p.d) p.os).cell? ⟨wr.heap.size, 1, none⟩ = some (.int .i64 x1) := fun p => cell_regrown (cell_blk hxa (i := 1) rfl) p.d p.os
              have a2 : ∀ p : Regrown, (grow (redrawn wa p.d) p.os).cell? ⟨wr.heap.size, 2, none⟩ = some (.int .i64 x2) := fun p => cell_regrown (cell_blk hxa (i := 2) rfl) p.d p.os
              have hbq := Below.refl wa.heap.size wa
              obtain ⟨s9, s8⟩ := bounds_i64 hw1
              obtain ⟨t9, t8⟩ := bounds_i64 hw2
              clear k0 d0 d1 hba hwb hxa hbc
              by_cases h1 : x1 < 0
              · have HX := Lib.hid (show rightB len l = false from right_bad (scan_hit (f := badW len l) hlt (by rw [badW_at E1.out]; rw [HE.out]; exact (show (!decide (e ≤ x1 ∧ 1 ≤ x2 ∧ x2 ≤ len - x1)) = true by rw [decide_eq_false (by omega)]; rfl))))
                go_wp2_with (first | (rw [← hwa.out]) | ((first | with_reducible refine wpList_on hbq ?_ | with_reducible refine wp_on hbq (by kernel_rfl) (by kernel_rfl) ?_); (repeat (go_big_quiet_step (fail))); with_reducible refine wpQuiet_nil ?_; intro wc hbq))
                go_ret
                exact ⟨by rw [HX.out]; rfl, HB.out.trans ((HWB.out.trans (hbq.mono HWB.out.size)).mono HB.out.size)⟩
              · have h1d : decide (x1 < 0) = false := decide_eq_false h1
                by_cases h2 : 64 < x1
                · have HX := Lib.hid (show rightB len l = false from right_bad (scan_hit (f := badW len l) hlt (by rw [badW_at E1.out]; rw [HE.out]; exact (show (!decide (e ≤ x1 ∧ 1 ≤ x2 ∧ x2 ≤ len - x1)) = true by rw [decide_eq_false (by omega)]; rfl))))
                  go_wp2_with (first | (rw [← hwa.out]) | ((first | with_reducible refine wpList_on hbq ?_ | with_reducible refine wp_on hbq (by kernel_rfl) (by kernel_rfl) ?_); (repeat (go_big_quiet_step (fail))); with_reducible refine wpQuiet_nil ?_; intro wc hbq))
                  go_ret
                  exact ⟨by rw [HX.out]; rfl, HB.out.trans ((HWB.out.trans (hbq.mono HWB.out.size)).mono HB.out.size)⟩
                · have h2d : decide (64 < x1) = false := decide_eq_false h2
                  by_cases h3 : x2 < 1
                  · have HX := Lib.hid (show rightB len l = false from right_bad (scan_hit (f := badW len l) hlt (by rw [badW_at E1.out]; rw [HE.out]; exact (show (!decide (e ≤ x1 ∧ 1 ≤ x2 ∧ x2 ≤ len - x1)) = true by rw [decide_eq_false (by omega)]; rfl))))
                    go_wp2_with (first | (rw [← hwa.out]) | ((first | with_reducible refine wpList_on hbq ?_ | with_reducible refine wp_on hbq (by kernel_rfl) (by kernel_rfl) ?_); (repeat (go_big_quiet_step (fail))); with_reducible refine wpQuiet_nil ?_; intro wc hbq))
                    go_ret
                    exact ⟨by rw [HX.out]; rfl, HB.out.trans ((HWB.out.trans (hbq.mono HWB.out.size)).mono HB.out.size)⟩
                  · have h3d : decide (x2 < 1) = false := decide_eq_false h3
                    by_cases h4 : 64 < x2
                    · have HX := Lib.hid (show rightB len l = false from right_bad (scan_hit (f := badW len l) hlt (by rw [badW_at E1.out]; rw [HE.out]; exact (show (!decide (e ≤ x1 ∧ 1 ≤ x2 ∧ x2 ≤ len - x1)) = true by rw [decide_eq_false (by omega)]; rfl))))
                      go_wp2_with (first | (rw [← hwa.out]) | ((first | with_reducible refine wpList_on hbq ?_ | with_reducible refine wp_on hbq (by kernel_rfl) (by kernel_rfl) ?_); (repeat (go_big_quiet_step (fail))); with_reducible refine wpQuiet_nil ?_; intro wc hbq))
                      go_ret
                      exact ⟨by rw [HX.out]; rfl, HB.out.trans ((HWB.out.trans (hbq.mono HWB.out.size)).mono HB.out.size)⟩
                    · have h4d : decide (64 < x2) = false := decide_eq_false h4
                      by_cases h5 : len < x1 + x2
                      · have HX := Lib.hid (show rightB len l = false from right_bad (scan_hit (f := badW len l) hlt (by rw [badW_at E1.out]; rw [HE.out]; exact (show (!decide (e ≤ x1 ∧ 1 ≤ x2 ∧ x2 ≤ len - x1)) = true by rw [decide_eq_false (by omega)]; rfl))))
                        go_wp2_with (first | (rw [← hwa.out]) | ((first | with_reducible refine wpList_on hbq ?_ | with_reducible refine wp_on hbq (by kernel_rfl) (by kernel_rfl) ?_); (repeat (go_big_quiet_step (fail))); with_reducible refine wpQuiet_nil ?_; intro wc hbq))
                        go_ret
                        exact ⟨by rw [HX.out]; rfl, HB.out.trans ((HWB.out.trans (hbq.mono HWB.out.size)).mono HB.out.size)⟩
                      · have h5d : decide (len < x1 + x2) = false := decide_eq_false h5
                        have HX := Lib.hid (show scan (i + 1) (badW len l) = false from scan_next HT.out (by rw [badW_at E1.out]; rw [HE.out]; exact (show (!decide (e ≤ x1 ∧ 1 ≤ x2 ∧ x2 ≤ len - x1)) = false by rw [decide_eq_true (by omega)]; rfl)))
                        go_wp2_with (first | (rw [← hwa.out]) | ((first | with_reducible refine wpList_on hbq ?_ | with_reducible refine wp_on hbq (by kernel_rfl) (by kernel_rfl) ?_); (repeat (go_big_quiet_step (fail))); with_reducible refine wpQuiet_nil ?_; intro wc hbq))
                        go_roundw
                        case rel => exact ⟨i + 1, by omega, by go_num, HX.out, HWB.out.trans (hbq.mono HWB.out.size)⟩
                        case measure => simp [intOf]; omega
            · have hi1 : 0 < i := by omega
              clear hi0
              obtain ⟨b, o, x0, x1, x2, e0, hbl, e1, ⟨hw0, hw1, hw2⟩, k0⟩ := hfW.row.at3 hfW.wf hlt
              subst e0
              have E1 := Lib.hid e1
              obtain ⟨j, hij⟩ : ∃ j, i - 1 = j := ⟨_, rfl⟩
              have hj : j < l.length := by omega
              have e2 : (i : Int) - 1 = (j : Int) := by omega
              obtain ⟨b', o', y0, y1, y2, e0', _, z1, ⟨hv0, hv1, hv2⟩, r0⟩ := hfW.row.at3 hfW.wf hj
              cases e0'
              have F1 := Lib.hid z1
              have he2 : y1 + y2 = e := by rw [← HE.out, show i = j + 1 by omega, endAt_succ F1.out]
              have hsum := IntWalk.i64_in (y1 + y2) (by omega)
              have e3 : 0 < i := by omega
              have e4 : (j : Int) < (l.length : Int) := by omega
              have e5 : (0 : Int) ≤ (j : Int) := by omega
              obtain ⟨wa, hwa⟩ : ∃ u, Hid (u = wr.alloc (.cells #[.int .i64 x0, .int .i64 x1, .int .i64 x2] 49)) := ⟨_, rfl⟩
              have hba : Below wr.heap.size wr wa := by rw [hwa.out]; exact (Below.refl _ _).alloc (Nat.le_refl _) _
              have hxa : wa.heap[wr.heap.size]? = some (.cells #[.int .i64 x0, .int .i64 x1, .int .i64 x2] 49 (0, 0)) := by rw [hwa.out]; exact heap_alloc_new _ _
              have hwb := hbc.trans (hba.mono hbc.size)
              have HWB := Lib.hid hwb
              obtain ⟨c2, c3⟩ := bx _ hbc
              obtain ⟨d0, d1⟩ := bx _ hwb
              have k1 := k0 _ hbc
              obtain ⟨p0, p1, p2⟩ := k1
              have f0 : ∀ p : Regrown, (grow (redrawn wa p.d) p.os).cell? ⟨w.heap.size, 0, none⟩ = some (.int .i64 len) := fun p => cell_regrown (d0) p.d p.os
              have f1 : ∀ p : Regrown, (grow (redrawn wa p.d) p.os).cell? ⟨w.heap.size, 1, none⟩ = some (.slice (some ⟨b, o, none⟩) l.length c) := fun p => cell_regrown (d1) p.d p.os
              have a0 : ∀ p : Regrown, (grow (redrawn wa p.d) p.os).cell? ⟨wr.heap.size, 0, none⟩ = some (.int .i64 x0) := fun p => cell_regrown (cell_blk hxa (i := 0) rfl) p.d p.os
              have a1 : ∀ p : Regrown, (grow (redrawn wa p.d) p.os).cell? ⟨wr.heap.size, 1, none⟩ = some (.int .i64 x1) := fun p => cell_regrown (cell_blk hxa (i := 1) rfl) p.d p.os
              have a2 : ∀ p : Regrown, (grow (redrawn wa p.d) p.os).cell? ⟨wr.heap.size, 2, none⟩ = some (.int .i64 x2) := fun p => cell_regrown (cell_blk hxa (i := 2) rfl) p.d p.os
              have r0 := r0 _ hwb
              obtain ⟨r0, r1, r2⟩ := r0
              have s0 : ∀ p : Regrown, (grow (redrawn wa p.d) p.os).cell? ⟨b, o + j * 3, none⟩ = some (.int .i64 y0) := fun p => cell_regrown (r0) p.d p.os
              have s1 : ∀ p : Regrown, (grow (redrawn wa p.d) p.os).cell? ⟨b, o + j * 3 + 1, none⟩ = some (.int .i64 y1) := fun p => cell_regrown (r1) p.d p.os
              have s2 : ∀ p : Regrown, (grow (redrawn wa p.d) p.os).cell? ⟨b, o + j * 3 + 2, none⟩ = some (.int .i64 y2) := fun p => cell_regrown (r2) p.d p.os
              have hbq := Below.refl wa.heap.size wa
              obtain ⟨s9, s8⟩ := bounds_i64 hw1
              obtain ⟨t9, t8⟩ := bounds_i64 hw2
              clear k0 d0 d1 hba hwb hxa z1 r0 r1 r2 hij hbc
              clear e1
              by_cases h1 : x1 < 0
              · have HX := Lib.hid (show rightB len l = false from right_bad (scan_hit (f := badW len l) hlt (by rw [badW_at E1.out]; rw [HE.out]; exact (show (!decide (e ≤ x1 ∧ 1 ≤ x2 ∧ x2 ≤ len - x1)) = true by rw [decide_eq_false (by omega)]; rfl))))
                go_wp2_with (first | (rw [← hwa.out]) | ((first | with_reducible refine wpList_on hbq ?_ | with_reducible refine wp_on hbq (by kernel_rfl) (by kernel_rfl) ?_); (repeat (go_big_quiet_step (fail))); with_reducible refine wpQuiet_nil ?_; intro wc hbq))
                go_ret
                exact ⟨by rw [HX.out]; rfl, HB.out.trans ((HWB.out.trans (hbq.mono HWB.out.size)).mono HB.out.size)⟩
              · have h1d : decide (x1 < 0) = false := decide_eq_false h1
                by_cases h2 : 64 < x1
                · have HX := Lib.hid (show rightB len l = false from right_bad (scan_hit (f := badW len l) hlt (by rw [badW_at E1.out]; rw [HE.out]; exact (show (!decide (e ≤ x1 ∧ 1 ≤ x2 ∧ x2 ≤ len - x1)) = true by rw [decide_eq_false (by omega)]; rfl))))
                  go_wp2_with (first | (rw [← hwa.out]) | ((first | with_reducible refine wpList_on hbq ?_ | with_reducible refine wp_on hbq (by kernel_rfl) (by kernel_rfl) ?_); (repeat (go_big_quiet_step (fail))); with_reducible refine wpQuiet_nil ?_; intro wc hbq))
                  go_ret
                  exact ⟨by rw [HX.out]; rfl, HB.out.trans ((HWB.out.trans (hbq.mono HWB.out.size)).mono HB.out.size)⟩
                · have h2d : decide (64 < x1) = false := decide_eq_false h2
                  by_cases h3 : x2 < 1
                  · have HX := Lib.hid (show rightB len l = false from right_bad (scan_hit (f := badW len l) hlt (by rw [badW_at E1.out]; rw [HE.out]; exact (show (!decide (e ≤ x1 ∧ 1 ≤ x2 ∧ x2 ≤ len - x1)) = true by rw [decide_eq_false (by omega)]; rfl))))
                    go_wp2_with (first | (rw [← hwa.out]) | ((first | with_reducible refine wpList_on hbq ?_ | with_reducible refine wp_on hbq (by kernel_rfl) (by kernel_rfl) ?_); (repeat (go_big_quiet_step (fail))); with_reducible refine wpQuiet_nil ?_; intro wc hbq))
                    go_ret
                    exact ⟨by rw [HX.out]; rfl, HB.out.trans ((HWB.out.trans (hbq.mono HWB.out.size)).mono HB.out.size)⟩
                  · have h3d : decide (x2 < 1) = false := decide_eq_false h3
                    by_cases h4 : 64 < x2
                    · have HX := Lib.hid (show rightB len l = false from right_bad (scan_hit (f := badW len l) hlt (by rw [badW_at E1.out]; rw [HE.out]; exact (show (!decide (e ≤ x1 ∧ 1 ≤ x2 ∧ x2 ≤ len - x1)) = true by rw [decide_eq_false (by omega)]; rfl))))
                      go_wp2_with (first | (rw [← hwa.out]) | ((first | with_reducible refine wpList_on hbq ?_ | with_reducible refine wp_on hbq (by kernel_rfl) (by kernel_rfl) ?_); (repeat (go_big_quiet_step (fail))); with_reducible refine wpQuiet_nil ?_; intro wc hbq))
                      go_ret
                      exact ⟨by rw [HX.out]; rfl, HB.out.trans ((HWB.out.trans (hbq.mono HWB.out.size)).mono HB.out.size)⟩
                    · have h4d : decide (64 < x2) = false := decide_eq_false h4
                      by_cases h5 : len < x1 + x2
                      · have HX := Lib.hid (show rightB len l = false from right_bad (scan_hit (f := badW len l) hlt (by rw [badW_at E1.out]; rw [HE.out]; exact (show (!decide (e ≤ x1 ∧ 1 ≤ x2 ∧ x2 ≤ len - x1)) = true by rw [decide_eq_false (by omega)]; rfl))))
                        go_wp2_with (first | (rw [← hwa.out]) | ((first | with_reducible refine wpList_on hbq ?_ | with_reducible refine wp_on hbq (by kernel_rfl) (by kernel_rfl) ?_); (repeat (go_big_quiet_step (fail))); with_reducible refine wpQuiet_nil ?_; intro wc hbq))
                        go_ret
                        exact ⟨by rw [HX.out]; rfl, HB.out.trans ((HWB.out.trans (hbq.mono HWB.out.size)).mono HB.out.size)⟩
                      · have h5d : decide (len < x1 + x2) = false := decide_eq_false h5
                        by_cases h6 : x1 < y1 + y2
                        · have HX := Lib.hid (show rightB len l = false from right_bad (scan_hit (f := badW len l) hlt (by rw [badW_at E1.out]; rw [HE.out]; exact (show (!decide (e ≤ x1 ∧ 1 ≤ x2 ∧ x2 ≤ len - x1)) = true by rw [decide_eq_false (by omega)]; rfl))))
                          go_wp2_with (first | (rw [← hwa.out]) | ((first | with_reducible refine wpList_on hbq ?_ | with_reducible refine wp_on hbq (by kernel_rfl) (by kernel_rfl) ?_); (repeat (go_big_quiet_step (fail))); with_reducible refine wpQuiet_nil ?_; intro wc hbq))
                          go_ret
                          exact ⟨by rw [HX.out]; rfl, HB.out.trans ((HWB.out.trans (hbq.mono HWB.out.size)).mono HB.out.size)⟩
                        · have h6d : decide (x1 < y1 + y2) = false := decide_eq_false h6
                          have HX := Lib.hid (show scan (i + 1) (badW len l) = false from scan_next HT.out (by rw [badW_at E1.out]; rw [HE.out]; exact (show (!decide (e ≤ x1 ∧ 1 ≤ x2 ∧ x2 ≤ len - x1)) = false by rw [decide_eq_true (by omega)]; rfl)))
                          go_wp2_with (first | (rw [← hwa.out]) | ((first | with_reducible refine wpList_on hbq ?_ | with_reducible refine wp_on hbq (by kernel_rfl) (by kernel_rfl) ?_); (repeat (go_big_quiet_step (fail))); with_reducible refine wpQuiet_nil ?_; intro wc hbq))
                          go_roundw
                          case rel => exact ⟨i + 1, by omega, by go_num, HX.out, HWB.out.trans (hbq.mono HWB.out.size)⟩
                          case measure => simp [intOf]; omega
          · have HS := Lib.hid (show rightB len l = true from right_all HH.out (by have h := HT.out; rw [show i = l.length by omega] at h; exact h))
            obtain ⟨c0, c1⟩ := bx _ hbc
            clear HT
            go_wp2
            go_ret
            exact ⟨by rw [HS.out]; rfl, HB.out.trans (hbc.mono HB.out.size)⟩
end Go.Proofs.Ytfpcldkgcifciaa
