/- FrameTurns answers true. No condition but those in the statements. -/
import Derived.Test.YtfnpdoppdbhlcaaWakes
import Derived.Test.YtfnpdoppdbhlcaaVals
import Derived.Test.YtfnpdoppdbhlcaaLOpen
import Derived.BigQuiet
import Derived.IntWalk
import Derived.BigRegion
import Derived.OpenShut
namespace Go.Proofs.Ytfnpdoppdbhlcaa
open Go.RowKit Go.Sort Go.ChangeShapes Go.WideShapes
set_option linter.unusedVariables false
set_option linter.unusedSimpArgs false


theorem at_turn {is : Int → List Int → Bool} {len : Int} {l : List (List Int)} (hq : rightB len l = true) {t : Int} (h0 : 0 ≤ t) (h1 : t ≤ 549755813888) : atO is len l (t + len) = atO is len l t := by
  have hR := right_rt hq
  have hlo := hR.lo
  have hhi := hR.hi
  have m1 : mayB len l t = true := by unfold mayB; rw [hq]; exact decide_eq_true ⟨by omega, by omega⟩
  have m2 : mayB len l (t + len) = true := by unfold mayB; rw [hq]; exact decide_eq_true ⟨by omega, by omega⟩
  unfold atO
  rw [if_pos m1, if_pos m2, Int.add_emod_right]

set_option maxRecDepth 100000 in
set_option maxHeartbeats 4000000 in
theorem lturns_b (len : Int) (l : List (List Int)) (A : Option Addr) (c : Nat) (t : Int) (w : World) (hx : FArg w len l A c) (wt : (Lit.int .i64 t).wf = true) : Calls Try.prog 6 #[.agg #[.int .i64 len, .slice A l.length c], .int .i64 t] w fun e w' => e = .returned (.bool true) ∧ Below w.heap.size w w' := by
  obtain ⟨W, HW, hB, hWs, bx⟩ := fbox_new w len A l.length c 24
  obtain ⟨tlo, thi⟩ := bounds_i64 wt
  obtain ⟨c0, c1⟩ := bx _ (Below.refl _ _)
  go_enter Try.func6, Try.ntmps6
  go_wp2_with (first | (rw [← HW.out]) | fail)
  refine (wakes_b W).mono ?_
  rintro e V ⟨rfl, hbV⟩
  obtain ⟨c0, c1⟩ := bx _ hbV
  by_cases hg : (100 : Int) < (l.length : Int)
  · go_wp2
    go_ret
    exact ⟨rfl, hB.trans (hbV.mono hB.size)⟩
  · have hfV : FIn V len l A := (hx.fin (by omega)).later (hB.trans (hbV.mono hB.size))
    have HBV := Lib.hid (hB.trans (hbV.mono hB.size))
    have hWV := hbV.size
    have BX : ∀ w', Below V.heap.size V w' → w'.cell? ⟨w.heap.size, 0, none⟩ = some (.int .i64 len) ∧ w'.cell? ⟨w.heap.size, 1, none⟩ = some (.slice A l.length c) := fun w' h => bx w' (hbV.trans (h.mono hWV))
    have hgd : decide ((100 : Int) < (l.length : Int)) = false := decide_eq_false hg
    clear bx hbV hx hB
    cases hq : rightB len l with
    | false =>
      have HQ := Lib.hid hq
      clear hq
      go_wp2_with fail
      refine (rright_is len l A c false _ hfV HQ.out).mono ?_
      rintro e w1 ⟨rfl, hbw1⟩
      have Hw1 := Lib.hid (hbw1)
      obtain ⟨c0, c1⟩ := BX _ Hw1.out
      have hfw1 := hfV.later hbw1
      clear hbw1 hfV
      go_wp2
      go_ret
      exact ⟨rfl, HBV.out.trans (Hw1.out.mono HBV.out.size)⟩
    | true =>
      have HQ := Lib.hid hq
      have HR := Lib.hid (right_rt hq)
      clear hq
      go_wp2_with fail
      refine (rright_is len l A c true _ hfV HQ.out).mono ?_
      rintro e w1 ⟨rfl, hbw1⟩
      have Hw1 := Lib.hid (hbw1)
      obtain ⟨c0, c1⟩ := BX _ Hw1.out
      have hfw1 := hfV.later hbw1
      clear hbw1 hfV
      by_cases h1 : t < 0
      · go_wp2
        go_ret
        exact ⟨rfl, HBV.out.trans (Hw1.out.mono HBV.out.size)⟩
      · have h1d : decide (t < 0) = false := decide_eq_false h1
        by_cases h2 : 549755813888 < t
        · go_wp2
          go_ret
          exact ⟨rfl, HBV.out.trans (Hw1.out.mono HBV.out.size)⟩
        · have h2d : decide (549755813888 < t) = false := decide_eq_false h2
          have hlo := HR.out.lo
          have hhi := HR.out.hi
          have HY : Hid ((atO entB len l t).isSome = true → (atO openB len l t).isSome = true) := Lib.hid (by
            have hm : mayB len l t = true := by unfold mayB; rw [HQ.out]; exact decide_eq_true ⟨by omega, by omega⟩
            unfold atO
            rw [if_pos hm, if_pos hm]
            intro h
            obtain ⟨q, hq⟩ := Option.isSome_iff_exists.1 h
            rw [who_ent HR.out hq]; rfl)
          have HO2 := Lib.hid (at_turn (is := openB) HQ.out (t := t) (by omega) (by omega))
          have HE2 := Lib.hid (at_turn (is := entB) HQ.out (t := t) (by omega) (by omega))
          obtain ⟨p, hp⟩ : ∃ p, (atO openB len l t).getD 0 = p := ⟨_, rfl⟩
          obtain ⟨a, ha⟩ : ∃ a, (atO openB len l t).isSome = a := ⟨_, rfl⟩
          obtain ⟨x, hx⟩ : ∃ x, (atO entB len l t).getD 0 = x := ⟨_, rfl⟩
          obtain ⟨y, hy⟩ : ∃ y, (atO entB len l t).isSome = y := ⟨_, rfl⟩
          rw [ha, hy] at HY
          have HO := Lib.hid (And.intro hp ha); have HE := Lib.hid (And.intro hx hy)
          clear hp ha hx hy
          go_wp2_with fail
          refine (at_open_v len l A c t p a _ hfw1 HO.out.1 HO.out.2).mono ?_
          rintro e w2 ⟨rfl, hbw2⟩
          have Hw2 := Lib.hid (Hw1.out.trans (hbw2.mono Hw1.out.size))
          obtain ⟨c0, c1⟩ := BX _ Hw2.out
          have hfw2 := hfw1.later hbw2
          clear hbw2 hfw1
          go_wp2_with fail
          refine (at_open_v len l A c (t + len) p a _ hfw2 (by rw [HO2.out]; exact HO.out.1) (by rw [HO2.out]; exact HO.out.2)).mono ?_
          rintro e w3 ⟨rfl, hbw3⟩
          have Hw3 := Lib.hid (Hw2.out.trans (hbw3.mono Hw2.out.size))
          obtain ⟨c0, c1⟩ := BX _ Hw3.out
          have hfw3 := hfw2.later hbw3
          clear hbw3 hfw2
          go_wp2_with fail
          refine (at_ent_v len l A c t x y _ hfw3 HE.out.1 HE.out.2).mono ?_
          rintro e w4 ⟨rfl, hbw4⟩
          have Hw4 := Lib.hid (Hw3.out.trans (hbw4.mono Hw3.out.size))
          obtain ⟨c0, c1⟩ := BX _ Hw4.out
          have hfw4 := hfw3.later hbw4
          clear hbw4 hfw3
          go_wp2_with fail
          refine (at_ent_v len l A c (t + len) x y _ hfw4 (by rw [HE2.out]; exact HE.out.1) (by rw [HE2.out]; exact HE.out.2)).mono ?_
          rintro e w5 ⟨rfl, hbw5⟩
          have Hw5 := Lib.hid (Hw4.out.trans (hbw5.mono Hw4.out.size))
          obtain ⟨c0, c1⟩ := BX _ Hw5.out
          have hfw5 := hfw4.later hbw5
          clear hbw5 hfw4
          clear HO HE HO2 HE2
          cases y with
          | true =>
            have ha : a = true := HY.out rfl
            subst ha
            go_wp2
            go_ret
            exact ⟨by first | rfl | simp, HBV.out.trans (Hw5.out.mono HBV.out.size)⟩
          | false =>
            go_wp2
            go_ret
            exact ⟨by first | rfl | simp, HBV.out.trans (Hw5.out.mono HBV.out.size)⟩
end Go.Proofs.Ytfnpdoppdbhlcaa
