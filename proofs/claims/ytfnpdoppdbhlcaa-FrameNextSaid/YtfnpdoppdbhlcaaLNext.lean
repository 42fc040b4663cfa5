/- FrameNext answers true. No condition but those in the statements. -/
import Derived.Test.YtfnpdoppdbhlcaaWakes
import Derived.Test.YtfnpdoppdbhlcaaVals
import Derived.Test.YtfnpdoppdbhlcaaLOpen
import Derived.BigQuiet
import Derived.IntWalk
import Derived.BigRegion
import Derived.OpenShut
namespace Go.Proofs.Ytfnpdoppdbhlcaa
open Go.RowKit Go.Sort Go.ChangeShapes Go.WideShapes
set_option linter.unusedVariables false
set_option linter.unusedSimpArgs false


set_option maxRecDepth 100000 in
set_option maxHeartbeats 4000000 in
theorem lnext_b (len : Int) (l : List (List Int)) (A : Option Addr) (c : Nat) (part t : Int) (w : World) (hx : FArg w len l A c) (wpart : (Lit.int .i64 part).wf = true) (wt : (Lit.int .i64 t).wf = true) : Calls Try.prog 4 #[.agg #[.int .i64 len, .slice A l.length c], .int .i64 part, .int .i64 t] w fun e w' => e = .returned (.bool true) ∧ Below w.heap.size w w' := by
  obtain ⟨W, HW, hB, hWs, bx⟩ := fbox_new w len A l.length c 24
  obtain ⟨partlo, parthi⟩ := bounds_i64 wpart
  obtain ⟨tlo, thi⟩ := bounds_i64 wt
  obtain ⟨c0, c1⟩ := bx _ (Below.refl _ _)
  go_enter Try.func4, Try.ntmps4
  go_wp2_with (first | (rw [← HW.out]) | fail)
  refine (wakes_b W).mono ?_
  rintro e V ⟨rfl, hbV⟩
  obtain ⟨c0, c1⟩ := bx _ hbV
  by_cases hg : (100 : Int) < (l.length : Int)
  · go_wp2
    go_ret
    exact ⟨rfl, hB.trans (hbV.mono hB.size)⟩
  · have hfV : FIn V len l A := (hx.fin (by omega)).later (hB.trans (hbV.mono hB.size))
    have HBV := Lib.hid (hB.trans (hbV.mono hB.size))
    have hWV := hbV.size
    have BX : ∀ w', Below V.heap.size V w' → w'.cell? ⟨w.heap.size, 0, none⟩ = some (.int .i64 len) ∧ w'.cell? ⟨w.heap.size, 1, none⟩ = some (.slice A l.length c) := fun w' h => bx w' (hbV.trans (h.mono hWV))
    have hgd : decide ((100 : Int) < (l.length : Int)) = false := decide_eq_false hg
    clear bx hbV hx hB
    have hfV0 := hfV
    cases ho : nextO len l part t with
    | none =>
      have HO := Lib.hid ho
      clear ho
      go_wp2_with fail
      refine (next_no len l A c part t _ hfV HO.out).mono ?_
      rintro e w1 ⟨rfl, hbw1⟩
      have Hw1 := Lib.hid (hbw1)
      obtain ⟨c0, c1⟩ := BX _ Hw1.out
      have hfw1 := hfV.later hbw1
      clear hbw1 hfV
      go_wp2_with fail
      refine (rnext_no len l A c part t _ hfw1 HO.out).mono ?_
      rintro e w2 ⟨rfl, hbw2⟩
      have Hw2 := Lib.hid (Hw1.out.trans (hbw2.mono Hw1.out.size))
      obtain ⟨c0, c1⟩ := BX _ Hw2.out
      have hfw2 := hfw1.later hbw2
      clear hbw2 hfw1
      go_wp2
      go_ret
      exact ⟨rfl, HBV.out.trans (Hw2.out.mono HBV.out.size)⟩
    | some n =>
      have HO := Lib.hid ho
      obtain ⟨hm, hn1, hn2, hn3⟩ := next_some ho
      obtain ⟨hR, t0, t1, -⟩ := may_rt hm
      have hhi := hR.hi
      have HN := Lib.hid hn3
      have g1 : ¬ n ≤ t := by omega
      have g2 : ¬ len < n - t := by omega
      clear ho hm hR hn3
      go_wp2_with fail
      refine (next_yes len l A c part t n _ hfV HO.out).mono ?_
      rintro e w1 ⟨rfl, hbw1⟩
      have Hw1 := Lib.hid (hbw1)
      obtain ⟨c0, c1⟩ := BX _ Hw1.out
      have hfw1 := hfV.later hbw1
      clear hbw1 hfV
      go_wp2_with fail
      refine (rnext_yes len l A c part t n _ hfw1 HO.out).mono ?_
      rintro e w2 ⟨rfl, hbw2⟩
      have Hw2 := Lib.hid (Hw1.out.trans (hbw2.mono Hw1.out.size))
      obtain ⟨c0, c1⟩ := BX _ Hw2.out
      have hfw2 := hfw1.later hbw2
      clear hbw2 hfw1
      go_wp2
      clear c0 c1
      go_loopw [11] (fun ix wr => ∃ u : Int, t < u ∧ u ≤ n ∧ ix = .int .i64 u ∧ Below V.heap.size V wr) (fun ix _ => (n - intOf ix).toNat)
      case atStart => exact ⟨t + 1, by omega, by omega, by go_num, Hw2.out⟩
      case round =>
        obtain ⟨u, hu1, hu2, rfl, hbc⟩ := hrel
        obtain ⟨c0, c1⟩ := BX _ hbc
        have hfr : FIn wr len l A := ⟨(hfV0.later hbc).row, hfV0.wf, hfV0.few, hfV0.int⟩
        by_cases hlt : u < n
        · cases ha : atO entB len l u with
          | none =>
            have HA := Lib.hid ha
            clear ha
            go_wp2_with fail
            refine (renters_no len l A c u _ hfr HA.out).mono ?_
            rintro e w5 ⟨rfl, hb5⟩
            go_wp2
            go_roundw
            case rel => exact ⟨u + 1, by omega, by omega, by go_num, hbc.trans (hb5.mono hbc.size)⟩
            case measure => simp [intOf]; omega
          | some q =>
            have hqp : (q == part) = false := by
              have := HN.out u hu1 hlt
              rw [ha] at this
              simp at this
              simp [this]
            have HA := Lib.hid ha
            clear ha
            go_wp2_with fail
            refine (renters_yes len l A c u q _ hfr HA.out).mono ?_
            rintro e w5 ⟨rfl, hb5⟩
            go_wp2
            go_roundw
            case rel => exact ⟨u + 1, by omega, by omega, by go_num, hbc.trans (hb5.mono hbc.size)⟩
            case measure => simp [intOf]; omega
        · go_wp2
          go_ret
          exact ⟨rfl, HBV.out.trans (hbc.mono HBV.out.size)⟩
end Go.Proofs.Ytfnpdoppdbhlcaa
