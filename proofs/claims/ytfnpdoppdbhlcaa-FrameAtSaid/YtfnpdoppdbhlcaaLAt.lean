/- FrameAt answers true. No condition but those in the statements. -/
import Derived.Test.YtfnpdoppdbhlcaaWakes
import Derived.Test.YtfnpdoppdbhlcaaVals
import Derived.Test.YtfnpdoppdbhlcaaLOpen
import Derived.BigQuiet
import Derived.IntWalk
import Derived.BigRegion
import Derived.OpenShut
namespace Go.Proofs.Ytfnpdoppdbhlcaa
open Go.RowKit Go.Sort Go.ChangeShapes Go.WideShapes
set_option linter.unusedVariables false
set_option linter.unusedSimpArgs false


set_option maxRecDepth 100000 in
set_option maxHeartbeats 4000000 in
theorem lat_b (len : Int) (l : List (List Int)) (A : Option Addr) (c : Nat) (t : Int) (w : World) (hx : FArg w len l A c) (wt : (Lit.int .i64 t).wf = true) : Calls Try.prog 3 #[.agg #[.int .i64 len, .slice A l.length c], .int .i64 t] w fun e w' => e = .returned (.bool true) ∧ Below w.heap.size w w' := by
  obtain ⟨W, HW, hB, hWs, bx⟩ := fbox_new w len A l.length c 24
  obtain ⟨tlo, thi⟩ := bounds_i64 wt
  obtain ⟨c0, c1⟩ := bx _ (Below.refl _ _)
  go_enter Try.func3, Try.ntmps3
  go_wp2_with (first | (rw [← HW.out]) | fail)
  refine (wakes_b W).mono ?_
  rintro e V ⟨rfl, hbV⟩
  obtain ⟨c0, c1⟩ := bx _ hbV
  by_cases hg : (100 : Int) < (l.length : Int)
  · go_wp2
    go_ret
    exact ⟨rfl, hB.trans (hbV.mono hB.size)⟩
  · have hfV : FIn V len l A := (hx.fin (by omega)).later (hB.trans (hbV.mono hB.size))
    have HBV := Lib.hid (hB.trans (hbV.mono hB.size))
    have hWV := hbV.size
    have BX : ∀ w', Below V.heap.size V w' → w'.cell? ⟨w.heap.size, 0, none⟩ = some (.int .i64 len) ∧ w'.cell? ⟨w.heap.size, 1, none⟩ = some (.slice A l.length c) := fun w' h => bx w' (hbV.trans (h.mono hWV))
    have hgd : decide ((100 : Int) < (l.length : Int)) = false := decide_eq_false hg
    clear bx hbV hx hB
    obtain ⟨p, hp⟩ : ∃ p, (atO openB len l t).getD 0 = p := ⟨_, rfl⟩
    obtain ⟨a, ha⟩ : ∃ a, (atO openB len l t).isSome = a := ⟨_, rfl⟩
    obtain ⟨x, hx⟩ : ∃ x, (atO entB len l t).getD 0 = x := ⟨_, rfl⟩
    obtain ⟨y, hy⟩ : ∃ y, (atO entB len l t).isSome = y := ⟨_, rfl⟩
    obtain ⟨q, hq⟩ : ∃ q, rightB len l = q := ⟨_, rfl⟩
    have HO := Lib.hid (And.intro hp ha); have HE := Lib.hid (And.intro hx hy); have HQ := Lib.hid hq
    clear hp ha hx hy hq
    go_wp2_with fail
    refine (at_open_v len l A c t p a _ hfV HO.out.1 HO.out.2).mono ?_
    rintro e w1 ⟨rfl, hbw1⟩
    have Hw1 := Lib.hid (hbw1)
    obtain ⟨c0, c1⟩ := BX _ Hw1.out
    have hfw1 := hfV.later hbw1
    clear hbw1 hfV
    go_wp2_with fail
    refine (at_ent_v len l A c t x y _ hfw1 HE.out.1 HE.out.2).mono ?_
    rintro e w2 ⟨rfl, hbw2⟩
    have Hw2 := Lib.hid (Hw1.out.trans (hbw2.mono Hw1.out.size))
    obtain ⟨c0, c1⟩ := BX _ Hw2.out
    have hfw2 := hfw1.later hbw2
    clear hbw2 hfw1
    go_wp2_with fail
    refine (rat_v len l A c t p a _ hfw2 HO.out.1 HO.out.2).mono ?_
    rintro e w3 ⟨rfl, hbw3⟩
    have Hw3 := Lib.hid (Hw2.out.trans (hbw3.mono Hw2.out.size))
    obtain ⟨c0, c1⟩ := BX _ Hw3.out
    have hfw3 := hfw2.later hbw3
    clear hbw3 hfw2
    go_wp2_with fail
    refine (renters_v len l A c t x y _ hfw3 HE.out.1 HE.out.2).mono ?_
    rintro e w4 ⟨rfl, hbw4⟩
    have Hw4 := Lib.hid (Hw3.out.trans (hbw4.mono Hw3.out.size))
    obtain ⟨c0, c1⟩ := BX _ Hw4.out
    have hfw4 := hfw3.later hbw4
    clear hbw4 hfw3
    have HG := Lib.hid (fun d os => Calls.regrown_of (right_is len l A c q (grow (redrawn w4 d) os) (hfw4.later (below_regrown w4 d os)) HQ.out))
    have HR := Lib.hid (fun d os => Calls.regrown_of (rright_is len l A c q (grow (redrawn w4 d) os) (hfw4.later (below_regrown w4 d os)) HQ.out))
    have f0 : ∀ p : Regrown, (grow (redrawn w4 p.d) p.os).cell? ⟨w.heap.size, 0, none⟩ = some (.int .i64 len) := fun p => cell_regrown (c0) p.d p.os
    have f1 : ∀ p : Regrown, (grow (redrawn w4 p.d) p.os).cell? ⟨w.heap.size, 1, none⟩ = some (.slice A l.length c) := fun p => cell_regrown (c1) p.d p.os
    have hbq := Below.refl w4.heap.size w4
    clear c0 c1
    go_wp2_with ((first | with_reducible refine wpList_on hbq ?_ | with_reducible refine wp_on hbq (by kernel_rfl) (by kernel_rfl) ?_); (repeat (go_big_quiet_step (first | with_reducible exact HG.out _ _ | with_reducible exact HR.out _ _))); with_reducible refine wpQuiet_nil ?_; intro wc hbq)
    go_ret
    exact ⟨by simp, HBV.out.trans ((Hw4.out.trans (hbq.mono Hw4.out.size)).mono HBV.out.size)⟩
end Go.Proofs.Ytfnpdoppdbhlcaa
