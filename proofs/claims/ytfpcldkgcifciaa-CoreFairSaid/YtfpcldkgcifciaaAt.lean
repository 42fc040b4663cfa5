/- At, Enters, as contracts. No condition but those in the statements. -/
import Derived.Test.YtfpcldkgcifciaaWhose
import Derived.BigQuiet
import Derived.IntWalk
import Derived.BigRegion
import Derived.OpenShut
namespace Go.Proofs.Ytfpcldkgcifciaa
open Go.RowKit Go.Sort Go.ChangeShapes Go.WideShapes
set_option linter.unusedVariables false
set_option linter.unusedSimpArgs false


set_option maxRecDepth 100000 in
set_option maxHeartbeats 1600000 in
theorem at_open_b (len : Int) (l : List (List Int)) (A : Option Addr) (c : Nat) (t : Int) (w : World) (hf : FIn w len l A) : Calls Try.prog 19 #[.agg #[.int .i64 len, .slice A l.length c], .int .i64 t] w fun e w' => e = .returned (ptV (atO openB len l t)) ∧ Below w.heap.size w w' := by
  obtain ⟨W, HW, hB, hWs, bx⟩ := fbox_new w len A l.length c 26
  have hfW := hf.later hB
  have HB := Lib.hid hB
  clear hB hf
  obtain ⟨c0, c1⟩ := bx _ (Below.refl _ _)
  cases hq : mayB len l t with
  | true =>
    have HQ := Lib.hid hq
    obtain ⟨hR, h0, h1, -⟩ := may_rt hq
    have HX := Lib.hid (show atO openB len l t = whoO openB l (t % len) by unfold atO; rw [if_pos hq])
    have HR := Lib.hid hR
    clear hq hR
    go_enter Try.func19, Try.ntmps19
    go_wp2_with (first | (rw [← HW.out]) | fail)
    refine (may_is len l A c t true _ hfW HQ.out).mono ?_
    rintro e w5 ⟨rfl, hb5⟩
    obtain ⟨d0, d1⟩ := bx _ hb5
    have hf5 := hfW.later hb5
    have H5 := Lib.hid (HB.out.trans (hb5.mono HB.out.size))
    clear hb5 c0 c1 hfW bx
    go_wp2_with fail
    refine (whose_open_b len l A c t _ hf5 HR.out h0 (by omega)).mono ?_
    rintro e w6 ⟨rfl, hb6⟩
    go_wp2
    go_ret2
    exact ⟨by rw [HX.out]; rfl, H5.out.trans (hb6.mono H5.out.size)⟩
  | false =>
    have HQ := Lib.hid hq
    have HX := Lib.hid (show atO openB len l t = none by unfold atO; rw [if_neg (by rw [hq]; decide)])
    clear hq
    go_enter Try.func19, Try.ntmps19
    go_wp2_with (first | (rw [← HW.out]) | fail)
    refine (may_is len l A c t false _ hfW HQ.out).mono ?_
    rintro e w5 ⟨rfl, hb5⟩
    go_wp2
    go_ret2
    exact ⟨by rw [HX.out]; rfl, HB.out.trans (hb5.mono HB.out.size)⟩
theorem at_open_is (len : Int) (l : List (List Int)) (A : Option Addr) (c : Nat) (t : Int) (o : Option Int) (w : World) (hf : FIn w len l A) (h : atO openB len l t = o) : Calls Try.prog 19 #[.agg #[.int .i64 len, .slice A l.length c], .int .i64 t] w fun e w' => e = .returned (ptV o) ∧ Below w.heap.size w w' := by subst h; exact at_open_b len l A c t w hf

set_option maxRecDepth 100000 in
set_option maxHeartbeats 1600000 in
theorem at_ent_b (len : Int) (l : List (List Int)) (A : Option Addr) (c : Nat) (t : Int) (w : World) (hf : FIn w len l A) : Calls Try.prog 21 #[.agg #[.int .i64 len, .slice A l.length c], .int .i64 t] w fun e w' => e = .returned (ptV (atO entB len l t)) ∧ Below w.heap.size w w' := by
  obtain ⟨W, HW, hB, hWs, bx⟩ := fbox_new w len A l.length c 26
  have hfW := hf.later hB
  have HB := Lib.hid hB
  clear hB hf
  obtain ⟨c0, c1⟩ := bx _ (Below.refl _ _)
  cases hq : mayB len l t with
  | true =>
    have HQ := Lib.hid hq
    obtain ⟨hR, h0, h1, -⟩ := may_rt hq
    have HX := Lib.hid (show atO entB len l t = whoO entB l (t % len) by unfold atO; rw [if_pos hq])
    have HR := Lib.hid hR
    clear hq hR
    go_enter Try.func21, Try.ntmps21
    go_wp2_with (first | (rw [← HW.out]) | fail)
    refine (may_is len l A c t true _ hfW HQ.out).mono ?_
    rintro e w5 ⟨rfl, hb5⟩
    obtain ⟨d0, d1⟩ := bx _ hb5
    have hf5 := hfW.later hb5
    have H5 := Lib.hid (HB.out.trans (hb5.mono HB.out.size))
    clear hb5 c0 c1 hfW bx
    go_wp2_with fail
    refine (whose_ent_b len l A c t _ hf5 HR.out h0 (by omega)).mono ?_
    rintro e w6 ⟨rfl, hb6⟩
    go_wp2
    go_ret2
    exact ⟨by rw [HX.out]; rfl, H5.out.trans (hb6.mono H5.out.size)⟩
  | false =>
    have HQ := Lib.hid hq
    have HX := Lib.hid (show atO entB len l t = none by unfold atO; rw [if_neg (by rw [hq]; decide)])
    clear hq
    go_enter Try.func21, Try.ntmps21
    go_wp2_with (first | (rw [← HW.out]) | fail)
    refine (may_is len l A c t false _ hfW HQ.out).mono ?_
    rintro e w5 ⟨rfl, hb5⟩
    go_wp2
    go_ret2
    exact ⟨by rw [HX.out]; rfl, HB.out.trans (hb5.mono HB.out.size)⟩
theorem at_ent_is (len : Int) (l : List (List Int)) (A : Option Addr) (c : Nat) (t : Int) (o : Option Int) (w : World) (hf : FIn w len l A) (h : atO entB len l t = o) : Calls Try.prog 21 #[.agg #[.int .i64 len, .slice A l.length c], .int .i64 t] w fun e w' => e = .returned (ptV o) ∧ Below w.heap.size w w' := by subst h; exact at_ent_b len l A c t w hf
end Go.Proofs.Ytfpcldkgcifciaa
