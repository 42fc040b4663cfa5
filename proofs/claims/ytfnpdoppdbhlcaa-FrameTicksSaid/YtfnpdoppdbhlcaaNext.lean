/- Next, as a contract. No condition but those in the statements. -/
import Derived.Test.YtfnpdoppdbhlcaaTurn
import Derived.Test.YtfnpdoppdbhlcaaAt
import Derived.BigQuiet
import Derived.IntWalk
import Derived.BigRegion
import Derived.OpenShut
namespace Go.Proofs.Ytfnpdoppdbhlcaa
open Go.RowKit Go.Sort Go.ChangeShapes Go.WideShapes
set_option linter.unusedVariables false
set_option linter.unusedSimpArgs false


theorem nums_at {w w' : World} {xs : List Int} {v : Value} (h : OwnsOff w' w.heap.size 3 1 v xs.length (icells xs)) : ∃ A cap, v = .slice A xs.length cap ∧ xs.length ≤ cap ∧ cap ≤ maxLen ∧ (A = none → xs = []) ∧ IntRowK .i64 w' w'.heap.size A xs := by
  obtain ⟨A, cap, rfl, h1, h2⟩ := h.slice
  by_cases hp : 0 < xs.length
  · obtain ⟨g, off, cap', hv, hg, hgl, _, _, _, hcell⟩ := h.lies hp
    cases hv
    refine ⟨_, _, rfl, h1, h2, (fun e => by cases e), fun _ => ⟨g, off, rfl, hgl, fun i hi => hcell i _ ?_⟩⟩
    simp [icells, List.getD_eq_getElem?_getD, hi]
  · have e : xs = [] := List.eq_nil_of_length_eq_zero (by omega)
    exact ⟨A, cap, rfl, h1, h2, fun _ => e, fun h => absurd h hp⟩
set_option maxRecDepth 100000 in
set_option maxHeartbeats 1600000 in
theorem next_b (len : Int) (l : List (List Int)) (A : Option Addr) (c : Nat) (part t : Int) (w : World) (hf : FIn w len l A) : Calls Try.prog 15 #[.agg #[.int .i64 len, .slice A l.length c], .int .i64 part, .int .i64 t] w fun e w' => e = .returned (ptV (nextO len l part t)) ∧ Below w.heap.size w w' := by
  obtain ⟨W, HW, hB, hWs, bx⟩ := fbox_new w len A l.length c 24
  have hfW := hf.later hB
  have HB := Lib.hid hB
  clear hB hf
  obtain ⟨c0, c1⟩ := bx _ (Below.refl _ _)
  cases hq : mayB len l t with
  | false =>
    have HQ := Lib.hid hq
    have HX := Lib.hid (next_none (part := part) hq)
    clear hq
    go_enter Try.func15, Try.ntmps15
    go_wp2_with (first | (rw [← HW.out]) | fail)
    refine (may_is len l A c t false _ hfW HQ.out).mono ?_
    rintro e w5 ⟨rfl, hb5⟩
    go_wp2
    go_ret2
    exact ⟨by rw [HX.out]; rfl, HB.out.trans (hb5.mono HB.out.size)⟩
  | true =>
    have HQ := Lib.hid hq
    obtain ⟨hR, h0, h1, -⟩ := may_rt hq
    have HR := Lib.hid hR
    have HX := Lib.hid (show nextO len l part t = (upL entB len l part (t + 1) len.toNat).head? by unfold nextO; rw [if_pos hq])
    have hul := upL_len entB len l part (t + 1) len.toNat
    have hhi := hR.hi
    obtain ⟨xs, hxs⟩ : ∃ xs, upL entB len l part (t + 1) len.toNat = xs := ⟨_, rfl⟩
    have HXS := Lib.hid hxs
    rw [hxs] at HX hul
    clear hq hR hxs
    go_enter Try.func15, Try.ntmps15
    go_wp2_with (first | (rw [← HW.out]) | fail)
    refine (may_is len l A c t true _ hfW HQ.out).mono ?_
    rintro e w5 ⟨rfl, hb5⟩
    obtain ⟨d0, d1⟩ := bx _ hb5
    have hf5 := hfW.later hb5
    have H5 := Lib.hid (HB.out.trans (hb5.mono HB.out.size))
    clear hb5 c0 c1 hfW bx
    go_wp2_with fail
    refine (turn_ent_b len l A c part (t + 1) _ hf5 HR.out (by omega) (by omega)).mono ?_
    rintro e w6 ⟨v, rfl, hown, hb6⟩
    rw [HXS.out] at hown
    obtain ⟨A6, c6, rfl, _, _, hnil, hrow⟩ := nums_at hown
    have H6 := Lib.hid (H5.out.trans (hb6.mono H5.out.size))
    clear hown hb6 d0 d1
    cases xs with
    | nil =>
      clear hrow hnil
      go_wp2
      go_ret2
      exact ⟨by rw [HX.out]; rfl, H6.out⟩
    | cons y ys =>
      obtain ⟨b, o, rfl, hbl, hc⟩ := hrow.at_ (i := 0) (by simp)
      have hc0 := hc _ (Below.refl _ _)
      simp only [Nat.add_zero, List.getD_cons_zero] at hc0
      have hne : (((y :: ys).length : Int) == 0) = false := by simp <;> omega
      have hgt : (0 : Int) < ((y :: ys).length : Int) := by simp <;> omega
      obtain ⟨m, hm⟩ : ∃ m, (y :: ys).length = m := ⟨_, rfl⟩
      rw [hm] at hne hgt ⊢
      clear hc hrow hnil hm hul
      go_wp2
      go_ret2
      exact ⟨by rw [HX.out]; first | rfl | skip, H6.out⟩
end Go.Proofs.Ytfnpdoppdbhlcaa
