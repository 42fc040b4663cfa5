/- hist's marked and saw, the document's one and before, as contracts. No condition but those in the statements. -/
import Derived.Test.YtjhfkpimejaboaaHFn
import Derived.BigQuiet
import Derived.IntWalk
import Derived.BigRegion
import Derived.OpenShut
import Derived.Deep.MidRow

namespace Go.Proofs.Ytjhfkpimejaboaa
open Go.RowKit Go.Sort Go.ChangeShapes Go.WideShapes
set_option linter.unusedVariables false
set_option linter.unusedSimpArgs false


theorem reaches_q (v : CV) (m : Int) (q : Bool) (w : World) (h : reachesB v m = q) : Calls Try.prog 30 #[.agg (cCells v).toArray, .int .i64 m] w fun e w' => e = .returned (.bool q) ∧ Below w.heap.size w w' := by subst h; exact reaches_b v m w

set_option maxRecDepth 100000 in
set_option maxHeartbeats 8000000 in
theorem marked_b (v : CV) (w : World) : Calls Try.prog 19 #[.agg (cCells v).toArray] w fun e w' => e = .returned (.bool (decide (MarkedP v))) ∧ Below w.heap.size w w' := by
  obtain ⟨W, HW, hB, hs, hv⟩ := box17 w v
  have c_frm := hv.b_frm
  have c_mark := hv.b_mark
  have c_ring := hv.b_ring
  have c_at := Lib.hid hv
  have HB := Lib.hid hB
  have HV : Hid (∀ w', Below W.heap.size W w' → CAt w' w.heap.size 0 v) := Lib.hid (fun w' h => hv.later h (by omega))
  clear hB hs hv
  by_cases hm1 : v.mark = -1
  · have hm1a : ((v.mark : Int) == -1) = true := by simp [hm1]
    have hm1b : ((v.mark : Int) != -1) = false := by simp [hm1]
    have k1d : decide (0 ≤ v.mark) = false := decide_eq_false (by omega)
    by_cases r1 : v.ring = -1
    · have r1a : ((v.ring : Int) == -1) = true := by simp [r1]
      have r1b : ((v.ring : Int) != -1) = false := by simp [r1]
      go_enter Try.func19, Try.ntmps19
      go_wp2_with (first | (rw [← HW.out]) | (with_reducible refine wpList_loadC (by with_unfolding_all rfl) _ rfl _ _ _ (by with_unfolding_all rfl) c_at.out ?_))
      go_ret
      exact ⟨by simp [MarkedP, MarkP, RingP, hm1, r1] <;> omega, HB.out⟩
    · have r1a : ((v.ring : Int) == -1) = false := by simp [r1]
      have r1b : ((v.ring : Int) != -1) = true := by simp [r1]
      go_enter Try.func19, Try.ntmps19
      go_wp2_with (first | (rw [← HW.out]) | (with_reducible refine wpList_loadC (by with_unfolding_all rfl) _ rfl _ _ _ (by with_unfolding_all rfl) c_at.out ?_))
      go_ret
      exact ⟨by simp [MarkedP, MarkP, RingP, hm1, r1] <;> omega, HB.out⟩
  · have hm1a : ((v.mark : Int) == -1) = false := by simp [hm1]
    have hm1b : ((v.mark : Int) != -1) = true := by simp [hm1]
    by_cases hm2 : v.mark < v.frm
    · go_enter Try.func19, Try.ntmps19
      go_wp2_with (first | (rw [← HW.out]) | (with_reducible refine wpList_loadC (by with_unfolding_all rfl) _ rfl _ _ _ (by with_unfolding_all rfl) c_at.out ?_))
      go_ret
      exact ⟨by simp [MarkedP, MarkP, RingP, hm1] <;> omega, HB.out⟩
    · have hm2d : decide (v.mark < v.frm) = false := decide_eq_false hm2
      cases hr1 : reachesB v v.mark with
      | false =>
        have HR := Lib.hid hr1
        go_enter Try.func19, Try.ntmps19
        go_wp2_with (first | (rw [← HW.out]) | (with_reducible refine wpList_loadC (by with_unfolding_all rfl) _ rfl _ _ _ (by with_unfolding_all rfl) c_at.out ?_))
        refine (reaches_q v v.mark false _ HR.out).mono ?_
        rintro e w1 ⟨rfl, hb1⟩
        have HB1 := Lib.hid (hb1)
        clear c_frm c_mark c_ring c_at hb1
        have hv1 := HV.out _ HB1.out
        have c_frm := hv1.b_frm
        have c_mark := hv1.b_mark
        have c_ring := hv1.b_ring
        have c_at := Lib.hid hv1
        clear hv1
        go_wp2_with (first | (with_reducible refine wpList_loadC (by with_unfolding_all rfl) _ rfl _ _ _ (by with_unfolding_all rfl) c_at.out ?_))
        go_ret
        exact ⟨by have h := HR.out; unfold reachesB at h; simp [MarkedP, MarkP, RingP, hm1]; cases hd : v.done <;> simp [hd] at * <;> omega, HB.out.trans (HB1.out.mono HB.out.size)⟩
      | true =>
        have HR := Lib.hid hr1
        by_cases r1 : v.ring = -1
        · have r1a : ((v.ring : Int) == -1) = true := by simp [r1]
          have r1b : ((v.ring : Int) != -1) = false := by simp [r1]
          go_enter Try.func19, Try.ntmps19
          go_wp2_with (first | (rw [← HW.out]) | (with_reducible refine wpList_loadC (by with_unfolding_all rfl) _ rfl _ _ _ (by with_unfolding_all rfl) c_at.out ?_))
          refine (reaches_q v v.mark true _ HR.out).mono ?_
          rintro e w1 ⟨rfl, hb1⟩
          have HB1 := Lib.hid (hb1)
          clear c_frm c_mark c_ring c_at hb1
          have hv1 := HV.out _ HB1.out
          have c_frm := hv1.b_frm
          have c_mark := hv1.b_mark
          have c_ring := hv1.b_ring
          have c_at := Lib.hid hv1
          clear hv1
          go_wp2_with (first | (with_reducible refine wpList_loadC (by with_unfolding_all rfl) _ rfl _ _ _ (by with_unfolding_all rfl) c_at.out ?_))
          go_ret
          exact ⟨by have h := HR.out; unfold reachesB at h; simp [MarkedP, MarkP, RingP, hm1, r1]; cases hd : v.done <;> simp [hd] at * <;> omega, HB.out.trans (HB1.out.mono HB.out.size)⟩
        · have r1a : ((v.ring : Int) == -1) = false := by simp [r1]
          have r1b : ((v.ring : Int) != -1) = true := by simp [r1]
          by_cases k1 : 0 ≤ v.mark
          · by_cases k2 : v.mark < v.ring
            · cases hr2 : reachesB v v.ring with
              | true =>
                have HR2 := Lib.hid hr2
                go_enter Try.func19, Try.ntmps19
                go_wp2_with (first | (rw [← HW.out]) | (with_reducible refine wpList_loadC (by with_unfolding_all rfl) _ rfl _ _ _ (by with_unfolding_all rfl) c_at.out ?_))
                refine (reaches_q v v.mark true _ HR.out).mono ?_
                rintro e w1 ⟨rfl, hb1⟩
                have HB1 := Lib.hid (hb1)
                clear c_frm c_mark c_ring c_at hb1
                have hv1 := HV.out _ HB1.out
                have c_frm := hv1.b_frm
                have c_mark := hv1.b_mark
                have c_ring := hv1.b_ring
                have c_at := Lib.hid hv1
                clear hv1
                go_wp2_with (first | (with_reducible refine wpList_loadC (by with_unfolding_all rfl) _ rfl _ _ _ (by with_unfolding_all rfl) c_at.out ?_))
                refine (reaches_q v v.ring true _ HR2.out).mono ?_
                rintro e w2 ⟨rfl, hb2⟩
                have HB2 := Lib.hid (HB1.out.trans (hb2.mono HB1.out.size))
                clear c_frm c_mark c_ring c_at hb2
                have hv2 := HV.out _ HB2.out
                have c_frm := hv2.b_frm
                have c_mark := hv2.b_mark
                have c_ring := hv2.b_ring
                have c_at := Lib.hid hv2
                clear hv2
                go_wp2_with (first | (with_reducible refine wpList_loadC (by with_unfolding_all rfl) _ rfl _ _ _ (by with_unfolding_all rfl) c_at.out ?_))
                go_ret
                exact ⟨by have h := HR2.out; unfold reachesB at h; simp [MarkedP, MarkP, RingP, hm1, r1, k1, k2]; cases hd : v.done <;> simp [hd] at * <;> omega, HB.out.trans (HB2.out.mono HB.out.size)⟩
              | false =>
                have HR2 := Lib.hid hr2
                go_enter Try.func19, Try.ntmps19
                go_wp2_with (first | (rw [← HW.out]) | (with_reducible refine wpList_loadC (by with_unfolding_all rfl) _ rfl _ _ _ (by with_unfolding_all rfl) c_at.out ?_))
                refine (reaches_q v v.mark true _ HR.out).mono ?_
                rintro e w1 ⟨rfl, hb1⟩
                have HB1 := Lib.hid (hb1)
                clear c_frm c_mark c_ring c_at hb1
                have hv1 := HV.out _ HB1.out
                have c_frm := hv1.b_frm
                have c_mark := hv1.b_mark
                have c_ring := hv1.b_ring
                have c_at := Lib.hid hv1
                clear hv1
                go_wp2_with (first | (with_reducible refine wpList_loadC (by with_unfolding_all rfl) _ rfl _ _ _ (by with_unfolding_all rfl) c_at.out ?_))
                refine (reaches_q v v.ring false _ HR2.out).mono ?_
                rintro e w2 ⟨rfl, hb2⟩
                have HB2 := Lib.hid (HB1.out.trans (hb2.mono HB1.out.size))
                clear c_frm c_mark c_ring c_at hb2
                have hv2 := HV.out _ HB2.out
                have c_frm := hv2.b_frm
                have c_mark := hv2.b_mark
                have c_ring := hv2.b_ring
                have c_at := Lib.hid hv2
                clear hv2
                go_wp2_with (first | (with_reducible refine wpList_loadC (by with_unfolding_all rfl) _ rfl _ _ _ (by with_unfolding_all rfl) c_at.out ?_))
                go_ret
                exact ⟨by have h := HR2.out; unfold reachesB at h; simp [MarkedP, MarkP, RingP, hm1, r1, k1, k2]; cases hd : v.done <;> simp [hd] at * <;> omega, HB.out.trans (HB2.out.mono HB.out.size)⟩
            · have k2d : decide (v.mark < v.ring) = false := decide_eq_false k2
              go_enter Try.func19, Try.ntmps19
              go_wp2_with (first | (rw [← HW.out]) | (with_reducible refine wpList_loadC (by with_unfolding_all rfl) _ rfl _ _ _ (by with_unfolding_all rfl) c_at.out ?_))
              refine (reaches_q v v.mark true _ HR.out).mono ?_
              rintro e w1 ⟨rfl, hb1⟩
              have HB1 := Lib.hid (hb1)
              clear c_frm c_mark c_ring c_at hb1
              have hv1 := HV.out _ HB1.out
              have c_frm := hv1.b_frm
              have c_mark := hv1.b_mark
              have c_ring := hv1.b_ring
              have c_at := Lib.hid hv1
              clear hv1
              go_wp2_with (first | (with_reducible refine wpList_loadC (by with_unfolding_all rfl) _ rfl _ _ _ (by with_unfolding_all rfl) c_at.out ?_))
              go_ret
              exact ⟨by have h := HR.out; unfold reachesB at h; simp [MarkedP, MarkP, RingP, hm1, r1, k1, k2]; cases hd : v.done <;> simp [hd] at * <;> omega, HB.out.trans (HB1.out.mono HB.out.size)⟩
          · have k1d : decide (0 ≤ v.mark) = false := decide_eq_false k1
            go_enter Try.func19, Try.ntmps19
            go_wp2_with (first | (rw [← HW.out]) | (with_reducible refine wpList_loadC (by with_unfolding_all rfl) _ rfl _ _ _ (by with_unfolding_all rfl) c_at.out ?_))
            refine (reaches_q v v.mark true _ HR.out).mono ?_
            rintro e w1 ⟨rfl, hb1⟩
            have HB1 := Lib.hid (hb1)
            clear c_frm c_mark c_ring c_at hb1
            have hv1 := HV.out _ HB1.out
            have c_frm := hv1.b_frm
            have c_mark := hv1.b_mark
            have c_ring := hv1.b_ring
            have c_at := Lib.hid hv1
            clear hv1
            go_wp2_with (first | (with_reducible refine wpList_loadC (by with_unfolding_all rfl) _ rfl _ _ _ (by with_unfolding_all rfl) c_at.out ?_))
            go_ret
            exact ⟨by have h := HR.out; unfold reachesB at h; simp [MarkedP, MarkP, RingP, hm1, r1, k1]; cases hd : v.done <;> simp [hd] at * <;> omega, HB.out.trans (HB1.out.mono HB.out.size)⟩
end Go.Proofs.Ytjhfkpimejaboaa
