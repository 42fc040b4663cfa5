/- The document's one and before, as contracts. No condition but those in the statements. -/
import Derived.Test.YtmonneeikkgllaaHSw
import Derived.BigQuiet
import Derived.IntWalk
import Derived.BigRegion
import Derived.OpenShut
import Derived.Deep.MidRow

namespace Go.Proofs.Ytmonneeikkgllaa
open Go.RowKit Go.Sort Go.ChangeShapes Go.WideShapes
set_option linter.unusedVariables false
set_option linter.unusedSimpArgs false


def oneB (v : CV) : Bool := decide (TimedP v) && decide (MarkedP v)

set_option maxRecDepth 100000 in
set_option maxHeartbeats 4000000 in
theorem one_b (v : CV) (w : World) : Calls Try.prog 14 #[.agg (cCells v).toArray] w fun e w' => e = .returned (.bool (oneB v)) ∧ Below w.heap.size w w' := by
  obtain ⟨W, HW, hB, hs, hv⟩ := box17 w v
  have c_done := hv.b_done
  have c_frm := hv.b_frm
  have c_to := hv.b_to
  have c_t0 := hv.b_t0
  have c_t1 := hv.b_t1
  have c_own0 := hv.b_own0
  have c_own1 := hv.b_own1
  have c_mark := hv.b_mark
  have c_ring := hv.b_ring
  have HB := Lib.hid hB
  clear hB hs hv
  cases hd : v.done with
  | true =>
    rw [hd] at c_done
    by_cases h1 : v.frm < 0
    · first
        | (exfalso; omega)
        | (go_enter Try.func14, Try.ntmps14
           go_wp2_with (rw [← HW.out])
           go_ret
           exact ⟨by simp [oneB, TimedP, MarkedP, MarkP, RingP, hd] <;> omega, HB.out⟩)
    · have h1d : decide (v.frm < 0) = false := decide_eq_false h1
      by_cases h2 : v.t0 < 0
      · first
          | (exfalso; omega)
          | (go_enter Try.func14, Try.ntmps14
             go_wp2_with (rw [← HW.out])
             go_ret
             exact ⟨by simp [oneB, TimedP, MarkedP, MarkP, RingP, hd] <;> omega, HB.out⟩)
      · have h2d : decide (v.t0 < 0) = false := decide_eq_false h2
        by_cases h3 : v.own0 < 1
        · first
            | (exfalso; omega)
            | (go_enter Try.func14, Try.ntmps14
               go_wp2_with (rw [← HW.out])
               go_ret
               exact ⟨by simp [oneB, TimedP, MarkedP, MarkP, RingP, hd] <;> omega, HB.out⟩)
        · have h3d : decide (v.own0 < 1) = false := decide_eq_false h3
          by_cases g1 : v.to < v.frm
          · first
              | (exfalso; omega)
              | (go_enter Try.func14, Try.ntmps14
                 go_wp2_with (rw [← HW.out])
                 go_ret
                 exact ⟨by simp [oneB, TimedP, MarkedP, MarkP, RingP, hd] <;> omega, HB.out⟩)
          · have g1d : decide (v.to < v.frm) = false := decide_eq_false g1
            by_cases g2 : v.t1 < v.t0
            · first
                | (exfalso; omega)
                | (go_enter Try.func14, Try.ntmps14
                   go_wp2_with (rw [← HW.out])
                   go_ret
                   exact ⟨by simp [oneB, TimedP, MarkedP, MarkP, RingP, hd] <;> omega, HB.out⟩)
            · have g2d : decide (v.t1 < v.t0) = false := decide_eq_false g2
              by_cases g3 : v.own1 < v.own0
              · first
                  | (exfalso; omega)
                  | (go_enter Try.func14, Try.ntmps14
                     go_wp2_with (rw [← HW.out])
                     go_ret
                     exact ⟨by simp [oneB, TimedP, MarkedP, MarkP, RingP, hd] <;> omega, HB.out⟩)
              · have g3d : decide (v.own1 < v.own0) = false := decide_eq_false g3
                by_cases e1 : v.mark = -1
                · have e1a : ((v.mark : Int) == -1) = true := by simp [e1]
                  have e1b : ((v.mark : Int) != -1) = false := by simp [e1]
                  by_cases f1 : v.ring = -1
                  · have f1a : ((v.ring : Int) == -1) = true := by simp [f1]
                    have f1b : ((v.ring : Int) != -1) = false := by simp [f1]
                    first
                      | (exfalso; omega)
                      | (go_enter Try.func14, Try.ntmps14
                         go_wp2_with (rw [← HW.out])
                         go_ret
                         exact ⟨by simp [oneB, TimedP, MarkedP, MarkP, RingP, hd] <;> omega, HB.out⟩)
                  · have f1a : ((v.ring : Int) == -1) = false := by simp [f1]
                    have f1b : ((v.ring : Int) != -1) = true := by simp [f1]
                    by_cases f2 : 0 ≤ v.mark
                    · by_cases f3 : v.mark < v.ring
                      · by_cases f4 : v.ring ≤ v.to
                        · first
                            | (exfalso; omega)
                            | (go_enter Try.func14, Try.ntmps14
                               go_wp2_with (rw [← HW.out])
                               go_ret
                               exact ⟨by simp [oneB, TimedP, MarkedP, MarkP, RingP, hd] <;> omega, HB.out⟩)
                        · have f4d : decide (v.ring ≤ v.to) = false := decide_eq_false f4
                          first
                            | (exfalso; omega)
                            | (go_enter Try.func14, Try.ntmps14
                               go_wp2_with (rw [← HW.out])
                               go_ret
                               exact ⟨by simp [oneB, TimedP, MarkedP, MarkP, RingP, hd] <;> omega, HB.out⟩)
                      · have f3d : decide (v.mark < v.ring) = false := decide_eq_false f3
                        first
                          | (exfalso; omega)
                          | (go_enter Try.func14, Try.ntmps14
                             go_wp2_with (rw [← HW.out])
                             go_ret
                             exact ⟨by simp [oneB, TimedP, MarkedP, MarkP, RingP, hd] <;> omega, HB.out⟩)
                    · have f2d : decide (0 ≤ v.mark) = false := decide_eq_false f2
                      first
                        | (exfalso; omega)
                        | (go_enter Try.func14, Try.ntmps14
                           go_wp2_with (rw [← HW.out])
                           go_ret
                           exact ⟨by simp [oneB, TimedP, MarkedP, MarkP, RingP, hd] <;> omega, HB.out⟩)
                · have e1a : ((v.mark : Int) == -1) = false := by simp [e1]
                  have e1b : ((v.mark : Int) != -1) = true := by simp [e1]
                  by_cases e2 : v.mark < v.frm
                  · first
                      | (exfalso; omega)
                      | (go_enter Try.func14, Try.ntmps14
                         go_wp2_with (rw [← HW.out])
                         go_ret
                         exact ⟨by simp [oneB, TimedP, MarkedP, MarkP, RingP, hd] <;> omega, HB.out⟩)
                  · have e2d : decide (v.mark < v.frm) = false := decide_eq_false e2
                    by_cases e3 : v.to < v.mark
                    · first
                        | (exfalso; omega)
                        | (go_enter Try.func14, Try.ntmps14
                           go_wp2_with (rw [← HW.out])
                           go_ret
                           exact ⟨by simp [oneB, TimedP, MarkedP, MarkP, RingP, hd] <;> omega, HB.out⟩)
                    · have e3d : decide (v.to < v.mark) = false := decide_eq_false e3
                      by_cases f1 : v.ring = -1
                      · have f1a : ((v.ring : Int) == -1) = true := by simp [f1]
                        have f1b : ((v.ring : Int) != -1) = false := by simp [f1]
                        first
                          | (exfalso; omega)
                          | (go_enter Try.func14, Try.ntmps14
                             go_wp2_with (rw [← HW.out])
                             go_ret
                             exact ⟨by simp [oneB, TimedP, MarkedP, MarkP, RingP, hd] <;> omega, HB.out⟩)
                      · have f1a : ((v.ring : Int) == -1) = false := by simp [f1]
                        have f1b : ((v.ring : Int) != -1) = true := by simp [f1]
                        by_cases f2 : 0 ≤ v.mark
                        · by_cases f3 : v.mark < v.ring
                          · by_cases f4 : v.ring ≤ v.to
                            · first
                                | (exfalso; omega)
                                | (go_enter Try.func14, Try.ntmps14
                                   go_wp2_with (rw [← HW.out])
                                   go_ret
                                   exact ⟨by simp [oneB, TimedP, MarkedP, MarkP, RingP, hd] <;> omega, HB.out⟩)
                            · have f4d : decide (v.ring ≤ v.to) = false := decide_eq_false f4
                              first
                                | (exfalso; omega)
                                | (go_enter Try.func14, Try.ntmps14
                                   go_wp2_with (rw [← HW.out])
                                   go_ret
                                   exact ⟨by simp [oneB, TimedP, MarkedP, MarkP, RingP, hd] <;> omega, HB.out⟩)
                          · have f3d : decide (v.mark < v.ring) = false := decide_eq_false f3
                            first
                              | (exfalso; omega)
                              | (go_enter Try.func14, Try.ntmps14
                                 go_wp2_with (rw [← HW.out])
                                 go_ret
                                 exact ⟨by simp [oneB, TimedP, MarkedP, MarkP, RingP, hd] <;> omega, HB.out⟩)
                        · have f2d : decide (0 ≤ v.mark) = false := decide_eq_false f2
                          first
                            | (exfalso; omega)
                            | (go_enter Try.func14, Try.ntmps14
                               go_wp2_with (rw [← HW.out])
                               go_ret
                               exact ⟨by simp [oneB, TimedP, MarkedP, MarkP, RingP, hd] <;> omega, HB.out⟩)
  | false =>
    rw [hd] at c_done
    by_cases h1 : v.frm < 0
    · first
        | (exfalso; omega)
        | (go_enter Try.func14, Try.ntmps14
           go_wp2_with (rw [← HW.out])
           go_ret
           exact ⟨by simp [oneB, TimedP, MarkedP, MarkP, RingP, hd] <;> omega, HB.out⟩)
    · have h1d : decide (v.frm < 0) = false := decide_eq_false h1
      by_cases h2 : v.t0 < 0
      · first
          | (exfalso; omega)
          | (go_enter Try.func14, Try.ntmps14
             go_wp2_with (rw [← HW.out])
             go_ret
             exact ⟨by simp [oneB, TimedP, MarkedP, MarkP, RingP, hd] <;> omega, HB.out⟩)
      · have h2d : decide (v.t0 < 0) = false := decide_eq_false h2
        by_cases h3 : v.own0 < 1
        · first
            | (exfalso; omega)
            | (go_enter Try.func14, Try.ntmps14
               go_wp2_with (rw [← HW.out])
               go_ret
               exact ⟨by simp [oneB, TimedP, MarkedP, MarkP, RingP, hd] <;> omega, HB.out⟩)
        · have h3d : decide (v.own0 < 1) = false := decide_eq_false h3
          by_cases g1 : v.to = -1
          · have g1a : ((v.to : Int) == -1) = true := by simp [g1]
            have g1b : ((v.to : Int) != -1) = false := by simp [g1]
            by_cases g2 : v.t1 = -1
            · have g2a : ((v.t1 : Int) == -1) = true := by simp [g2]
              have g2b : ((v.t1 : Int) != -1) = false := by simp [g2]
              by_cases g3 : v.own1 = -1
              · have g3a : ((v.own1 : Int) == -1) = true := by simp [g3]
                have g3b : ((v.own1 : Int) != -1) = false := by simp [g3]
                by_cases e1 : v.mark = -1
                · have e1a : ((v.mark : Int) == -1) = true := by simp [e1]
                  have e1b : ((v.mark : Int) != -1) = false := by simp [e1]
                  by_cases f1 : v.ring = -1
                  · have f1a : ((v.ring : Int) == -1) = true := by simp [f1]
                    have f1b : ((v.ring : Int) != -1) = false := by simp [f1]
                    first
                      | (exfalso; omega)
                      | (go_enter Try.func14, Try.ntmps14
                         go_wp2_with (rw [← HW.out])
                         go_ret
                         exact ⟨by simp [oneB, TimedP, MarkedP, MarkP, RingP, hd] <;> omega, HB.out⟩)
                  · have f1a : ((v.ring : Int) == -1) = false := by simp [f1]
                    have f1b : ((v.ring : Int) != -1) = true := by simp [f1]
                    by_cases f2 : 0 ≤ v.mark
                    · by_cases f3 : v.mark < v.ring
                      · first
                          | (exfalso; omega)
                          | (go_enter Try.func14, Try.ntmps14
                             go_wp2_with (rw [← HW.out])
                             go_ret
                             exact ⟨by simp [oneB, TimedP, MarkedP, MarkP, RingP, hd] <;> omega, HB.out⟩)
                      · have f3d : decide (v.mark < v.ring) = false := decide_eq_false f3
                        first
                          | (exfalso; omega)
                          | (go_enter Try.func14, Try.ntmps14
                             go_wp2_with (rw [← HW.out])
                             go_ret
                             exact ⟨by simp [oneB, TimedP, MarkedP, MarkP, RingP, hd] <;> omega, HB.out⟩)
                    · have f2d : decide (0 ≤ v.mark) = false := decide_eq_false f2
                      first
                        | (exfalso; omega)
                        | (go_enter Try.func14, Try.ntmps14
                           go_wp2_with (rw [← HW.out])
                           go_ret
                           exact ⟨by simp [oneB, TimedP, MarkedP, MarkP, RingP, hd] <;> omega, HB.out⟩)
                · have e1a : ((v.mark : Int) == -1) = false := by simp [e1]
                  have e1b : ((v.mark : Int) != -1) = true := by simp [e1]
                  by_cases e2 : v.mark < v.frm
                  · first
                      | (exfalso; omega)
                      | (go_enter Try.func14, Try.ntmps14
                         go_wp2_with (rw [← HW.out])
                         go_ret
                         exact ⟨by simp [oneB, TimedP, MarkedP, MarkP, RingP, hd] <;> omega, HB.out⟩)
                  · have e2d : decide (v.mark < v.frm) = false := decide_eq_false e2
                    by_cases f1 : v.ring = -1
                    · have f1a : ((v.ring : Int) == -1) = true := by simp [f1]
                      have f1b : ((v.ring : Int) != -1) = false := by simp [f1]
                      first
                        | (exfalso; omega)
                        | (go_enter Try.func14, Try.ntmps14
                           go_wp2_with (rw [← HW.out])
                           go_ret
                           exact ⟨by simp [oneB, TimedP, MarkedP, MarkP, RingP, hd] <;> omega, HB.out⟩)
                    · have f1a : ((v.ring : Int) == -1) = false := by simp [f1]
                      have f1b : ((v.ring : Int) != -1) = true := by simp [f1]
                      by_cases f2 : 0 ≤ v.mark
                      · by_cases f3 : v.mark < v.ring
                        · first
                            | (exfalso; omega)
                            | (go_enter Try.func14, Try.ntmps14
                               go_wp2_with (rw [← HW.out])
                               go_ret
                               exact ⟨by simp [oneB, TimedP, MarkedP, MarkP, RingP, hd] <;> omega, HB.out⟩)
                        · have f3d : decide (v.mark < v.ring) = false := decide_eq_false f3
                          first
                            | (exfalso; omega)
                            | (go_enter Try.func14, Try.ntmps14
                               go_wp2_with (rw [← HW.out])
                               go_ret
                               exact ⟨by simp [oneB, TimedP, MarkedP, MarkP, RingP, hd] <;> omega, HB.out⟩)
                      · have f2d : decide (0 ≤ v.mark) = false := decide_eq_false f2
                        first
                          | (exfalso; omega)
                          | (go_enter Try.func14, Try.ntmps14
                             go_wp2_with (rw [← HW.out])
                             go_ret
                             exact ⟨by simp [oneB, TimedP, MarkedP, MarkP, RingP, hd] <;> omega, HB.out⟩)
              · have g3a : ((v.own1 : Int) == -1) = false := by simp [g3]
                have g3b : ((v.own1 : Int) != -1) = true := by simp [g3]
                first
                  | (exfalso; omega)
                  | (go_enter Try.func14, Try.ntmps14
                     go_wp2_with (rw [← HW.out])
                     go_ret
                     exact ⟨by simp [oneB, TimedP, MarkedP, MarkP, RingP, hd] <;> omega, HB.out⟩)
            · have g2a : ((v.t1 : Int) == -1) = false := by simp [g2]
              have g2b : ((v.t1 : Int) != -1) = true := by simp [g2]
              first
                | (exfalso; omega)
                | (go_enter Try.func14, Try.ntmps14
                   go_wp2_with (rw [← HW.out])
                   go_ret
                   exact ⟨by simp [oneB, TimedP, MarkedP, MarkP, RingP, hd] <;> omega, HB.out⟩)
          · have g1a : ((v.to : Int) == -1) = false := by simp [g1]
            have g1b : ((v.to : Int) != -1) = true := by simp [g1]
            first
              | (exfalso; omega)
              | (go_enter Try.func14, Try.ntmps14
                 go_wp2_with (rw [← HW.out])
                 go_ret
                 exact ⟨by simp [oneB, TimedP, MarkedP, MarkP, RingP, hd] <;> omega, HB.out⟩)

/-- Is that partition's call at place i? -/
def isOf (l : List CV) (p : Int) (i : Nat) : Bool := decide ((l[i]?).map CV.part = some p)
/-- The last one of a partition's calls, of the first i. -/
def lastIx (l : List CV) (p : Int) : Nat → Option Nat
  | 0 => none
  | i + 1 => if isOf l p i = true then some i else lastIx l p i
def numO : Option Nat → Int
  | none => -1
  | some k => (k : Int)
theorem lastIx_lt {l : List CV} {p : Int} : ∀ {i k : Nat}, lastIx l p i = some k → k < i ∧ isOf l p k = true
  | 0, k, h => by cases h
  | i + 1, k, h => by
    unfold lastIx at h
    split at h
    · rename_i h1
      injection h with h
      subst h
      exact ⟨Nat.lt_succ_self _, h1⟩
    · have := lastIx_lt h
      exact ⟨by omega, this.2⟩
theorem lastIx_hit {l : List CV} {p : Int} {i : Nat} (h : isOf l p i = true) : lastIx l p (i + 1) = some i := by unfold lastIx; rw [if_pos h]
theorem lastIx_miss {l : List CV} {p : Int} {i : Nat} (h : isOf l p i = false) : lastIx l p (i + 1) = lastIx l p i := by
  show (if isOf l p i = true then some i else lastIx l p i) = _
  rw [if_neg (by rw [h]; decide)]
set_option maxRecDepth 100000 in
set_option maxHeartbeats 4000000 in
theorem before_b (A : Option Addr) (l : List CV) (c : Nat) (i : Nat) (x : CV) (w : World) (hr : CRow w w.heap.size A l) (hx : l[i]? = some x) (hl : l.length ≤ 60) : Calls Try.prog 15 #[.slice A l.length c, .int .i64 i] w fun e w' => e = .returned (.int .i64 (numO (lastIx l x.part i))) ∧ Below w.heap.size w w' := by
  have hi : i < l.length := (List.getElem?_eq_some_iff.1 hx).1
  obtain ⟨b, o, x', rfl, hbl, hx', -, hxc⟩ := hr.at_ hi
  rw [hx] at hx'
  injection hx' with hx'
  subst hx'
  have hi2 : (i : Int) < (l.length : Int) := by omega
  have hi3 := IntWalk.i64_in ((i : Int) - 1) (by omega)
  go_enter Try.func15, Try.ntmps15
  go_wp2
  go_loopw [5] (fun ix wr => ∃ (j : Nat) (z : Int), j ≤ i ∧ z = (j : Int) - 1 ∧ ix = .int .i64 z ∧ lastIx l x.part i = lastIx l x.part j ∧ Below w.heap.size w wr) (fun ix _ => (intOf ix + 1).toNat)
  case atStart => exact ⟨i, _, Nat.le_refl _, rfl, rfl, rfl, Below.refl _ _⟩
  case round =>
    obtain ⟨j, z, hj, hz, rfl, hlast, hbr⟩ := hrel
    cases j with
    | zero =>
      have hz2 : z = -1 := by omega
      subst hz2
      have HL := Lib.hid hlast
      have HB := Lib.hid hbr
      clear hlast hbr hxc hz
      go_wp2
      go_ret
      exact ⟨by rw [HL.out]; rfl, HB.out⟩
    | succ m =>
      have hz2 : z = (m : Int) := by omega
      subst hz2
      have hm : m < l.length := by omega
      obtain ⟨b', o', y, hA, -, hy, -, hyc⟩ := hr.at_ hm
      injection hA with hA
      injection hA with hA1 hA2
      subst hA1 hA2
      have hya := (hyc _ (hbr.trans (Below.refl _ _).drew)).1
      have hxa := (hxc _ (hbr.trans (Below.refl _ _).drew)).1
      have y_part := hya.e_part
      have x_part := hxa.e_part
      have hm2 : (m : Int) < (l.length : Int) := by omega
      have hm3 := IntWalk.i64_in ((m : Int) - 1) (by omega)
      have HB := Lib.hid hbr
      by_cases hp : y.part = x.part
      · have HL := Lib.hid (show lastIx l x.part i = some m by rw [hlast]; exact lastIx_hit (by unfold isOf; rw [hy]; simp [hp]))
        rw [hp] at y_part
        clear hlast hbr hxc hyc hya hxa hz hp
        go_wp2
        go_region
        go_wp2
        go_ret
        exact ⟨by rw [HL.out]; rfl, HB.out.drew⟩
      · have HL := Lib.hid (show lastIx l x.part i = lastIx l x.part m by rw [hlast]; exact lastIx_miss (by unfold isOf; rw [hy]; simp [hp]))
        have hpa : (y.part == x.part) = false := by simp [hp]
        clear hlast hbr hxc hyc hya hxa hz hp
        go_wp2
        go_region
        go_wp2
        go_roundw
        case rel => exact ⟨m, (m : Int) - 1, by omega, rfl, by go_num, HL.out, HB.out.drew⟩
        case measure => simp [intOf] <;> omega
end Go.Proofs.Ytmonneeikkgllaa
