/- hist's Ahead, reaches, timed, isPlace; the document's Ahead; as contracts. No condition but those in the statements. -/
import Derived.Test.YtmonneeikkgllaaHCl
import Derived.BigQuiet
import Derived.IntWalk
import Derived.BigRegion
import Derived.OpenShut
import Derived.Deep.MidRow

namespace Go.Proofs.Ytmonneeikkgllaa
open Go.RowKit Go.Sort Go.ChangeShapes Go.WideShapes
set_option linter.unusedVariables false
set_option linter.unusedSimpArgs false


/-- Is a call ahead of another one? -/
def aheadB (u v : CV) : Bool := u.done && decide (u.to < v.frm)
def reachesB (v : CV) (m : Int) : Bool := !v.done || decide (m ≤ v.to)
/-- May its moments, ticks and steps be? -/
def TimedP (v : CV) : Prop := 0 ≤ v.frm ∧ 0 ≤ v.t0 ∧ 1 ≤ v.own0 ∧ (v.done = true → v.frm ≤ v.to ∧ v.t0 ≤ v.t1 ∧ v.own0 ≤ v.own1) ∧ (v.done = false → v.to = -1 ∧ v.t1 = -1 ∧ v.own1 = -1)
instance (v : CV) : Decidable (TimedP v) := by unfold TimedP; infer_instance
/-- May its Mark and its Ring be? -/
def MarkP (v : CV) : Prop := v.mark = -1 ∨ (v.frm ≤ v.mark ∧ (v.done = true → v.mark ≤ v.to))
instance (v : CV) : Decidable (MarkP v) := by unfold MarkP; infer_instance
def RingP (v : CV) : Prop := v.ring = -1 ∨ (0 ≤ v.mark ∧ v.mark < v.ring ∧ (v.done = true → v.ring ≤ v.to))
instance (v : CV) : Decidable (RingP v) := by unfold RingP; infer_instance
def MarkedP (v : CV) : Prop := MarkP v ∧ RingP v
instance (v : CV) : Decidable (MarkedP v) := by unfold MarkedP; infer_instance
def placeB (n : Nat) (i : Int) : Bool := decide (0 ≤ i ∧ i < (n : Int))

set_option maxRecDepth 100000 in
set_option maxHeartbeats 4000000 in
theorem rahead_b (u v : CV) (w : World) : Calls Try.prog 16 #[.agg (cCells u).toArray, .agg (cCells v).toArray] w fun e w' => e = .returned (.bool (aheadB u v)) ∧ Below w.heap.size w w' := by
  obtain ⟨W, HW, hB, hs, hu, hv⟩ := boxes17 w u v
  have c_done := hu.b_done
  have c_to := hu.b_to
  have d_frm := hv.b_frm
  have HB := Lib.hid hB
  clear hB hs hu hv
  cases hd : u.done with
  | true =>
    rw [hd] at c_done
    go_enter Try.func16, Try.ntmps16
    go_wp2_with (rw [← HW.out])
    go_ret
    exact ⟨by simp [aheadB, hd], HB.out⟩
  | false =>
    rw [hd] at c_done
    go_enter Try.func16, Try.ntmps16
    go_wp2_with (rw [← HW.out])
    go_ret
    exact ⟨by simp [aheadB, hd], HB.out⟩

set_option maxRecDepth 100000 in
theorem isPlace_b (A : Option Addr) (n c : Nat) (i : Int) (w : World) : Calls Try.prog 31 #[.slice A n c, .int .i64 i] w fun e w' => e = .returned (.bool (placeB n i)) ∧ w = w' := by
  by_cases h1 : 0 ≤ i
  · by_cases h2 : i < (n : Int)
    · go_enter Try.func31, Try.ntmps31
      go_wp2
      go_ret
      exact ⟨by simp [placeB] <;> omega, rfl⟩
    · have h2d : decide (i < (n : Int)) = false := decide_eq_false h2
      go_enter Try.func31, Try.ntmps31
      go_wp2
      go_ret
      exact ⟨by simp [placeB] <;> omega, rfl⟩
  · have h1d : decide (0 ≤ i) = false := decide_eq_false h1
    go_enter Try.func31, Try.ntmps31
    go_wp2
    go_ret
    exact ⟨by simp [placeB] <;> omega, rfl⟩
end Go.Proofs.Ytmonneeikkgllaa
