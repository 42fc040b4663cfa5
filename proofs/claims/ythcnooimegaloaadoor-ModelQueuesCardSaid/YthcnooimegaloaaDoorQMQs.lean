/- Texts of the ring, joined, what is used of them. No condition but those in the statements. -/
import Derived.BigQuiet
import Derived.BigRegion
import Derived.Deep.MidRow
import Derived.Deep.RegionHeld3
import Derived.Deep.Upon
import Derived.IntWalk
import Derived.Test.YthcnooimegaloaaDoorQgv
namespace Go.Proofs.YthcnooimegaloaaDoor
open Go.RowKit Go.Sort
set_option linter.unusedVariables false
set_option linter.unusedSimpArgs false
set_option linter.unusedVariables false
set_option linter.unusedSimpArgs false
set_option maxRecDepth 100000
def stQ : List St8 := [⟨true, [0], []⟩, ⟨true, [1], []⟩]
/-- What stands ahead of a round: how many were sent, how many got; what waits is what was sent, in order. -/
structure QAt (M : Md8) (sent got n : Nat) : Prop where
  st : M.st = stQ
  t : M.t ≤ n
  le : got ≤ sent
  len : (M.qs 0).length = sent - got
  hd : ∀ j l, (M.qs 0)[j]? = some l → l.head? = some ((got + j : Nat) : Int)
/-- What the four configurations have alike. -/
structure QFacts (d : Int) : Prop where
  s1 : refusedN (exK (qL d)) 0 true [0] 5 0 0 1 = 0
  s2 : refusedN (exK (qL d)) 0 true [0] 5 0 0 2 = 0
  rv : refusedN (exK (qL d)) 1 true [1] 6 1 0 0 = 0
  su : refusedN (exK (qL d)) 1 true [1] 7 1 0 0 = 0
  p0 : (portK (exK (qL d)) 0).toNat = 0
  p1 : (portK (exK (qL d)) 1).toNat = 0
  dd : dep8 (exK (qL d)) 0 = d
  kd : kind8 (exK (qL d)) 0 = 2
theorem q_facts {d : Int} (hd : d = 1 ∨ d = 2 ∨ d = 4 ∨ d = 8) : QFacts d := by
  rcases hd with rfl | rfl | rfl | rfl <;> exact ⟨by kernel_rfl, by kernel_rfl, by kernel_rfl, by kernel_rfl, by kernel_rfl, by kernel_rfl, by kernel_rfl, by kernel_rfl⟩
theorem q_zero {d : Int} : QAt (mSet (exK (qL d)) 2) 0 0 4 := ⟨rfl, Nat.le_refl _, Nat.le_refl _, rfl, fun j l h => by cases h⟩
theorem st8_q {M : Md8} (h : M.st = stQ) : st8 M 0 = ⟨true, [0], []⟩ ∧ st8 M 1 = ⟨true, [1], []⟩ := by
  unfold st8; rw [h]; exact ⟨rfl, rfl⟩
theorem QAt.tick {M : Md8} {sent got n : Nat} (h : QAt M sent got n) : QAt (tick8 M) sent got (n + 1) := ⟨h.st, Nat.succ_le_succ h.t, h.le, h.len, h.hd⟩
theorem q_send {d : Int} (hF : QFacts d) {M : Md8} {sent got n : Nat} (h : QAt M sent got n) (rd : List Int) (ra : Option Addr) (rc : Nat) (hrd : rd = [(sent : Int)] ∨ rd = [(sent : Int), 5]) :
    (((sent - got : Nat) : Int) = d → do8 (exK (qL d)) M (cv8 ((0 : Nat) : Int) 5 0 rd ra rc 0 0) = (code8 2, tick8 M)) ∧
    (((sent - got : Nat) : Int) ≠ d → ∃ M', do8 (exK (qL d)) M (cv8 ((0 : Nat) : Int) 5 0 rd ra rc 0 0) = (ok8, M') ∧ QAt M' (sent + 1) got (n + 1)) := by
  have hr : ref8 (exK (qL d)) M (cv8 ((0 : Nat) : Int) 5 0 rd ra rc 0 0) = 0 := by
    show refusedN (exK (qL d)) 0 (st8 M 0).sn (st8 M 0).made 5 0 0 rd.length = 0
    rw [(st8_q h.st).1]
    rcases hrd with rfl | rfl
    · exact hF.s1
    · exact hF.s2
  have hc : ch8 (exK (qL d)) (cv8 ((0 : Nat) : Int) 5 0 rd ra rc 0 0) = 0 := hF.p0
  have ha : act8 (exK (qL d)) M (cv8 ((0 : Nat) : Int) 5 0 rd ra rc 0 0) = (if ((M.qs 0).length : Int) = d then (code8 2, tick8 M) else (ok8, { M with qs := up8 M.qs 0 (M.qs 0 ++ [rd]), t := M.t + 1 })) := by
    rw [show act8 (exK (qL d)) M (cv8 ((0 : Nat) : Int) 5 0 rd ra rc 0 0) = (if ((M.qs (ch8 (exK (qL d)) (cv8 ((0 : Nat) : Int) 5 0 rd ra rc 0 0))).length : Int) = dep8 (exK (qL d)) (ch8 (exK (qL d)) (cv8 ((0 : Nat) : Int) 5 0 rd ra rc 0 0)) then (code8 2, tick8 M) else (ok8, { M with qs := up8 M.qs (ch8 (exK (qL d)) (cv8 ((0 : Nat) : Int) 5 0 rd ra rc 0 0)) (M.qs (ch8 (exK (qL d)) (cv8 ((0 : Nat) : Int) 5 0 rd ra rc 0 0)) ++ [rd]), t := M.t + 1 })) from rfl, hc, hF.dd]
  unfold do8
  rw [if_pos hr, ha, h.len]
  refine ⟨fun e => if_pos e, fun e => ⟨_, if_neg e, h.st, Nat.succ_le_succ h.t, Nat.le_succ_of_le h.le, ?_, fun j l hj => ?_⟩⟩
  · show (up8 M.qs 0 (M.qs 0 ++ [rd]) 0).length = _
    have := h.len; have := h.le
    rw [up8_same]; simp; omega
  · have hj : (up8 M.qs 0 (M.qs 0 ++ [rd]) 0)[j]? = some l := hj
    rw [up8_same] at hj
    have hl := h.len; have hle := h.le
    rcases Nat.lt_trichotomy j (M.qs 0).length with g | g | g
    · rw [List.getElem?_append_left g] at hj; exact h.hd j l hj
    · rw [g, List.getElem?_concat_length] at hj
      cases hj
      have : (got + j : Nat) = sent := by omega
      rw [this]
      rcases hrd with rfl | rfl <;> rfl
    · rw [List.getElem?_eq_none (by simp; omega)] at hj; cases hj
theorem q_recv {d : Int} (hF : QFacts d) {M : Md8} {sent got n : Nat} (h : QAt M sent got n) :
    (got = sent → do8 (exK (qL d)) M (cv8 ((1 : Nat) : Int) 6 1 [] none 0 0 0) = (code8 2, tick8 M)) ∧
    (got < sent → ∃ M' ds, do8 (exK (qL d)) M (cv8 ((1 : Nat) : Int) 6 1 [] none 0 0 0) = (⟨0, (got : Int) :: ds, false, 0⟩, M') ∧ QAt M' sent (got + 1) (n + 1)) := by
  have hr : ref8 (exK (qL d)) M (cv8 ((1 : Nat) : Int) 6 1 [] none 0 0 0) = 0 := by
    show refusedN (exK (qL d)) 1 (st8 M 1).sn (st8 M 1).made 6 1 0 0 = 0
    rw [(st8_q h.st).2]
    exact hF.rv
  have hc : ch8 (exK (qL d)) (cv8 ((1 : Nat) : Int) 6 1 [] none 0 0 0) = 0 := hF.p1
  have ha : act8 (exK (qL d)) M (cv8 ((1 : Nat) : Int) 6 1 [] none 0 0 0) = (match M.qs 0 with | [] => (code8 2, tick8 M) | x :: r => (⟨0, x, false, 0⟩, { M with qs := up8 M.qs 0 r, t := M.t + 1 })) := by
    rw [show act8 (exK (qL d)) M (cv8 ((1 : Nat) : Int) 6 1 [] none 0 0 0) = (match M.qs (ch8 (exK (qL d)) (cv8 ((1 : Nat) : Int) 6 1 [] none 0 0 0)) with | [] => (code8 2, tick8 M) | x :: r => (⟨0, x, false, 0⟩, { M with qs := up8 M.qs (ch8 (exK (qL d)) (cv8 ((1 : Nat) : Int) 6 1 [] none 0 0 0)) r, t := M.t + 1 })) from rfl, hc]
  unfold do8
  rw [if_pos hr, ha]
  refine ⟨fun e => ?_, fun e => ?_⟩
  · have : M.qs 0 = [] := List.eq_nil_of_length_eq_zero (by rw [h.len]; omega)
    rw [this]
  · have hl := h.len
    match hq : M.qs 0 with
    | [] => rw [hq] at hl; simp at hl; omega
    | x :: r =>
      have h0 := h.hd 0 x (by rw [hq]; rfl)
      match x, h0 with
      | y :: ds, h0 =>
        have hy : y = (got : Int) := by simpa using h0
        subst hy
        refine ⟨_, ds, rfl, h.st, Nat.succ_le_succ h.t, by omega, ?_, fun j l hj => ?_⟩
        · show (up8 M.qs 0 r 0).length = _
          rw [hq] at hl; simp at hl
          rw [up8_same]; omega
        · have hj : (up8 M.qs 0 r 0)[j]? = some l := hj
          rw [up8_same] at hj
          have := h.hd (j + 1) l (by rw [hq]; simpa using hj)
          rw [this]; congr 2; omega
theorem q_count {d : Int} (hF : QFacts d) {M : Md8} {sent got n : Nat} (h : QAt M sent got n) :
    do8 (exK (qL d)) M (cv8 ((1 : Nat) : Int) 7 1 [] none 0 0 0) = (⟨0, [], false, ((sent - got : Nat) : Int)⟩, tick8 M) := by
  have hr : ref8 (exK (qL d)) M (cv8 ((1 : Nat) : Int) 7 1 [] none 0 0 0) = 0 := by
    show refusedN (exK (qL d)) 1 (st8 M 1).sn (st8 M 1).made 7 1 0 0 = 0
    rw [(st8_q h.st).2]
    exact hF.su
  have hc : ch8 (exK (qL d)) (cv8 ((1 : Nat) : Int) 7 1 [] none 0 0 0) = 0 := hF.p1
  unfold do8
  rw [if_pos hr, show act8 (exK (qL d)) M (cv8 ((1 : Nat) : Int) 7 1 [] none 0 0 0) = (if kind8 (exK (qL d)) (ch8 (exK (qL d)) (cv8 ((1 : Nat) : Int) 7 1 [] none 0 0 0)) = 2 then (⟨0, [], false, (M.qs (ch8 (exK (qL d)) (cv8 ((1 : Nat) : Int) 7 1 [] none 0 0 0))).length⟩, tick8 M) else (⟨0, [], decide ((1 : Int) ∈ (st8 M 1).valid), 0⟩, tick8 M)) from rfl, hc, if_pos hF.kd, h.len]
end Go.Proofs.YthcnooimegaloaaDoor
