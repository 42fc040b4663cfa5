/- A sampling channel's calls, as plain data. No condition but those in the statements. -/
import Derived.BigQuiet
import Derived.BigRegion
import Derived.Deep.MidRow
import Derived.Deep.RegionHeld3
import Derived.Deep.Upon
import Derived.IntWalk
import Derived.Test.YthcnooimegaloaaDoorQgv
namespace Go.Proofs.YthcnooimegaloaaDoor
open Go.RowKit Go.Sort
set_option linter.unusedVariables false
set_option linter.unusedSimpArgs false
set_option linter.unusedVariables false
set_option linter.unusedSimpArgs false
set_option maxRecDepth 100000
def rL (p : Int) : List Int := [1, 0, 1, 2, 0, p, 0]
structure RFacts (p : Int) : Prop where
  ac : acceptsB (exK (rL p)) = true
  a0 : refusedN (exK (rL p)) 0 false [] 1 0 0 0 = 0
  a1 : refusedN (exK (rL p)) 1 false [] 1 1 0 0 = 0
  n0 : refusedN (exK (rL p)) 0 false [0] 2 0 0 0 = 0
  n1 : refusedN (exK (rL p)) 1 false [1] 2 0 0 0 = 0
  wr : refusedN (exK (rL p)) 0 true [0] 3 0 0 1 = 0
  rd : refusedN (exK (rL p)) 1 true [1] 4 1 0 0 = 0
  p0 : (portK (exK (rL p)) 0).toNat = 0
  p1 : (portK (exK (rL p)) 1).toNat = 0
theorem r_all : ∀ p : Fin 256, acceptsB (exK (rL (p.val : Int))) = true ∧ refusedN (exK (rL (p.val : Int))) 0 false [] 1 0 0 0 = 0 ∧ refusedN (exK (rL (p.val : Int))) 1 false [] 1 1 0 0 = 0 ∧ refusedN (exK (rL (p.val : Int))) 0 false [0] 2 0 0 0 = 0 ∧ refusedN (exK (rL (p.val : Int))) 1 false [1] 2 0 0 0 = 0 ∧ refusedN (exK (rL (p.val : Int))) 0 true [0] 3 0 0 1 = 0 ∧ refusedN (exK (rL (p.val : Int))) 1 true [1] 4 1 0 0 = 0 ∧ (portK (exK (rL (p.val : Int))) 0).toNat = 0 ∧ (portK (exK (rL (p.val : Int))) 1).toNat = 0 := by decide +kernel
theorem r_facts {p : Int} (h : 0 ≤ p ∧ p ≤ 255) : RFacts p := by
  obtain ⟨n, rfl⟩ := Int.eq_ofNat_of_zero_le h.1
  obtain ⟨h1, h2, h3, h4, h5, h6, h7, h8, h9⟩ := r_all ⟨n, by omega⟩
  exact ⟨h1, h2, h3, h4, h5, h6, h7, h8, h9⟩
theorem rdyR {p : Int} (h : 0 ≤ p ∧ p ≤ 255) : Rdy (exK (rL p)) := by
  refine ⟨rfl, (r_facts h).ac, exK_wf (by decide) (by decide) (by decide) (by decide) (by decide) (WalkArith.wf_i64 (by omega)) (by decide), exK_few _, fun q hq => ?_, fun q hq => ?_⟩
  · rcases (show q = 0 ∨ q = 1 by omega) with rfl | rfl
    · exact (r_facts h).a0
    · exact (r_facts h).a1
  · rcases (show q = 0 ∨ q = 1 by omega) with rfl | rfl
    · exact (r_facts h).n0
    · exact (r_facts h).n1
/-- What stands ahead of a round: what was written last, if anything. -/
structure RAt (M : Md8) (lo : Option Nat) (n : Nat) : Prop where
  st : ∃ vl, M.st = [⟨true, [0], []⟩, ⟨true, [1], vl⟩]
  t : M.t ≤ n
  wr : M.wr 0 = lo.map (fun (i : Nat) => (⟨[(i : Int)], (i : Int) * 2⟩ : Ms8))
theorem r_zero {p : Int} : RAt (mSet (exK (rL p)) 2) none 4 := ⟨⟨[], rfl⟩, Nat.le_refl _, rfl⟩
theorem r_write {p : Int} (hF : RFacts p) {M : Md8} {lo : Option Nat} {n : Nat} (h : RAt M lo n) (i : Nat) (ra : Option Addr) (rc : Nat) (t1 : Int) :
    ∃ M', do8 (exK (rL p)) M (cv8 ((0 : Nat) : Int) 3 0 [(i : Int)] ra rc t1 ((i : Int) * 2)) = (ok8, M') ∧ RAt M' (some i) (n + 1) := by
  obtain ⟨vl, hst⟩ := h.st
  have h0 : st8 M 0 = ⟨true, [0], []⟩ := by unfold st8; rw [hst]; rfl
  have hr : ref8 (exK (rL p)) M (cv8 ((0 : Nat) : Int) 3 0 [(i : Int)] ra rc t1 ((i : Int) * 2)) = 0 := by
    show refusedN (exK (rL p)) 0 (st8 M 0).sn (st8 M 0).made 3 0 0 1 = 0
    rw [h0]; exact hF.wr
  have hc : ch8 (exK (rL p)) (cv8 ((0 : Nat) : Int) 3 0 [(i : Int)] ra rc t1 ((i : Int) * 2)) = 0 := hF.p0
  unfold do8
  rw [if_pos hr]
  refine ⟨{ M with wr := up8 M.wr 0 (some ⟨[(i : Int)], (i : Int) * 2⟩), t := M.t + 1 }, ?_, ⟨vl, hst⟩, Nat.succ_le_succ h.t, up8_same M.wr 0 _⟩
  rw [← hc]; rfl
theorem r_read {p : Int} (hF : RFacts p) {M : Md8} {lo : Option Nat} {n : Nat} (h : RAt M lo n) (t1 : Int) :
    ∃ M', do8 (exK (rL p)) M (cv8 ((1 : Nat) : Int) 4 1 [] none 0 t1 0) = ((match lo with | none => code8 1 | some j => ⟨0, [(j : Int)], decide (t1 - (j : Int) * 2 ≤ p), 0⟩), M') ∧ RAt M' lo (n + 1) := by
  obtain ⟨vl, hst⟩ := h.st
  have h1 : st8 M 1 = ⟨true, [1], vl⟩ := by unfold st8; rw [hst]; rfl
  have hr : ref8 (exK (rL p)) M (cv8 ((1 : Nat) : Int) 4 1 [] none 0 t1 0) = 0 := by
    show refusedN (exK (rL p)) 1 (st8 M 1).sn (st8 M 1).made 4 1 0 0 = 0
    rw [h1]; exact hF.rd
  have hc : ch8 (exK (rL p)) (cv8 ((1 : Nat) : Int) 4 1 [] none 0 t1 0) = 0 := hF.p1
  have ha : act8 (exK (rL p)) M (cv8 ((1 : Nat) : Int) 4 1 [] none 0 t1 0) = (match M.wr 0 with
    | none => (code8 1, setSt8 M 1 { st8 M 1 with valid := see8 (st8 M 1).valid 1 false })
    | some m => (⟨0, m.ds, fresh8 (exK (rL p)) 0 m t1, 0⟩, setSt8 M 1 { st8 M 1 with valid := see8 (st8 M 1).valid 1 (fresh8 (exK (rL p)) 0 m t1) })) := by
    rw [← hc]; rfl
  have hset : ∀ v, (setSt8 M 1 { st8 M 1 with valid := v }).st = [⟨true, [0], []⟩, ⟨true, [1], v⟩] := fun v => by
    rw [h1]; unfold setSt8; simp only [hst]; rfl
  unfold do8
  rw [if_pos hr, ha, h.wr]
  cases lo with
  | none => exact ⟨_, rfl, ⟨_, hset _⟩, Nat.succ_le_succ h.t, h.wr⟩
  | some j => exact ⟨_, rfl, ⟨_, hset _⟩, Nat.succ_le_succ h.t, h.wr⟩
end Go.Proofs.YthcnooimegaloaaDoor
