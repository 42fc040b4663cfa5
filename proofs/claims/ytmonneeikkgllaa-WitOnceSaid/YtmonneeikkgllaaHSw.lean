/- hist's saw, the document's one and before, as contracts. No condition but those in the statements. -/
import Derived.Test.YtmonneeikkgllaaHFm
import Derived.BigQuiet
import Derived.IntWalk
import Derived.BigRegion
import Derived.OpenShut
import Derived.Deep.MidRow

namespace Go.Proofs.Ytmonneeikkgllaa
open Go.RowKit Go.Sort Go.ChangeShapes Go.WideShapes
set_option linter.unusedVariables false
set_option linter.unusedSimpArgs false


/-- May its Saw be? -/
def sawB (l : List CV) (v : CV) : Bool := decide (v.saw = -1) || (placeB l.length v.saw && (match l[v.saw.toNat]? with | some y => decide (y.op = 3 ∧ 0 ≤ y.mark) && reachesB v y.mark | none => false))
theorem placeB_true {n : Nat} {i : Int} (h : placeB n i = true) : ∃ k : Nat, i = (k : Int) ∧ k < n := by
  have := of_decide_eq_true h
  obtain ⟨k, hk⟩ := Int.eq_ofNat_of_zero_le this.1
  exact ⟨k, hk, by omega⟩
theorem sawB_at {l : List CV} {v y : CV} {k : Nat} (hk : v.saw = (k : Int)) (hl : k < l.length) (hy : l[k]? = some y) : sawB l v = (decide (y.op = 3 ∧ 0 ≤ y.mark) && reachesB v y.mark) := by
  have e1 : ¬ v.saw = -1 := by omega
  have e2 : placeB l.length v.saw = true := decide_eq_true (by omega)
  rw [hk] at e2
  simp [sawB, e1, e2, hk, hy]
end Go.Proofs.Ytmonneeikkgllaa
