/- Accepted by the document's list and accepted by the program's: one and the same. No condition. -/
import Derived.Test.YtmhpcgcloojfbaaGreatDoorLay
import Derived.Test.YtmhpcgcloojfbaaGreatDoorDefP
namespace Go.Proofs.YtmhpcgcloojfbaaGreatDoor
open Go.RowKit Go.Sort
theorem same17 {c : Cfg} (h2 : holdsB c 2 = false) : holdsP c 17 = holdsB c 17 := by
  have b2 : ∀ i, i < c.parts.length → partBad c 2 i = false := scan_false.1 h2
  unfold holdsP
  rw [if_pos rfl]
  show _ = scan c.parts.length (fun i => partBad c 17 i)
  refine scan_congr fun i hi => ?_
  show (!windowP c i) = !windowB c i
  congr 1
  have hc := of_decide_eq_false (show decide (fld (row c.parts i) 0 ≠ 0 ∧ fld (row c.parts i) 0 ≠ 1) = false from b2 i hi)
  unfold windowP windowB
  by_cases h0 : fld (row c.parts i) 0 = 0
  · rw [if_pos h0, if_pos h0]; rfl
  · have h1 : fld (row c.parts i) 0 = 1 := by omega
    rw [if_neg h0, if_neg h0, if_pos h1, if_pos h1]; rfl
theorem nil_of {f : Int → Bool} (h : ∀ k : Int, 1 ≤ k → k ≤ 17 → f k = false) : ((List.range 17).map (fun i : Nat => (i : Int) + 1)).filter f = [] := by
  rw [List.filter_eq_nil_iff]
  intro k hk
  obtain ⟨i, hi, rfl⟩ := List.mem_map.1 hk
  have hi := List.mem_range.1 hi
  rw [h _ (by omega) (by omega)]
  decide
theorem same_list {c : Cfg} : allP c 17 = [] ↔ allB c 17 = [] := by
  constructor
  · intro h
    have h2 : holdsB c 2 = false := by rw [← holdsP_not (c := c) (k := 2) (by decide)]; exact allP_nil h (by decide) (by decide)
    refine nil_of fun k a b => ?_
    by_cases h17 : k = 17
    · subst h17; rw [← same17 h2]; exact allP_nil h (by decide) (by decide)
    · rw [← holdsP_not h17]; exact allP_nil h a b
  · intro h
    have h2 : holdsB c 2 = false := allB_nil h (by decide) (by decide)
    refine nil_of fun k a b => ?_
    by_cases h17 : k = 17
    · subst h17; rw [same17 h2]; exact allB_nil h (by decide) (by decide)
    · rw [holdsP_not h17]; exact allB_nil h a b
/-- With acceptsP as in l07z.py: decide (allP c 17 = []). -/
theorem accepts_same (c : Cfg) : decide (allP c 17 = []) = acceptsB c := by
  unfold acceptsB
  exact decide_eq_decide.2 same_list
end Go.Proofs.YtmhpcgcloojfbaaGreatDoor
