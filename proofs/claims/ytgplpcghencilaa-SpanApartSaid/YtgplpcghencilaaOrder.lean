/- What the sorted row of the filled spans says of all spans. Plain lists and numbers. -/
import Derived.Test.YtgplpcghencilaaSameApart
namespace Go.Proofs.Ytgplpcghencilaa

def full (l : List (Int × Int)) : List (Int × Int) := l.filter fun p => filledB p.1 p.2
def Off (p q : Int × Int) : Prop := meetsB p.1 p.2 q.1 q.2 = false
theorem Off.symm {p q : Int × Int} (h : Off p q) : Off q p := by unfold Off at *; rw [meetsB_symm]; exact h
theorem off_empty {p q : Int × Int} (h : filledB p.1 p.2 = false ∨ filledB q.1 q.2 = false) : Off p q := by
  unfold Off; rcases h with h | h <;> simp [meetsB, h]
theorem apart_pairwise (l : List (Int × Int)) : apartB l = true ↔ l.Pairwise Off := by
  unfold apartB
  rw [decide_eq_true_iff, List.pairwise_iff_getElem]
  have hd : ∀ i (h : i < l.length), l.getD i (0, 0) = l[i] := fun i h => by simp [List.getD_eq_getElem?_getD, h]
  constructor
  · intro h i j hi hj hij
    have := h i hi j hj (by omega)
    rw [hd i hi, hd j hj] at this
    exact this
  · intro h i hi k hk hik
    rw [hd i hi, hd k hk]
    rcases Nat.lt_or_gt_of_ne hik with c | c
    · exact h i k hi hk c
    · exact (h k i hk hi c).symm
theorem full_pairwise (l : List (Int × Int)) : l.Pairwise Off ↔ (full l).Pairwise Off := by
  unfold full
  rw [List.pairwise_filter]
  constructor
  · intro h; exact h.imp (fun hr _ _ => hr)
  · intro h
    refine h.imp (fun {p q} hr => ?_)
    by_cases hp : filledB p.1 p.2 = true
    · by_cases hq : filledB q.1 q.2 = true
      · exact hr hp hq
      · exact off_empty (.inr (by simpa using hq))
    · exact off_empty (.inl (by simpa using hp))
theorem perm_pairwise {l r : List (Int × Int)} (h : r.Perm l) : r.Pairwise Off ↔ l.Pairwise Off := h.pairwise_iff Off.symm
/-- Sorted and filled: it is enough that no two neighbours meet. -/
theorem next_enough (r : List (Int × Int)) (hf : ∀ p ∈ r, filledB p.1 p.2 = true) (hs : ∀ i j, i < j → j < r.length → (r.getD i (0, 0)).1 ≤ (r.getD j (0, 0)).1)
    (hn : ∀ i, i + 1 < r.length → Off (r.getD i (0, 0)) (r.getD (i + 1) (0, 0))) : r.Pairwise Off := by
  have hd : ∀ i (h : i < r.length), r.getD i (0, 0) = r[i] := fun i h => by simp [List.getD_eq_getElem?_getD, h]
  have hfi : ∀ i, i < r.length → filledB (r.getD i (0, 0)).1 (r.getD i (0, 0)).2 = true := fun i h => by rw [hd i h]; exact hf _ (List.getElem_mem h)
  have step : ∀ i, i + 1 < r.length → (r.getD i (0, 0)).1 + (r.getD i (0, 0)).2 ≤ (r.getD (i + 1) (0, 0)).1 := by
    intro i hi
    have h1 := hn i hi
    have h2 := hs i (i + 1) (by omega) hi
    have h3 := filledB_yes.1 (hfi i (by omega))
    have h4 := filledB_yes.1 (hfi (i + 1) hi)
    unfold Off at h1
    by_cases hc : (r.getD (i + 1) (0, 0)).1 < (r.getD i (0, 0)).1 + (r.getD i (0, 0)).2
    · rw [meetsB_yes.2 ⟨⟨hfi i (by omega), hfi (i + 1) hi⟩, by omega, hc⟩] at h1; cases h1
    · omega
  rw [List.pairwise_iff_getElem]
  intro i j hi hj hij
  rw [← hd i hi, ← hd j hj]
  have h1 := step i (by omega)
  have h2 : (r.getD (i + 1) (0, 0)).1 ≤ (r.getD j (0, 0)).1 := by
    by_cases e : i + 1 = j
    · rw [e]; omega
    · exact hs (i + 1) j (by omega) hj
  unfold Off
  by_cases hm : meetsB (r.getD i (0, 0)).1 (r.getD i (0, 0)).2 (r.getD j (0, 0)).1 (r.getD j (0, 0)).2 = true
  · have := (meetsB_yes.1 hm).2; omega
  · simpa using hm
theorem apart_sorted (l r : List (Int × Int)) (hp : r.Perm (full l)) (hs : ∀ i j, i < j → j < r.length → (r.getD i (0, 0)).1 ≤ (r.getD j (0, 0)).1) :
    apartB l = true ↔ ∀ i, i + 1 < r.length → Off (r.getD i (0, 0)) (r.getD (i + 1) (0, 0)) := by
  rw [apart_pairwise, full_pairwise, ← perm_pairwise hp]
  constructor
  · intro h i hi
    rw [List.pairwise_iff_getElem] at h
    have := h i (i + 1) (by omega) hi (by omega)
    simpa [List.getD_eq_getElem?_getD, hi, show i < r.length by omega] using this
  · intro h
    refine next_enough r (fun p hm => ?_) hs h
    have := hp.mem_iff.1 hm
    exact (List.mem_filter.1 this).2
theorem full_take (l : List (Int × Int)) (k : Nat) (h : k < l.length) : full (l.take (k + 1)) = full (l.take k) ++ if filledB (l.getD k (0, 0)).1 (l.getD k (0, 0)).2 = true then [l.getD k (0, 0)] else [] := by
  unfold full
  rw [List.take_succ_eq_append_getElem h, List.filter_append]
  simp [List.getD_eq_getElem?_getD, h, List.filter_cons]
theorem full_len (l : List (Int × Int)) : (full l).length ≤ l.length := List.length_filter_le _ _
end Go.Proofs.Ytgplpcghencilaa
