/- BellApart: what it says of lists. No condition. -/
import Derived.Test.YtjnlcoldhcedpaaLHas
namespace Go.Proofs.Ytjnlcoldhcedpaa

theorem allTo_set (bs : List Bool) (j : Nat) (hj : bs.getD j false = true) : ∀ k, k ≤ bs.length → (allTo (bs.set j false) k).length + (if j < k then 1 else 0) = (allTo bs k).length := by
  intro k
  induction k with
  | zero => intro _; simp [allTo]
  | succ k ih =>
    intro hk
    have h := ih (by omega)
    by_cases hjk : j = k
    · subst hjk
      have h1 : (bs.set j false).getD j false = false := by simp [List.getD_eq_getElem?_getD, show j < bs.length by omega]
      rw [allTo_out _ _ h1, allTo_in _ _ hj, List.length_append]
      simp at h ⊢
      omega
    · have h1 : (bs.set j false).getD k false = bs.getD k false := by simp [List.getD_eq_getElem?_getD, hjk]
      have h3 : (if j < k + 1 then 1 else 0) = (if j < k then 1 else 0) := by
        by_cases h4 : j < k
        · rw [if_pos h4, if_pos (by omega)]
        · rw [if_neg h4, if_neg (by omega)]
      cases h2 : bs.getD k false with
      | true =>
        rw [allTo_in _ _ h2, allTo_in _ _ (h1.trans h2), List.length_append, List.length_append, h3]
        simp
        omega
      | false => rw [allTo_out _ _ h2, allTo_out _ _ (h1.trans h2), h3]; exact h
theorem take_count (bs : List Bool) (l : List Int) : (allB (leftB bs (takeB bs l))).length + (takeB bs l).length = (allB bs).length := by
  suffices h : ∀ (l out : List Int), (allB (leftB bs out)).length + out.length = (allB bs).length → (allB (leftB bs (l.foldl (tk bs) out))).length + (l.foldl (tk bs) out).length = (allB bs).length by
    exact h l [] (by rw [leftB_nil]; simp)
  intro l
  induction l with
  | nil => intro out h; exact h
  | cons x l ih =>
    intro out h
    refine ih _ ?_
    by_cases hx : hasB (leftB bs out) x = true
    · rw [tk_in hx]
      obtain ⟨j, rfl, hj, hb⟩ := hasB_true hx
      rw [← leftB_set]
      have h1 := allTo_set (leftB bs out) j hb (leftB bs out).length (Nat.le_refl _)
      rw [if_pos hj] at h1
      have h2 : (allB ((leftB bs out).set j false)).length + 1 = (allB (leftB bs out)).length := by
        unfold allB
        rw [List.length_set]
        exact h1
      rw [List.length_append, List.length_singleton]
      omega
    · rw [tk_out (by simpa using hx)]; exact h
theorem allB_has (bs : List Bool) (k : Nat) (h : k < (allB bs).length) : hasB bs ((allB bs).getD k 0) = true := by
  have h1 : (allB bs).getD k 0 ∈ allB bs := by
    rw [List.getD_eq_getElem?_getD, List.getElem?_eq_getElem h]
    exact List.getElem_mem h
  unfold allB allTo at h1
  obtain ⟨j, hj, e⟩ := List.mem_map.1 h1
  rw [show (allB bs).getD k 0 = (j : Int) from e.symm, hasB_nat]
  exact (List.mem_filter.1 hj).2

/-- The list from place b on, and around. -/
def turned (l : List Int) (b : Nat) : List Int := (List.range l.length).map fun i => l.getD ((i + b) % l.length) 0
@[simp] theorem turned_len (l : List Int) (b : Nat) : (turned l b).length = l.length := by simp [turned]
theorem turned_at (l : List Int) (b k : Nat) (h : k < l.length) : (turned l b).getD k 0 = l.getD ((k + b) % l.length) 0 := by simp [turned, List.getD_eq_getElem?_getD, h]
theorem turned_mem (l : List Int) (b : Nat) (x : Int) : x ∈ turned l b ↔ x ∈ l := by
  constructor
  · intro h
    obtain ⟨i, hi, rfl⟩ := List.mem_map.1 h
    have hl : 0 < l.length := by have := List.mem_range.1 hi; omega
    have hm := Nat.mod_lt (i + b) hl
    rw [List.getD_eq_getElem?_getD, List.getElem?_eq_getElem hm]
    exact List.getElem_mem hm
  · intro h
    obtain ⟨j, hj, rfl⟩ := List.getElem_of_mem h
    have hl : 0 < l.length := by omega
    have hc := Nat.mod_lt b hl
    refine List.mem_map.2 ⟨if b % l.length ≤ j then j - b % l.length else j + l.length - b % l.length, List.mem_range.2 (by split <;> omega), ?_⟩
    have e : ((if b % l.length ≤ j then j - b % l.length else j + l.length - b % l.length) + b) % l.length = j := by
      rw [Nat.add_mod, Nat.mod_eq_of_lt (a := if b % l.length ≤ j then j - b % l.length else j + l.length - b % l.length) (by split <;> omega)]
      split
      · rw [show j - b % l.length + b % l.length = j by omega]; exact Nat.mod_eq_of_lt hj
      · rw [show j + l.length - b % l.length + b % l.length = j + l.length by omega, Nat.add_mod_right]; exact Nat.mod_eq_of_lt hj
    rw [e, List.getD_eq_getElem?_getD, List.getElem?_eq_getElem hj]
    rfl
theorem rungB_turned (n : Nat) (l : List Int) (b : Nat) : rungB n (turned l b) = rungB n l := by
  refine bools_ext (by simp) fun k hk => ?_
  have hk' : k < n := by simpa using hk
  rw [rungB_at n _ k hk', rungB_at n l k hk']
  simp [turned_mem]
end Go.Proofs.Ytjnlcoldhcedpaa
