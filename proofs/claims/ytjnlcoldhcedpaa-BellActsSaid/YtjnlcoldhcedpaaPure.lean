/- The document's answers about bells, as functions of lists. No condition. -/
import Derived.Test.YtjnlcoldhcedpaaKit
namespace Go.Proofs.Ytjnlcoldhcedpaa

/-- Is bell i pending? -/
def hasB (bs : List Bool) (i : Int) : Bool := decide (0 ≤ i) && bs.getD i.toNat false
/-- Bell i is rung. -/
def ringB (bs : List Bool) (i : Int) : List Bool := if 0 ≤ i then bs.set i.toNat true else bs
def tk (bs : List Bool) (out : List Int) (i : Int) : List Int := if hasB bs i = true ∧ i ∉ out then out ++ [i] else out
/-- What is taken. -/
def takeB (bs : List Bool) (l : List Int) : List Int := l.foldl (tk bs) []
/-- What is pending without those. -/
def leftB (bs : List Bool) (out : List Int) : List Bool := (List.range bs.length).map fun k => bs.getD k false && !decide ((k : Int) ∈ out)
/-- The pending ones below k, rising. -/
def allTo (bs : List Bool) (k : Nat) : List Int := ((List.range k).filter (fun j => bs.getD j false)).map (fun j : Nat => (j : Int))
def allB (bs : List Bool) : List Int := allTo bs bs.length

theorem hasB_nat (bs : List Bool) (k : Nat) : hasB bs (k : Int) = bs.getD k false := by simp [hasB]
theorem hasB_neg (bs : List Bool) (i : Int) (h : i < 0) : hasB bs i = false := by simp [hasB]; omega
theorem hasB_big (bs : List Bool) (i : Int) (h : (bs.length : Int) ≤ i) : hasB bs i = false := by
  simp [hasB, List.getD_eq_getElem?_getD]
  intro h0
  rw [List.getElem?_eq_none (by omega)]; rfl
theorem hasB_true {bs : List Bool} {i : Int} (h : hasB bs i = true) : ∃ k : Nat, i = k ∧ k < bs.length ∧ bs.getD k false = true := by
  by_cases h0 : i < 0
  · rw [hasB_neg bs i h0] at h; cases h
  obtain ⟨k, rfl⟩ := Int.eq_ofNat_of_zero_le (a := i) (by omega)
  by_cases h1 : k < bs.length
  · rw [hasB_nat] at h; exact ⟨k, rfl, h1, h⟩
  · rw [hasB_big bs k (by omega)] at h; cases h
@[simp] theorem ringB_len (bs : List Bool) (i : Int) : (ringB bs i).length = bs.length := by unfold ringB; split <;> simp
theorem ringB_at (bs : List Bool) (i : Int) (k : Nat) (h : k < bs.length) : (ringB bs i).getD k false = (bs.getD k false || decide ((k : Int) = i)) := by
  unfold ringB
  split
  · rename_i h0
    obtain ⟨j, rfl⟩ := Int.eq_ofNat_of_zero_le h0
    simp only [List.getD_eq_getElem?_getD, Int.toNat_natCast, List.getElem?_set]
    by_cases hj : j = k
    · subst hj; simp [h]
    · have : ¬ (k : Int) = (j : Int) := by omega
      simp [hj, this]
  · have : ¬ (k : Int) = i := by omega
    simp [this]
theorem ringB_same (bs : List Bool) (i : Int) (h : i < 0 ∨ (bs.length : Int) ≤ i) : ringB bs i = bs := by
  unfold ringB
  split
  · exact List.set_eq_of_length_le (by omega)
  · rfl
theorem ringB_nat (bs : List Bool) (k : Nat) : ringB bs (k : Int) = bs.set k true := by simp [ringB]
@[simp] theorem leftB_len (bs : List Bool) (out : List Int) : (leftB bs out).length = bs.length := by simp [leftB]
theorem leftB_at (bs : List Bool) (out : List Int) (k : Nat) (h : k < bs.length) : (leftB bs out).getD k false = (bs.getD k false && !decide ((k : Int) ∈ out)) := by
  simp [leftB, List.getD_eq_getElem?_getD, h]
theorem bools_ext {as bs : List Bool} (h : as.length = bs.length) (h2 : ∀ k, k < as.length → as.getD k false = bs.getD k false) : as = bs := by
  apply List.ext_getElem h
  intro k h3 h4
  have := h2 k h3
  simpa [List.getD_eq_getElem?_getD, h3, h4] using this
theorem leftB_nil (bs : List Bool) : leftB bs [] = bs := by
  refine bools_ext (by simp) fun k hk => ?_
  rw [leftB_at bs [] k (by simpa using hk)]
  simp
theorem hasB_left (bs : List Bool) (out : List Int) (i : Int) : hasB (leftB bs out) i = (hasB bs i && !decide (i ∈ out)) := by
  by_cases h0 : i < 0
  · rw [hasB_neg _ _ h0, hasB_neg _ _ h0]; rfl
  obtain ⟨k, rfl⟩ := Int.eq_ofNat_of_zero_le (a := i) (by omega)
  by_cases h1 : k < bs.length
  · rw [hasB_nat, hasB_nat, leftB_at bs out k h1]
  · rw [hasB_big _ _ (by simp; omega), hasB_big _ _ (by omega)]; rfl
theorem leftB_set (bs : List Bool) (out : List Int) (k : Nat) : (leftB bs out).set k false = leftB bs (out ++ [(k : Int)]) := by
  refine bools_ext (by simp) fun j hj => ?_
  have hj' : j < bs.length := by simpa using hj
  rw [leftB_at bs _ j hj']
  have h := leftB_at bs out j hj'
  simp only [List.getD_eq_getElem?_getD, List.getElem?_set] at h ⊢
  by_cases hk : k = j
  · subst hk; simp [hj']
  · have : ¬ (j : Int) = (k : Int) := by omega
    simp only [hk, if_false]
    rw [h]
    simp [this]
theorem takeB_snoc (bs : List Bool) (l : List Int) (x : Int) : takeB bs (l ++ [x]) = tk bs (takeB bs l) x := by simp [takeB]
theorem tk_in {bs : List Bool} {out : List Int} {x : Int} (h : hasB (leftB bs out) x = true) : tk bs out x = out ++ [x] := by
  rw [hasB_left] at h
  simp at h
  simp [tk, h.1, h.2]
theorem tk_out {bs : List Bool} {out : List Int} {x : Int} (h : hasB (leftB bs out) x = false) : tk bs out x = out := by
  rw [hasB_left] at h
  unfold tk
  rw [if_neg]
  rintro ⟨h1, h2⟩
  simp [h1, h2] at h
theorem takeB_len (bs : List Bool) (l : List Int) : (takeB bs l).length ≤ l.length := by
  suffices h : ∀ (l out : List Int), (l.foldl (tk bs) out).length ≤ out.length + l.length by simpa [takeB] using h l []
  intro l
  induction l with
  | nil => intro out; simp
  | cons x l ih =>
    intro out
    have h1 : (tk bs out x).length ≤ out.length + 1 := by
      unfold tk
      split
      · simp
      · exact Nat.le_succ _
    have h2 := ih (tk bs out x)
    simp only [List.foldl_cons, List.length_cons]
    omega
theorem allTo_len (bs : List Bool) (k : Nat) : (allTo bs k).length ≤ k := by
  unfold allTo
  rw [List.length_map]
  exact Nat.le_trans (List.length_filter_le _ _) (by simp)
theorem allB_len (bs : List Bool) : (allB bs).length ≤ bs.length := allTo_len bs bs.length
theorem allTo_in (bs : List Bool) (k : Nat) (h : bs.getD k false = true) : allTo bs (k + 1) = allTo bs k ++ [(k : Int)] := by
  unfold allTo
  rw [List.range_succ, List.filter_append, List.map_append]
  simp only [List.filter_cons, h, if_true, List.filter_nil, List.map_cons, List.map_nil]
theorem allTo_out (bs : List Bool) (k : Nat) (h : bs.getD k false = false) : allTo bs (k + 1) = allTo bs k := by
  unfold allTo
  rw [List.range_succ, List.filter_append, List.map_append]
  simp only [List.filter_cons, h, List.filter_nil]
  simp
theorem allTo_pre (bs : List Bool) (k : Nat) (h : k ≤ bs.length) : allTo bs k <+: allB bs := by
  unfold allB allTo
  rw [show bs.length = k + (bs.length - k) by omega, List.range_add, List.filter_append, List.map_append]
  exact List.prefix_append _ _
theorem take_next (xs : List Int) (k : Nat) (h : k < xs.length) : xs.take (k + 1) = xs.take k ++ [xs.getD k 0] := by
  rw [List.take_succ_eq_append_getElem h]; simp [List.getD_eq_getElem?_getD, h]
theorem take_nextB (xs : List Bool) (k : Nat) (h : k < xs.length) : xs.take (k + 1) = xs.take k ++ [xs.getD k false] := by
  rw [List.take_succ_eq_append_getElem h]; simp [List.getD_eq_getElem?_getD, h]
end Go.Proofs.Ytjnlcoldhcedpaa
