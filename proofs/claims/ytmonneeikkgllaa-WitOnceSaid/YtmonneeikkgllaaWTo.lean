/- How often an item of a kind and a number is there, in plain lists (no program). -/
import Derived.Test.YtmonneeikkgllaaWT
namespace Go.Proofs.Ytmonneeikkgllaa.WtP
open Go.Sort Go.Proofs
set_option linter.unusedVariables false
/-- How often an item of a kind and a number is there. -/
def cnt (l : List T4) (k j : Int) : Nat := l.countP fun x => x.kind == k && x.idx == j
def Dis (l : List T4) : Prop := l.Pairwise fun x y => ¬ (x.kind = y.kind ∧ x.idx = y.idx)
theorem cnt_nil (k j : Int) : cnt [] k j = 0 := rfl
theorem cnt_app (a : List T4) (x : T4) (k j : Int) : cnt (a ++ [x]) k j = cnt a k j + (if x.kind = k ∧ x.idx = j then 1 else 0) := by
  unfold cnt
  rw [List.countP_append]
  congr 1
  by_cases h : x.kind = k ∧ x.idx = j
  · rw [if_pos h]; simp [h.1, h.2]
  · rw [if_neg h]; simp; intro h1; exact fun h2 => h ⟨h1, h2⟩
theorem cnt_pos {l : List T4} {k j : Int} : 0 < cnt l k j ↔ ∃ x ∈ l, x.kind = k ∧ x.idx = j := by
  unfold cnt
  rw [List.countP_pos_iff]
  constructor
  · rintro ⟨x, hx, h⟩; simp at h; exact ⟨x, hx, h⟩
  · rintro ⟨x, hx, h⟩; exact ⟨x, hx, by simp [h.1, h.2]⟩
theorem cnt_le : ∀ {l : List T4}, Dis l → ∀ k j, cnt l k j ≤ 1
  | [], _, _, _ => Nat.zero_le _
  | x :: l, h, k, j => by
    obtain ⟨h1, h2⟩ := List.pairwise_cons.1 h
    have ih := cnt_le h2 k j
    unfold cnt at *
    rw [List.countP_cons]
    by_cases hx : x.kind = k ∧ x.idx = j
    · have h0 : l.countP (fun x => x.kind == k && x.idx == j) = 0 := by
        rw [List.countP_eq_zero]
        intro y hy e
        simp at e
        exact h1 y hy ⟨hx.1.trans e.1.symm, hx.2.trans e.2.symm⟩
      rw [h0]; split <;> omega
    · rw [if_neg (by simp; intro a b; exact hx ⟨a, b⟩)]; omega
theorem cnt_one {l : List T4} (h : Dis l) {k j : Int} : cnt l k j = 1 ↔ ∃ x ∈ l, x.kind = k ∧ x.idx = j := by
  rw [← cnt_pos]; have := cnt_le h k j; omega
theorem cnt_new {l : List T4} (h : Dis l) {i : Nat} {x : T4} (hx : l[i]? = some x) : cnt (l.take i) x.kind x.idx = 0 := by
  by_cases h0 : 0 < cnt (l.take i) x.kind x.idx
  · obtain ⟨y, hy, h1, h2⟩ := cnt_pos.1 h0
    obtain ⟨j, hj, rfl⟩ := List.getElem_of_mem hy
    rw [List.length_take] at hj
    obtain ⟨hi, he⟩ := List.getElem?_eq_some_iff.1 hx
    have := List.pairwise_iff_getElem.1 h j i (by omega) hi (by omega)
    rw [List.getElem_take] at h1 h2
    exact absurd ⟨by rw [h1, he], by rw [h2, he]⟩ this
  · omega
section
variable {sp : Nat → Int × Bool × Bool} {rg bt : Nat → Int} {n m : Nat}
theorem dis_ord : Dis (ordS (allP sp rg bt n m)) := by
  have hn : (ordS (allP sp rg bt n m)).Nodup := ((ordS_perm _).nodup_iff).2 (nodup_of_pos (pos_allP n m))
  have hp : (ordS (allP sp rg bt n m)).Perm (allD sp rg bt n m) := (ordS_perm _).trans (perm_all n m).symm
  have h2 := List.Pairwise.and_mem.1 hn
  exact h2.imp (fun {a b} h e => h.2.2 (one_all (hp.subset h.1) (hp.subset h.2.1) e.1 e.2))
theorem mem_ord {x : T4} : x ∈ ordS (allP sp rg bt n m) ↔ (∃ i, i < n ∧ x ∈ effs sp i) ∨ (∃ i, i < n ∧ x ∈ rngs rg i) ∨ ∃ i, i < m ∧ x ∈ dels bt i := by
  have hp : (ordS (allP sp rg bt n m)).Perm (allD sp rg bt n m) := (ordS_perm _).trans (perm_all n m).symm
  rw [hp.mem_iff]
  unfold allD
  rw [List.mem_append, List.mem_append, mem_upN, mem_upN, mem_upN, or_assoc]
theorem ord_cases {x : T4} (h : x ∈ ordS (allP sp rg bt n m)) : ∃ j : Nat, x.idx = (j : Int) ∧ ((x.kind = 1 ∧ j < n) ∨ (x.kind = 2 ∧ j < n) ∨ (x.kind = 3 ∧ j < m)) := by
  rcases mem_ord.1 h with ⟨i, hi, h⟩ | ⟨i, hi, h⟩ | ⟨i, hi, h⟩
  · exact ⟨i, (rank_effs h).2.2, .inl ⟨(rank_effs h).2.1, hi⟩⟩
  · exact ⟨i, (rank_rngs h).2.2, .inr (.inl ⟨(rank_rngs h).2.1, hi⟩)⟩
  · exact ⟨i, (rank_dels h).2.2, .inr (.inr ⟨(rank_dels h).2.1, hi⟩)⟩
theorem cnt_eff {j : Nat} (hj : j < n) : cnt (ordS (allP sp rg bt n m)) 1 j = if (sp j).2.2 = true then 1 else 0 := by
  by_cases h : (sp j).2.2 = true
  · rw [if_pos h]
    exact (cnt_one dis_ord).2 ⟨_, mem_ord.2 (.inl ⟨j, hj, mem_effs.2 ⟨h, rfl⟩⟩), rfl, rfl⟩
  · rw [if_neg h]
    by_cases h0 : 0 < cnt (ordS (allP sp rg bt n m)) 1 j
    · obtain ⟨x, hx, h1, h2⟩ := cnt_pos.1 h0
      exfalso
      rcases mem_ord.1 hx with ⟨i, hi, hq⟩ | ⟨i, hi, hq⟩ | ⟨i, hi, hq⟩
      · have e := (rank_effs hq).2.2
        have : i = j := by omega
        subst this
        exact h (mem_effs.1 hq).1
      · have := (rank_rngs hq).2.1; omega
      · have := (rank_dels hq).2.1; omega
    · omega
theorem cnt_rng {j : Nat} (hj : j < n) : cnt (ordS (allP sp rg bt n m)) 2 j = if 0 ≤ rg j then 1 else 0 := by
  by_cases h : 0 ≤ rg j
  · rw [if_pos h]
    exact (cnt_one dis_ord).2 ⟨_, mem_ord.2 (.inr (.inl ⟨j, hj, mem_rngs.2 ⟨h, rfl⟩⟩)), rfl, rfl⟩
  · rw [if_neg h]
    by_cases h0 : 0 < cnt (ordS (allP sp rg bt n m)) 2 j
    · obtain ⟨x, hx, h1, h2⟩ := cnt_pos.1 h0
      exfalso
      rcases mem_ord.1 hx with ⟨i, hi, hq⟩ | ⟨i, hi, hq⟩ | ⟨i, hi, hq⟩
      · have := (rank_effs hq).2.1; omega
      · have e := (rank_rngs hq).2.2
        have : i = j := by omega
        subst this
        exact h (mem_rngs.1 hq).1
      · have := (rank_dels hq).2.1; omega
    · omega
theorem cnt_del {j : Nat} (hj : j < m) : cnt (ordS (allP sp rg bt n m)) 3 j = 1 :=
  (cnt_one dis_ord).2 ⟨_, mem_ord.2 (.inr (.inr ⟨j, hj, mem_dels.2 rfl⟩)), rfl, rfl⟩
end
/-- The counts of a kind. -/
def cntL (l : List T4) (k : Int) (n : Nat) : List Int := (List.range n).map fun j => (cnt l k (j : Nat) : Int)
theorem cntL_len (l : List T4) (k : Int) (n : Nat) : (cntL l k n).length = n := by simp [cntL]
theorem cntL_at (l : List T4) (k : Int) {n j : Nat} (hj : j < n) : (cntL l k n)[j]? = some (cnt l k j : Int) := by simp [cntL, hj]
theorem cntL_zero (k : Int) (n : Nat) : cntL [] k n = List.replicate n 0 := by
  apply List.ext_getElem?
  intro j
  by_cases hj : j < n
  · rw [cntL_at _ _ hj, List.getElem?_replicate, if_pos hj]; rfl
  · rw [List.getElem?_eq_none (by rw [cntL_len]; omega), List.getElem?_eq_none (by simp; omega)]
theorem cntL_other (l : List T4) (x : T4) (k : Int) (n : Nat) (h : x.kind ≠ k) : cntL (l ++ [x]) k n = cntL l k n := by
  unfold cntL
  congr 1
  funext j
  rw [cnt_app, if_neg (fun e => h e.1), Nat.add_zero]
theorem cntL_set (l : List T4) (x : T4) (n j : Nat) (hi : x.idx = (j : Int)) (h0 : cnt l x.kind x.idx = 0) : cntL (l ++ [x]) x.kind n = (cntL l x.kind n).set j 1 := by
  apply List.ext_getElem?
  intro q
  rw [List.getElem?_set]
  by_cases hq : q < n
  · rw [cntL_at _ _ hq, cntL_at _ _ hq, cnt_app, cntL_len]
    by_cases e : j = q
    · subst e
      rw [if_pos rfl, if_pos hq, if_pos ⟨rfl, hi⟩, ← hi, h0]; rfl
    · rw [if_neg e, if_neg (fun h => e (by omega)), Nat.add_zero]
  · rw [List.getElem?_eq_none (by rw [cntL_len]; omega), cntL_len]
    by_cases e : j = q
    · subst e; rw [if_pos rfl, if_neg hq]
    · rw [if_neg e, List.getElem?_eq_none (by rw [cntL_len]; omega)]
end Go.Proofs.Ytmonneeikkgllaa.WtP
