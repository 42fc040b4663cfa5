/- A partition's ticks, one frame after the other, in plain lists. No condition. -/
import Derived.Test.YtfnpdoppdbhlcaaFrm
namespace Go.Proofs.Ytfnpdoppdbhlcaa
open Go.RowKit Go.Sort
set_option linter.unusedVariables false
set_option linter.unusedSimpArgs false

/-- The k-th tick, where xs are those of one frame's length. -/
def seqT (xs : List Int) (len : Int) (k : Nat) : Int := xs.getD (k % xs.length) 0 + ((k / xs.length : Nat) : Int) * len
def toldT (xs : List Int) (len : Int) (n : Nat) : List Int := (List.range n).map (seqT xs len)
theorem toldT_len (xs : List Int) (len : Int) (n : Nat) : (toldT xs len n).length = n := by simp [toldT]
theorem toldT_succ (xs : List Int) (len : Int) (n : Nat) : toldT xs len (n + 1) = toldT xs len n ++ [seqT xs len n] := by simp [toldT, List.range_succ]
theorem seqT_at {xs : List Int} {len : Int} {q r : Nat} (hr : r < xs.length) : seqT xs len (q * xs.length + r) = xs.getD r 0 + (q : Int) * len := by
  have h1 : (q * xs.length + r) % xs.length = r := by rw [Nat.add_comm, Nat.add_mul_mod_self_right, Nat.mod_eq_of_lt hr]
  have h2 : (q * xs.length + r) / xs.length = q := by rw [Nat.add_comm, Nat.add_mul_div_right _ _ (by omega), Nat.div_eq_of_lt hr, Nat.zero_add]
  unfold seqT
  rw [h1, h2]
theorem seqT_more {xs : List Int} {len : Int} (h : 0 < xs.length) (k : Nat) : seqT xs len (xs.length + k) = seqT xs len k + len := by
  unfold seqT
  rw [Nat.add_mod_left, Nat.add_div_left _ h, Int.natCast_succ, Int.add_mul, Int.one_mul, Int.add_assoc]
theorem toldT_more {xs : List Int} {len : Int} (h : 0 < xs.length) (c : Nat) : toldT xs len (xs.length + c) = toldT xs len xs.length ++ (toldT xs len c).map (· + len) := by
  unfold toldT
  rw [List.range_add, List.map_append, List.map_map, List.map_map]
  congr 1
  apply List.map_congr_left
  intro i _
  show seqT xs len (xs.length + i) = seqT xs len i + len
  exact seqT_more h i
theorem upL_add (is : Int → List Int → Bool) (len : Int) (l : List (List Int)) (part a : Int) (p q : Nat) : upL is len l part a (p + q) = upL is len l part a p ++ upL is len l part (a + p) q := by
  induction q with
  | zero => simp [upL]
  | succ q ih =>
    rw [← Nat.add_assoc, upL_next, ih, upL_next, List.append_assoc, Int.natCast_add, Int.add_assoc]
theorem upL_turn (is : Int → List Int → Bool) (len : Int) (l : List (List Int)) (part a : Int) (n : Nat) : upL is len l part (a + len) n = (upL is len l part a n).map (· + len) := by
  induction n with
  | zero => simp [upL]
  | succ n ih =>
    have e : a + len + (n : Int) = a + (n : Int) + len := by omega
    have h : hitB is len l part (a + len + (n : Int)) = hitB is len l part (a + (n : Int)) := by unfold hitB; rw [e, Int.add_emod_right]
    rw [upL_next, upL_next, ih, h, List.map_append]
    split
    · simp [e]
    · simp
theorem up_in {is : Int → List Int → Bool} {l : List (List Int)} {part a : Int} {m : Nat} {xs : List Int} (hxs : upL is m l part a m = xs) {n : Nat} (hn : n ≤ m) : upL is m l part a n = toldT xs m (upL is m l part a n).length := by
  obtain ⟨r, hr⟩ := upL_more (is := is) (len := m) (l := l) (part := part) (a := a) hn
  rw [hxs] at hr
  apply List.ext_getElem
  · rw [toldT_len]
  · intro i h1 h2
    have h3 : i < xs.length := by rw [hr, List.length_append]; omega
    have h4 := seqT_at (xs := xs) (len := (m : Int)) (q := 0) h3
    simp only [Nat.zero_mul, Nat.zero_add, Int.natCast_zero, Int.zero_mul, Int.add_zero] at h4
    simp only [toldT, List.getElem_map, List.getElem_range, h4]
    rw [List.getD_eq_getElem?_getD, hr, List.getElem?_append_left h1]
    simp [h1]
theorem up_told {is : Int → List Int → Bool} {l : List (List Int)} {part a : Int} {m : Nat} {xs : List Int} (hxs : upL is m l part a m = xs) (hp : 0 < xs.length) (hm : 0 < m) : ∀ n, upL is m l part a n = toldT xs m (upL is m l part a n).length := by
  intro n
  induction n using Nat.strongRecOn with
  | _ n ih =>
    by_cases hn : n ≤ m
    · exact up_in hxs hn
    · obtain ⟨k, rfl⟩ : ∃ k, n = m + k := ⟨n - m, by omega⟩
      have h1 := upL_add is m l part a m k
      rw [upL_turn, hxs] at h1
      have h2 := ih k (by omega)
      have h3 : xs = toldT xs m xs.length := by have := up_in hxs (Nat.le_refl m); rwa [hxs] at this
      rw [h1, List.length_append, List.length_map, toldT_more hp, ← h3, ← h2]
theorem up_many {is : Int → List Int → Bool} {l : List (List Int)} {part : Int} {m : Nat} : ∀ (q : Nat) {a : Int}, 0 < (upL is m l part a m).length → q ≤ (upL is m l part a (q * m)).length
  | 0, _, _ => Nat.zero_le _
  | q + 1, a, h => by
    have ih := up_many q h
    rw [show (q + 1) * m = m + q * m by rw [Nat.succ_mul, Nat.add_comm], upL_add, upL_turn, List.length_append, List.length_map]
    omega
theorem up_less {is : Int → List Int → Bool} {l : List (List Int)} {part : Int} {m q n : Nat} {a : Int} (h : 0 < (upL is m l part a m).length) (hq : (upL is m l part a n).length < q) : n < q * m := by
  by_cases hn : n < q * m
  · exact hn
  · have h1 := up_many q h
    obtain ⟨r, hr⟩ := upL_more (is := is) (len := m) (l := l) (part := part) (a := a) (m := n) (k := q * m) (by omega)
    rw [hr, List.length_append] at hq
    omega
theorem emod_back (a p : Int) {m : Int} (h0 : 0 ≤ p) (h1 : p < m) : (a + (p - a) % m) % m = p := by
  rw [Int.add_emod, Int.emod_emod_of_dvd _ (Int.dvd_refl m), ← Int.add_emod, show a + (p - a) = p by omega, Int.emod_eq_of_lt h0 h1]
/-- A part that has a window has ticks, and none else. -/
theorem up_nil {is : Int → List Int → Bool} {l : List (List Int)} {part a : Int} {m : Nat} (hR : Rt m l) (hO : One is l) (hs : ∀ i, i < l.length → is (fld (row l i) 1) (row l i) = true) : upL is m l part a m = [] ↔ ¬ ∃ i, i < l.length ∧ fld (row l i) 0 = part := by
  constructor
  · rintro h ⟨i, hi, hp⟩
    have ho := hR.ok i hi
    have hlo := hR.lo
    have e := emod_back a (fld (row l i) 1) (m := (m : Int)) (by omega) (by omega)
    have k0 := Int.emod_nonneg (fld (row l i) 1 - a) (show (m : Int) ≠ 0 by omega)
    have k1 := Int.emod_lt_of_pos (fld (row l i) 1 - a) (show (0 : Int) < m by omega)
    obtain ⟨k, hk⟩ := Int.eq_ofNat_of_zero_le k0
    rw [hk] at e k1
    have : a + (k : Int) ∈ upL is m l part a m := upL_mem.2 ⟨⟨k, by omega, rfl⟩, decide_eq_true ((who_iff hO).2 ⟨i, hi, by rw [e]; exact hs i hi, hp⟩)⟩
    rw [h] at this
    cases this
  · intro h
    cases hu : upL is m l part a m with
    | nil => rfl
    | cons y ys =>
      exfalso
      have hy : y ∈ upL is m l part a m := by rw [hu]; simp
      obtain ⟨i, h1, _, h3⟩ := (who_iff hO).1 (of_decide_eq_true (upL_mem.1 hy).2)
      exact h ⟨i, h1, h3⟩
theorem next_never {l : List (List Int)} {part t : Int} {m : Nat} (hm : mayB m l t = true) : nextO m l part t = none ↔ upL openB m l part t m = [] := by
  have hR := (may_rt hm).1
  have h1 := up_nil (is := openB) (part := part) (a := t) hR (one_open hR) (fun i hi => ent_open hR hi (decide_eq_true rfl))
  have h2 := up_nil (is := entB) (part := part) (a := t + 1) hR (one_ent hR) (fun i hi => decide_eq_true rfl)
  rw [h1, ← h2]
  unfold nextO
  rw [if_pos hm, List.head?_eq_none_iff]
  exact Iff.rfl
end Go.Proofs.Ytfnpdoppdbhlcaa
