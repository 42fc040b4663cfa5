/- wakes; words for the laws' walks. No condition but those in the statements. -/
import Derived.Test.YtjnlcoldhcedpaaTold
import Derived.Test.YtjnlcoldhcedpaaSame
import Derived.OpenShut
namespace Go.Proofs.Ytjnlcoldhcedpaa
open Go.RowKit Go.Sort

theorem only_below {w0 w w' : World} {B rb : Nat} (hb : Below B w0 w) (hB0 : B ≤ w.heap.size) (ho : Only (fun k => k = rb) w w') (hB : B ≤ rb) : Below B w0 w' :=
  hb.trans (ho.below hB0 (fun k hk => by omega))
/-- A new block of integers, as a row. -/
theorem row_new (w : World) (xs : List Int) (cs : Array Value) (h : cs = (xs.map (Value.int .i64)).toArray) : IntRowK .i64 (w.alloc (.cells cs 3)) (w.alloc (.cells cs 3)).heap.size (some ⟨w.heap.size, 0, none⟩) xs := fun _ => by
  refine ⟨w.heap.size, 0, rfl, by simp, fun i hi => ?_⟩
  subst h
  refine cell_block (heap_alloc_new w _) ?_
  simp [List.getD_eq_getElem?_getD, hi]
theorem GivesOff.row {w w' : World} {xs : List Int} {e : Ending} (h : GivesOff w xs e w') :
    ∃ A c, e = .returned (.slice A xs.length c) ∧ xs.length ≤ c ∧ c ≤ maxLen ∧ IntRowK .i64 w' w'.heap.size A xs ∧ Below w.heap.size w w' := by
  obtain ⟨v, rfl, h1, h2⟩ := h
  obtain ⟨A, c, rfl, a, b, d, _⟩ := OwnsOff.intRowK h1
  exact ⟨A, c, rfl, a, b, d, h2⟩
theorem Takes.row {w w' : World} {mb rb : Nat} {bs : List Bool} {l : List Int} {e : Ending} (h : Takes w mb rb bs l e w') :
    ∃ A c, e = .returned (.slice A (takeB bs l).length c) ∧ (takeB bs l).length ≤ c ∧ c ≤ maxLen ∧ IntRowK .i64 w' w'.heap.size A (takeB bs l) ∧ (∀ a, A = some a → w.heap.size ≤ a.block) ∧ SetAt w' mb rb (leftB bs (takeB bs l)) ∧ Only (fun k => k = rb) w w' := by
  obtain ⟨v, rfl, h1, h2, h3⟩ := h
  obtain ⟨A, c, rfl, a, b, d, e⟩ := OwnsOff.intRowK h1
  exact ⟨A, c, rfl, a, b, d, fun x hx => (h1.lt _ (e x hx)).1, h2, h3⟩
theorem IntRowK.later {K : IntKind} {w w' : World} {A : Option Addr} {l : List Int} (h : IntRowK K w w.heap.size A l) (hb : Below w.heap.size w w') : IntRowK K w' w'.heap.size A l := (h.below hb).more hb.size

set_option maxRecDepth 100000 in
set_option maxHeartbeats 1600000 in
theorem wakes_b (w : World) : Calls Try.prog 7 #[] w fun e w' => e = .returned (.bool true) ∧ Below w.heap.size w w' := by
  have eT : takeB [true, false, true, false] [2, 1, 2] = [2] := by decide
  have eL : leftB [true, false, true, false] [2] = [true, false, false, false] := by decide
  have eA : allB [true, false, false, false] = [0] := by decide
  have HT := Lib.hid eT; have HL := Lib.hid eL; have HA := Lib.hid eA
  clear eT eL eA
  go_enter Try.func7, Try.ntmps7
  go_wp2_with fail
  refine (new_in 4 4 rfl _ (by omega)).mono ?_
  rintro e w1 ⟨mb, rb, rfl, h1, h2, hS, hB⟩
  have hS := show SetAt w1 mb rb [false, false, false, false] from hS
  have Hr := Lib.hid h2
  clear h1 h2
  go_wp2_with fail
  refine (ring_any mb rb _ 2 _ hS).mono ?_
  rintro e w2 ⟨c2, rfl, _, hS2, hO2⟩
  have hS2 := show SetAt w2 mb rb [false, false, true, false] from hS2
  have hB2 := only_below hB hB.size hO2 Hr.out
  clear hS hO2 hB
  go_wp2_with fail
  refine (ring_any mb rb _ 0 _ hS2).mono ?_
  rintro e w3 ⟨c3, rfl, _, hS3, hO3⟩
  have hS3 := show SetAt w3 mb rb [true, false, true, false] from hS3
  have hB3 := only_below hB2 hB2.size hO3 Hr.out
  clear hS2 hO3 hB2
  go_wp2_with fail
  refine (ring_any mb rb _ 2 _ hS3).mono ?_
  rintro e w4 ⟨c4, rfl, _, hS4, hO4⟩
  have hS4 := show SetAt w4 mb rb [true, false, true, false] from hS4
  have hB4 := only_below hB3 hB3.size hO4 Hr.out
  clear hS3 hO4 hB3
  have hb5 : Below w4.heap.size w4 (w4.alloc (.cells #[.int .i64 2, .int .i64 1, .int .i64 2] 3)) := (Below.refl _ _).alloc (Nat.le_refl _) _
  have hS5 := hS4.below hb5
  have hB5 := hB4.trans (hb5.mono hB4.size)
  have hr5 := row_new w4 [2, 1, 2] #[.int .i64 2, .int .i64 1, .int .i64 2] rfl
  have hn5 : w4.heap.size ≠ rb := by have := hS4.lt.2; omega
  obtain ⟨w5, hw5⟩ : ∃ w5, Hid (w5 = w4.alloc (.cells #[.int .i64 2, .int .i64 1, .int .i64 2] 3)) := ⟨_, rfl⟩
  rw [← hw5.out] at hS5 hB5 hr5
  clear hS4 hB4 hb5
  go_wp2_with fail
  rw [← hw5.out]
  go_wp2_with fail
  refine (take_b mb rb _ [2, 1, 2] _ 3 _ hS5 (by simp) hr5 (fun a ha => by cases ha; exact hn5)).mono ?_
  intro e w6 hT
  obtain ⟨A6, c6, rfl, _, _, hr6, _, hS6, hO6⟩ := hT.row
  have hB6 := only_below hB5 hB5.size hO6 Hr.out
  rw [HT.out] at hr6 hS6 ⊢
  rw [HL.out] at hS6
  clear hT hS5 hB5 hr5 hn5 hO6 hw5
  have hb7 : Below w6.heap.size w6 (w6.alloc (.cells #[.int .i64 2] 3)) := (Below.refl _ _).alloc (Nat.le_refl _) _
  have hS7 := hS6.below hb7
  have hB7 := hB6.trans (hb7.mono hB6.size)
  have hr7 := hr6.later hb7
  have hq7 := row_new w6 [2] #[.int .i64 2] rfl
  obtain ⟨w7, hw7⟩ : ∃ w7, Hid (w7 = w6.alloc (.cells #[.int .i64 2] 3)) := ⟨_, rfl⟩
  rw [← hw7.out] at hS7 hB7 hr7 hq7
  clear hS6 hB6 hr6 hb7
  go_wp2_with fail
  rw [← hw7.out]
  go_wp2_with fail
  refine (same_yes 1 [2] _ _ _ _ _ rfl hr7 hq7 (by omega)).mono ?_
  rintro e w8 ⟨rfl, hb8⟩
  have hS8 := hS7.below hb8
  have hB8 := hB7.trans (hb8.mono hB7.size)
  clear hS7 hB7 hr7 hq7 hb8 hw7
  go_wp2_with fail
  refine (toldAll_b mb rb _ 9 _ (by simp) (by omega) hS8).mono ?_
  intro e w9 hG
  obtain ⟨A9, c9, rfl, _, _, hr9, hb9⟩ := hG.row
  rw [HA.out] at hr9 ⊢
  have hB9 := hB8.trans (hb9.mono hB8.size)
  clear hG hS8 hB8 hb9
  have hb10 : Below w9.heap.size w9 (w9.alloc (.cells #[.int .i64 0] 3)) := (Below.refl _ _).alloc (Nat.le_refl _) _
  have hB10 := hB9.trans (hb10.mono hB9.size)
  have hr10 := hr9.later hb10
  have hq10 := row_new w9 [0] #[.int .i64 0] rfl
  obtain ⟨w10, hw10⟩ : ∃ w10, Hid (w10 = w9.alloc (.cells #[.int .i64 0] 3)) := ⟨_, rfl⟩
  rw [← hw10.out] at hB10 hr10 hq10
  clear hB9 hr9 hb10
  go_wp2_with fail
  rw [← hw10.out]
  go_wp2_with fail
  refine (same_yes 1 [0] _ _ _ _ _ rfl hr10 hq10 (by omega)).mono ?_
  rintro e w11 ⟨rfl, hb11⟩
  have HF := Lib.hid (hB10.trans (hb11.mono hB10.size))
  clear hB10 hr10 hq10 hb11 hw10
  go_wp2
  go_ret
  exact ⟨by simp, HF.out⟩
end Go.Proofs.Ytjnlcoldhcedpaa
