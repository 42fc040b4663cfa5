/- BellOnce. No condition but those in the statements. -/
import Derived.Test.YtjnlcoldhcedpaaWakes
namespace Go.Proofs.Ytjnlcoldhcedpaa
open Go.RowKit Go.Sort

theorem take_one (bs : List Bool) (n : Int) : (takeB bs [n]).length ≤ 1 ∧ hasB (leftB bs (takeB bs [n])) n = false := by
  by_cases h : hasB bs n = true
  · have : takeB bs [n] = [n] := by simp [takeB, tk, h]
    rw [this, hasB_left]; simp
  · have : takeB bs [n] = [] := by simp [takeB, tk, h]
    rw [this, hasB_left]
    simp at h; simp [h]
theorem take_none (bs : List Bool) (n : Int) (h : hasB bs n = false) : takeB bs [n] = [] := by simp [takeB, tk, h]
theorem take_some (bs : List Bool) (n : Nat) (h : n < bs.length) : takeB (ringB bs (n : Int)) [(n : Int)] = [(n : Int)] := by
  have : hasB (ringB bs (n : Int)) (n : Int) = true := by rw [hasB_nat, ringB_at bs _ n h]; simp
  simp [takeB, tk, this]

set_option maxRecDepth 100000 in
set_option maxHeartbeats 3200000 in
theorem once_walk (l : List Int) (A : Option Addr) (c k : Nat) (w : World) (hk : k ≤ 255) (hl : l.length ≤ 9223372036854775807) (hrow : IntRowK .i64 w w.heap.size A l) :
    Calls Try.prog 5 #[.slice A l.length c, .int .u8 (k : Int)] w fun e w' => e = .returned (.bool true) ∧ Below w.heap.size w w' := by
  by_cases hbig : 200 < l.length
  · go_enter Try.func5, Try.ntmps5
    go_wp2_with fail
    refine (wakes_b _).mono ?_
    rintro e w0 ⟨rfl, hb0⟩
    go_wp2
    go_ret
    exact ⟨rfl, hb0⟩
  have hl2 : l.length ≤ 200 := by omega
  clear hbig hl
  go_enter Try.func5, Try.ntmps5
  go_wp2_with fail
  refine (wakes_b _).mono ?_
  rintro e w0 ⟨rfl, hb0⟩
  go_wp2_with fail
  refine (new_in 64 64 rfl _ (by omega)).mono ?_
  rintro e w1 ⟨mb, rb, rfl, h1, h2, hS, hB⟩
  have hb1 := hb0.trans (hB.mono hb0.size)
  have hrb : w.heap.size ≤ rb := Nat.le_trans hb0.size h2
  have Hr := Lib.hid hrb
  clear h1 h2 hB hb0
  go_wp2_with fail
  go_loopw [29] (fun ix wr => ∃ j : Nat, j ≤ l.length ∧ ix = .int .i64 j ∧ (∃ bs, SetAt wr mb rb bs ∧ Hid (bs.length = 64)) ∧ Below w.heap.size w wr) (fun ix _ => l.length - (intOf ix).toNat)
  case atStart => exact ⟨0, Nat.zero_le _, rfl, ⟨_, hS, Lib.hid (by simp)⟩, hb1⟩
  case round =>
    clear hS hb1
    obtain ⟨j, hj, rfl, ⟨bs, hS, hn⟩, hb⟩ := hrel
    by_cases hlt : j < l.length
    · obtain ⟨b, o, rfl, hbo, hcs⟩ := hrow.at_ hlt
      have c0 := hcs wr hb
      obtain ⟨x, hx⟩ : ∃ x, l.getD j 0 = x := ⟨_, rfl⟩
      rw [hx] at c0
      clear hcs hx
      go_wp2_with fail
      refine (ring_any mb rb _ x _ hS).mono ?_
      rintro e w2 ⟨c2, rfl, _, hS2, hO2⟩
      have hb2 := only_below hb hb.size hO2 Hr.out
      clear hS hO2 hb c0
      go_wp2
      go_roundw
      case rel => exact ⟨j + 1, by omega, by go_num, ⟨_, hS2, Lib.hid (by rw [ringB_len]; exact hn.out)⟩, hb2⟩
      case measure => simp [intOf]; omega
    · clear hrow
      obtain ⟨n, hnk⟩ : ∃ n : Nat, n = k % 64 := ⟨_, rfl⟩
      have hn64 : n < 64 := by omega
      have e0 : (k : Int) % 64 = (n : Int) := by omega
      have hEQ := Lib.hid hnk
      clear hnk
      have hb5 : Below wr.heap.size wr (wr.alloc (.cells #[.int .i64 (n : Int)] 3)) := (Below.refl _ _).alloc (Nat.le_refl _) _
      have hS5 := hS.below hb5
      have hB5 := hb.trans (hb5.mono hb.size)
      have hr5 := row_new wr [(n : Int)] #[.int .i64 (n : Int)] rfl
      have hn5 : wr.heap.size ≠ rb := by have := hS.lt.2; omega
      obtain ⟨w5, hw5⟩ : ∃ w5, Hid (w5 = wr.alloc (.cells #[.int .i64 (n : Int)] 3)) := ⟨_, rfl⟩
      rw [← hw5.out] at hS5 hB5 hr5
      clear hS hb hb5
      go_wp2_with (rw [← hw5.out])
      refine (take_b mb rb _ [(n : Int)] _ 1 _ hS5 (by simp) hr5 (fun a ha => by cases ha; exact hn5)).mono ?_
      intro e w6 hT
      obtain ⟨A6, c6, rfl, _, _, hr6, _, hS6, hO6⟩ := hT.row
      have hB6 := only_below hB5 hB5.size hO6 Hr.out
      obtain ⟨ht1, ht2⟩ := take_one bs n
      obtain ⟨len1, hlen1⟩ : ∃ len1, (takeB bs [(n : Int)]).length = len1 := ⟨_, rfl⟩
      rw [hlen1] at ht1 ⊢
      have hl6 : (leftB bs (takeB bs [(n : Int)])).length = 64 := by rw [leftB_len]; exact hn.out
      obtain ⟨bs6, hbs6⟩ : ∃ bs6, leftB bs (takeB bs [(n : Int)]) = bs6 := ⟨_, rfl⟩
      rw [hbs6] at hS6 ht2 hl6
      have HT2 := Lib.hid ht2; have HL6 := Lib.hid hl6
      clear hT hr6 hO6 hS5 hB5 hr5 hn5 hlen1 hbs6 ht2 hl6 hw5
      have hb7 : Below w6.heap.size w6 (w6.alloc (.cells #[.int .i64 (n : Int)] 3)) := (Below.refl _ _).alloc (Nat.le_refl _) _
      have hS7 := hS6.below hb7
      have hB7 := hB6.trans (hb7.mono hB6.size)
      have hr7 := row_new w6 [(n : Int)] #[.int .i64 (n : Int)] rfl
      have hn7 : w6.heap.size ≠ rb := by have := hS6.lt.2; omega
      obtain ⟨w7, hw7⟩ : ∃ w7, Hid (w7 = w6.alloc (.cells #[.int .i64 (n : Int)] 3)) := ⟨_, rfl⟩
      rw [← hw7.out] at hS7 hB7 hr7
      clear hS6 hB6 hb7
      go_wp2_with (rw [← hw7.out])
      refine (take_b mb rb _ [(n : Int)] _ 1 _ hS7 (by simp) hr7 (fun a ha => by cases ha; exact hn7)).mono ?_
      intro e w8 hT
      obtain ⟨A8, c8, rfl, _, _, hr8, _, hS8, hO8⟩ := hT.row
      have hB8 := only_below hB7 hB7.size hO8 Hr.out
      rw [take_none bs6 n HT2.out] at hS8 ⊢
      rw [leftB_nil] at hS8
      clear hT hr8 hO8 hS7 hB7 hr7 hn7 hw7
      go_wp2_with fail
      refine (ring_any mb rb _ (n : Int) _ hS8).mono ?_
      rintro e w9 ⟨c9, rfl, _, hS9, hO9⟩
      have hB9 := only_below hB8 hB8.size hO9 Hr.out
      clear hS8 hO9 hB8
      have hb10 : Below w9.heap.size w9 (w9.alloc (.cells #[.int .i64 (n : Int)] 3)) := (Below.refl _ _).alloc (Nat.le_refl _) _
      have hS10 := hS9.below hb10
      have hB10 := hB9.trans (hb10.mono hB9.size)
      have hr10 := row_new w9 [(n : Int)] #[.int .i64 (n : Int)] rfl
      have hn10 : w9.heap.size ≠ rb := by have := hS9.lt.2; omega
      obtain ⟨w10, hw10⟩ : ∃ w10, Hid (w10 = w9.alloc (.cells #[.int .i64 (n : Int)] 3)) := ⟨_, rfl⟩
      rw [← hw10.out] at hS10 hB10 hr10
      clear hS9 hB9 hb10
      go_wp2_with (rw [← hw10.out])
      refine (take_b mb rb _ [(n : Int)] _ 1 _ hS10 (by simp) hr10 (fun a ha => by cases ha; exact hn10)).mono ?_
      intro e w11 hT
      obtain ⟨A11, c11, rfl, _, _, hr11, _, hS11, hO11⟩ := hT.row
      have hB11 := only_below hB10 hB10.size hO11 Hr.out
      rw [take_some bs6 n (by have := HL6.out; omega)] at hS11 hr11 ⊢
      clear hT hO11 hS10 hB10 hr10 hn10 hw10
      go_wp2_with fail
      refine (same_b [(n : Int)] [] _ none _ 0 _ hr11 (fun h => by simp at h) (by simp)).mono ?_
      rintro e w12 ⟨rfl, hb12⟩
      have hS12 := hS11.below hb12
      have hB12 := hB11.trans (hb12.mono hB11.size)
      clear hS11 hB11 hr11 hb12
      go_wp2_with fail
      refine (has_b mb rb _ (n : Int) _ hS12).mono ?_
      rintro e w13 ⟨rfl, rfl⟩
      rw [show hasB (leftB (ringB bs6 (n : Int)) [(n : Int)]) (n : Int) = false by rw [hasB_left]; simp]
      have HF := Lib.hid hB12
      clear hB12 hS12
      go_wp2
      go_ret
      exact ⟨by simp, HF.out⟩

theorem once_all (l : List Int) (A : Option Addr) (c : Nat) (q : Int) (w : World) (hc : l.length ≤ c) (hm : c ≤ maxLen) (hrow : IntRowK .i64 w w.heap.size A l) (hq : (Lit.int .u8 q).wf = true) :
    Calls Try.prog 5 #[.slice A l.length c, .int .u8 q] w fun e w' => e = .returned (.bool true) ∧ Below w.heap.size w w' := by
  obtain ⟨h0, h1⟩ := bounds_u8 hq
  obtain ⟨n, rfl⟩ := Int.eq_ofNat_of_zero_le h0
  exact once_walk l A c n w (by omega) (by unfold maxLen at hm; omega) hrow
end Go.Proofs.Ytjnlcoldhcedpaa
