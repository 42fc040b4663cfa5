/- FifoRoom. No condition but those in the statements. -/
import Derived.Test.YtdoepdoeafpgkaaWakes
import Derived.Test.YtdoepdoeafpgkaaTold
import Derived.Test.YtdoepdoeafpgkaaSame
import Derived.OpenShut
namespace Go.Proofs.Ytdoepdoeafpgkaa
open Go.RowKit Go.Sort

theorem told_b (base rb : Nat) (most : Int) (v : Value) (xs : List Int) (m : Nat) (w : World) (hl : xs.length ≤ 1000000) (hm : m ≤ 1000000) (hR : IRow w base rb most v xs) :
    Calls Try.prog 15 #[.pointer (some ⟨rb, 0, none⟩), .int .i64 m] w (GivesOff 3 w (xs.take m)) := callsIn_wide.1 (told_in 5 (by omega) base rb most v xs m w hl hm hR)
theorem toldAll_b (base rb : Nat) (most : Int) (v : Value) (xs : List Int) (m : Int) (w : World) (hm : (xs.length : Int) ≤ m) (hm2 : m ≤ 1000000) (hR : IRow w base rb most v xs) :
    Calls Try.prog 15 #[.pointer (some ⟨rb, 0, none⟩), .int .i64 m] w (GivesOff 3 w xs) := by
  obtain ⟨k, rfl⟩ := Int.eq_ofNat_of_zero_le (a := m) (by omega)
  have := told_b base rb most v xs k w (by omega) (by omega) hR
  rwa [List.take_of_length_le (by omega)] at this

set_option maxRecDepth 100000 in
set_option maxHeartbeats 3200000 in
theorem room_walk (n : Nat) (l : List Int) (A : Option Addr) (c : Nat) (w : World) (hn : n ≤ 255) (hl : l.length ≤ 9223372036854775807) (hrow : IntRowK .i64 w w.heap.size A l) :
    Calls Try.prog 6 #[.int .u8 (n : Int), .slice A l.length c] w fun e w' => e = .returned (.bool true) ∧ Below w.heap.size w w' := by
  by_cases hbig : 300 < l.length
  · go_enter Try.func6, Try.ntmps6
    go_wp2_with fail
    refine (wakes_b _).mono ?_
    rintro e w0 ⟨rfl, hb0⟩
    go_wp2
    go_ret
    exact ⟨rfl, hb0⟩
  have hl2 : l.length ≤ 300 := by omega
  clear hbig hl
  go_enter Try.func6, Try.ntmps6
  go_wp2_with fail
  refine (wakes_b _).mono ?_
  rintro e w0 ⟨rfl, hb0⟩
  go_wp2_with fail
  refine (new_in (1 + n) _ (by omega) (by omega)).mono ?_
  rintro e w1 ⟨rb, rfl, hR, hB⟩
  have hb1 := hb0.trans (hB.mono hb0.size)
  have hbase : w.heap.size ≤ w0.heap.size := hb0.size
  clear hB hb0
  go_wp2_with fail
  go_loopw [37] (fun i wr => ∃ k : Nat, k ≤ l.length ∧ i = .int .i64 k ∧ (∃ v xs, IRow wr w0.heap.size rb (1 + n) v xs ∧ xs.length ≤ 1 + n) ∧ Below w.heap.size w wr) (fun i _ => l.length - (intOf i).toNat)
  case atStart => exact ⟨0, Nat.zero_le _, rfl, ⟨_, _, hR, by simp⟩, hb1⟩
  case round =>
    clear hR hb1
    obtain ⟨k, hk, rfl, ⟨v, xs, hR, hxl⟩, hb⟩ := hrel
    by_cases hlt : k < l.length
    · obtain ⟨b, o, rfl, hbo, hcs⟩ := hrow.at_ hlt
      have c0 := hcs wr hb
      obtain ⟨x, hx⟩ : ∃ x, l.getD k 0 = x := ⟨_, rfl⟩
      rw [hx] at c0
      clear hx hcs
      go_wp2_with fail
      refine (len_b _ rb _ v xs _ hR).mono ?_
      rintro e w' ⟨rfl, rfl⟩
      by_cases h4 : x.tmod 4 = 0
      · have h4' : (x.tmod 4 == 0) = true := by simpa using h4
        cases xs with
        | nil =>
          go_wp2_with fail
          refine (take_empty _ rb _ v _ hR).mono ?_
          rintro e w' ⟨rfl, rfl⟩
          go_wp2
          go_roundw
          case rel => exact ⟨k + 1, by omega, by go_num, ⟨_, _, hR, hxl⟩, hb⟩
          case measure => simp [intOf]; omega
        | cons y ys =>
          have hxl2 : ys.length + 1 ≤ 1 + n := by simpa using hxl
          go_wp2_with fail
          refine (take_in _ rb _ v y ys _ hR (by omega)).mono ?_
          rintro e w2 ⟨v2, rfl, hR2, hM2⟩
          have hb2 := grow_below hb hR hM2 hbase
          clear hR hM2 hb c0
          have q1 : (0 : Int) < (ys.length : Int) + 1 := by omega
          have q2 : ((ys.length : Int) != (ys.length : Int) + 1 - 1) = false := by simp
          go_wp2_with fail
          refine (len_b _ rb _ v2 ys _ hR2).mono ?_
          rintro e w' ⟨rfl, rfl⟩
          go_wp2_with fail
          refine (put_in _ rb _ v2 ys x _ hR2 (by omega) (by omega)).mono ?_
          rintro e w3 ⟨v3, rfl, hR3, hM3⟩
          have hb3 := grow_below hb2 hR2 hM3 hbase
          clear hR2 hM3 hb2 q1 q2
          go_wp2
          go_roundw
          case rel => exact ⟨k + 1, by omega, by go_num, ⟨_, _, hR3, by simp; omega⟩, hb3⟩
          case measure => simp [intOf]; omega
      · have h4' : (x.tmod 4 == 0) = false := by simpa using h4
        by_cases hfull : 1 + n ≤ xs.length
        · go_wp2_with fail
          refine (put_full _ rb _ v xs x _ hR (by omega)).mono ?_
          rintro e w2 ⟨rfl, hb2⟩
          have hR2 := hR.keptB hb2
          have hbb2 := hb.trans (hb2.mono hb.size)
          have q1 : decide ((xs.length : Int) < 1 + (n : Int)) = false := by simp; omega
          have q2 : ((xs.length : Int) != (xs.length : Int)) = false := by simp
          clear hR hb2 hb c0
          go_wp2_with fail
          refine (len_b _ rb _ v xs _ hR2).mono ?_
          rintro e w' ⟨rfl, rfl⟩
          go_wp2_with fail
          refine (toldAll_b _ rb _ v xs 5000 _ (by omega) (by omega) hR2).mono ?_
          rintro e w4 ⟨u4, rfl, hO4, hb4⟩
          have hR4 := hR2.keptB hb4
          have hbb4 := hbb2.trans (hb4.mono hbb2.size)
          clear hR2 hb4 hbb2
          go_wp2_with fail
          refine (toldAll_b _ rb _ v xs 5000 _ (by omega) (by omega) hR4).mono ?_
          rintro e w5 ⟨u5, rfl, hO5, hb5⟩
          have hR5 := hR4.keptB hb5
          have hbb5 := hbb4.trans (hb5.mono hbb4.size)
          have hO45 := hO4.keptB hb5
          clear hR4 hb5 hbb4 hO4
          obtain ⟨A4, c4, rfl, _, _, hi4⟩ := OwnsOff.intRow hO45
          obtain ⟨A5, c5, rfl, _, _, hi5⟩ := OwnsOff.intRow hO5
          go_wp2_with fail
          refine (same_b xs xs A4 A5 c4 c5 _ hi4 hi5 (by omega)).mono ?_
          rintro e w6 ⟨rfl, hb6⟩
          have hR6 := hR5.keptB hb6
          have hbb6 := hbb5.trans (hb6.mono hbb5.size)
          clear hR5 hb6 hbb5 hO45 hO5 hi4 hi5
          have q3 : decide (xs = xs) = true := by simp
          have q4 : (((xs).length : Int) != ((xs).length : Int)) = false := by simp
          go_wp2_with fail
          refine (len_b _ rb _ v xs _ hR6).mono ?_
          rintro e w' ⟨rfl, rfl⟩
          go_wp2
          go_roundw
          case rel => exact ⟨k + 1, by omega, by go_num, ⟨_, _, hR6, by omega⟩, hbb6⟩
          case measure => simp [intOf]; omega
        · have hlt3 : xs.length < 1 + n := by omega
          go_wp2_with fail
          refine (put_in _ rb _ v xs x _ hR (by omega) (by omega)).mono ?_
          rintro e w2 ⟨v2, rfl, hR2, hM2⟩
          have hbb2 := grow_below hb hR hM2 hbase
          have q1 : ((xs.length : Int) < 1 + (n : Int)) := by omega
          obtain ⟨ys, hys⟩ : ∃ ys, ys = xs ++ [x] := ⟨_, rfl⟩
          have hyl : ys.length = xs.length + 1 := by rw [hys]; simp
          rw [← hys] at hR2
          have q2 : ((ys.length : Int) != (xs.length : Int) + 1) = false := by simp; omega
          have hyl2 : ys.length ≤ 1 + n := by omega
          clear hR hM2 hb c0 hfull hys hyl
          go_wp2_with fail
          refine (len_b _ rb _ v2 ys _ hR2).mono ?_
          rintro e w' ⟨rfl, rfl⟩
          go_wp2_with fail
          refine (toldAll_b _ rb _ v2 ys 5000 _ (by omega) (by omega) hR2).mono ?_
          rintro e w4 ⟨u4, rfl, hO4, hb4⟩
          have hR4 := hR2.keptB hb4
          have hbb4 := hbb2.trans (hb4.mono hbb2.size)
          clear hR2 hb4 hbb2
          go_wp2_with fail
          refine (toldAll_b _ rb _ v2 ys 5000 _ (by omega) (by omega) hR4).mono ?_
          rintro e w5 ⟨u5, rfl, hO5, hb5⟩
          have hR5 := hR4.keptB hb5
          have hbb5 := hbb4.trans (hb5.mono hbb4.size)
          have hO45 := hO4.keptB hb5
          clear hR4 hb5 hbb4 hO4
          obtain ⟨A4, c4, rfl, _, _, hi4⟩ := OwnsOff.intRow hO45
          obtain ⟨A5, c5, rfl, _, _, hi5⟩ := OwnsOff.intRow hO5
          go_wp2_with fail
          refine (same_b ys ys A4 A5 c4 c5 _ hi4 hi5 (by omega)).mono ?_
          rintro e w6 ⟨rfl, hb6⟩
          have hR6 := hR5.keptB hb6
          have hbb6 := hbb5.trans (hb6.mono hbb5.size)
          clear hR5 hb6 hbb5 hO45 hO5 hi4 hi5
          have q3 : decide (ys = ys) = true := by simp
          have q4 : (((ys).length : Int) != ((ys).length : Int)) = false := by simp
          go_wp2_with fail
          refine (len_b _ rb _ v2 ys _ hR6).mono ?_
          rintro e w' ⟨rfl, rfl⟩
          go_wp2
          go_roundw
          case rel => exact ⟨k + 1, by omega, by go_num, ⟨_, _, hR6, by omega⟩, hbb6⟩
          case measure => simp [intOf]; omega
    · go_wp2
      go_ret
      exact ⟨rfl, hb⟩

theorem room_all (q : Int) (l : List Int) (A : Option Addr) (c : Nat) (w : World) (hq : (Lit.int .u8 q).wf = true) (hc : l.length ≤ c) (hm : c ≤ maxLen) (hrow : IntRowK .i64 w w.heap.size A l) :
    Calls Try.prog 6 #[.int .u8 q, .slice A l.length c] w fun e w' => e = .returned (.bool true) ∧ Below w.heap.size w w' := by
  obtain ⟨h0, h1⟩ := bounds_u8 hq
  obtain ⟨n, rfl⟩ := Int.eq_ofNat_of_zero_le h0
  exact room_walk n l A c w (by omega) (by unfold maxLen at hm; omega) hrow
end Go.Proofs.Ytdoepdoeafpgkaa
