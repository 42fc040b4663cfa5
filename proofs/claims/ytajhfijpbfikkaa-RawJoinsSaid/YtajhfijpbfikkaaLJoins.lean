/- The walk of RawJoins. No condition but those in the statements. -/
import Derived.Test.YtajhfijpbfikkaaJoin
import Derived.Test.YtajhfijpbfikkaaBoth
namespace Go.Proofs.Ytajhfijpbfikkaa
open Go.RowKit Go.Sort

theorem joins_many (l : List PartV) (A : Option Addr) (c : Nat) (w : World) (h : 20 < l.length) : Calls Try.prog 4 #[.slice A l.length c] w fun e w' => e = .returned (.bool true) ∧ Below w.heap.size w w' := by
  have g : (20 : Int) < (l.length : Int) := by omega
  go_enter Try.func4, Try.ntmps4
  go_wp2_with fail
  refine (wakes_b _).mono ?_
  rintro e w1 ⟨rfl, hb⟩
  go_wp2
  go_ret
  exact ⟨rfl, hb⟩

theorem getD_part {l : List PartV} {j : Nat} {v : PartV} (hv : l[j]? = some v) : ((joinV l).drop (joinV (l.take j)).length).take v.items.length = v.items := by
  rw [joinV_split l (j + 1), joinV_next hv, List.append_assoc, List.drop_left, List.take_left]

theorem PartRow.more {k : IntKind} {w : World} {B B' : Nat} {A : Option Addr} {l : List PartV} (h : PartRow k w B A l) (hb : B ≤ B') : PartRow k w B' A l := fun hp => by
  obtain ⟨b, o, hA, hlt, hc⟩ := h hp
  refine ⟨b, o, hA, by omega, fun i v hv => ?_⟩
  obtain ⟨h0, h1, h2, h3, h4⟩ := hc i v hv
  exact ⟨h0, h1, h2, h3.more hb, h4⟩
theorem take_part (X ys : List Int) (s : Nat) (hp : (X.drop s).take ys.length = ys) : takeO (X.drop s) (ys.length : Int) = ys ∧ takeX (X.drop s) (ys.length : Int) = X.drop (s + ys.length) ∧ takeS (X.drop s) false (ys.length : Int) = false := by
  have hl : ys.length ≤ (X.drop s).length := by
    have := congrArg List.length hp
    rw [List.length_take] at this
    omega
  unfold takeO takeX takeS
  rw [if_pos (by omega), if_pos (by omega), decide_eq_false (by omega), Int.toNat_natCast, List.drop_drop]
  exact ⟨hp, rfl, rfl⟩

set_option maxHeartbeats 1600000 in
theorem joins_few (l : List PartV) (A : Option Addr) (c : Nat) (w : World) (hl : l.length ≤ 20) (hrow : PartRow .u32 w w.heap.size A l) : Calls Try.prog 4 #[.slice A l.length c] w fun e w' => e = .returned (.bool true) ∧ Below w.heap.size w w' := by
  have g : ¬ (20 : Int) < (l.length : Int) := by omega
  go_enter Try.func4, Try.ntmps4
  go_wp2_with fail
  refine (wakes_b _).mono ?_
  rintro e w1 ⟨rfl, hb⟩
  have hr1 : PartRow .u32 w1 w.heap.size A l := hrow.later hb
  have hsz := hb.size
  have HW := Lib.hid hb
  clear hb
  go_wp2_with fail
  go_loopw [3, 16] (fun sv ix wr => wr = w1 ∧ ∃ j : Nat, j ≤ l.length ∧ ix = .int .i64 j ∧ sv = .int .i64 ((joinV (l.take j)).length : Nat) ∧ (joinV (l.take j)).length ≤ 100 * j) (fun _ ix _ => l.length - (intOf ix).toNat)
  case atStart => exact ⟨rfl, 0, Nat.zero_le _, rfl, rfl, by simp [joinV]⟩
  case round =>
    obtain ⟨rfl, j, hjl, rfl, rfl, h100⟩ := hrel
    by_cases hlt : j < l.length
    · obtain ⟨b, o, rfl, hbo, v, hv, hvc, hvm, hvn, hcs⟩ := hr1.at_ hlt
      obtain ⟨c0, _⟩ := hcs _ (Below.refl _ _)
      have hs : (joinV (l.take (j + 1))).length = (joinV (l.take j)).length + v.items.length := by rw [joinV_next hv, List.length_append]
      obtain ⟨S, hS⟩ : ∃ S, (joinV (l.take j)).length = S := ⟨_, rfl⟩
      rw [hS] at hs h100 ⊢
      have HS := Lib.hid hs
      clear hcs hS hs
      by_cases hv100 : 100 < v.items.length
      · have g3 : (100 : Int) < (v.items.length : Int) := by omega
        go_wp2
        go_ret
        exact ⟨rfl, HW.out⟩
      · have g3 : ¬ (100 : Int) < (v.items.length : Int) := by omega
        go_wp2
        go_roundw
        case rel => exact ⟨by trivial, j + 1, by omega, by go_num, by rw [HS.out]; go_num, by rw [HS.out]; omega⟩
        case measure => simp [intOf]; omega
    · have hje : l.take j = l := List.take_of_length_le (by omega)
      rw [hje] at h100 ⊢
      have hjl2 : (joinV l).length ≤ 2000 := by omega
      have hrm := hr1.more hsz
      obtain ⟨wo, rfl⟩ : ∃ wo, wo = wr := ⟨_, rfl⟩
      clear hje h100
      go_wp2_with fail
      refine (join_b l A c _ (by omega) (by omega) hrm).mono ?_
      rintro e w2 ⟨vj, rfl, hown, hb2⟩
      obtain ⟨AJ, cJ, rfl, hcJ, hmJ, hrJ, hnJ, _⟩ := hown.wordRow
      have hX := box_new w2 w2.heap.size AJ cJ (joinV l) (Nat.le_refl _) hcJ hmJ hrJ hnJ
      have hb3 : Below w2.heap.size w2 (w2.alloc (.cells #[.slice AJ (joinV l).length cJ, .bool false] 27)) := (Below.refl _ _).alloc (Nat.le_refl _) _
      obtain ⟨wx, hwx⟩ : ∃ wx, Hid (wx = w2.alloc (.cells #[.slice AJ (joinV l).length cJ, .bool false] 27)) := ⟨_, rfl⟩
      rw [← hwx.out] at hX hb3
      have HW2 := Lib.hid (HW.out.trans ((hb2.trans (hb3.mono hb2.size)).mono hsz))
      have hr2 : PartRow .u32 wx w.heap.size A l := hr1.later ((hb2.trans (hb3.mono hb2.size)).mono hsz)
      have hsx : w.heap.size ≤ w2.heap.size := Nat.le_trans hsz hb2.size
      have hX0 := hX
      obtain ⟨_, A0, c0, hx0, _⟩ := hX0
      have d0 := cell_block hx0 (i := 0) rfl
      obtain ⟨X, hXX⟩ : ∃ X, joinV l = X := ⟨_, rfl⟩
      have HXX := Lib.hid hXX
      rw [hXX] at hjl2 hX d0 hwx ⊢
      clear hown hcJ hmJ hrJ hnJ hb2 hb3 hx0 hXX hr1 hrm HW
      go_wp2_with (rw [← hwx.out])
      go_loopw [41] (fun ix wv => ∃ j : Nat, j ≤ l.length ∧ ix = .int .i64 j ∧ BoxAt wv w2.heap.size w2.heap.size (X.drop (joinV (l.take j)).length) false ∧ Below w2.heap.size wx wv) (fun ix _ => l.length - (intOf ix).toNat)
      case atStart => exact ⟨0, Nat.zero_le _, rfl, by simpa [joinV] using hX, Below.refl _ _⟩
      case round =>
        obtain ⟨j, hjl, rfl, hXr, hbr⟩ := hrel
        clear hX d0
        by_cases hlt : j < l.length
        · obtain ⟨b, o, rfl, hbo, v, hv, hvc, hvm, hvn, hcs⟩ := hr2.at_ hlt
          obtain ⟨e0, hri⟩ := hcs _ (hbr.mono hsx)
          have hgp := getD_part hv
          rw [HXX.out] at hgp
          have hs : (joinV (l.take (j + 1))).length = (joinV (l.take j)).length + v.items.length := by rw [joinV_next hv, List.length_append]
          have hvl : v.items.length ≤ 2000 := by
            have := congrArg List.length hgp
            rw [List.length_take, List.length_drop] at this
            omega
          obtain ⟨S, hS⟩ : ∃ S, (joinV (l.take j)).length = S := ⟨_, rfl⟩
          rw [hS] at hs hgp hXr
          obtain ⟨t1, t2, t3⟩ := take_part X v.items S hgp
          have HS := Lib.hid hs; have HB := Lib.hid hbr
          have hlx : (X.drop S).length ≤ 2000 := by rw [List.length_drop]; omega
          clear hcs hs hS hgp hbr
          go_wp2_with fail
          refine (take_b _ _ (X.drop S) false (v.items.length : Int) _ hXr (by omega)).mono ?_
          rintro e w5 ⟨v5, rfl, hown5, hX5, hO5⟩
          rw [t1] at hown5
          rw [t2, t3] at hX5
          obtain ⟨A5, c5, rfl, _, _, hr5, _⟩ := hown5.wordRow
          have hb5 := hO5.below (B := w2.heap.size) (by have := hXr.lt; omega) (fun q hq => by omega)
          have hri5 : IntRowK .u32 w5 w5.heap.size v.addr v.items := (hri.below (hb5.mono hsx)).more (by have := hX5.lt; omega)
          have hb6 := HB.out.trans hb5
          have HX5 := Lib.hid hX5; have HB6 := Lib.hid hb6
          clear t1 t2 t3 hlx hown5 hX5 hO5 hb5 hb6 hXr hri HB
          go_wp2_with fail
          refine (same_yes _ _ v.items A5 v.addr c5 v.cap _ rfl rfl hr5 hri5 (by omega)).mono ?_
          rintro e w6 ⟨rfl, hb7⟩
          have hX7 := Lib.hid (HX5.out.keptB hb7)
          have hB7 := Lib.hid (HB6.out.trans (hb7.mono (by have := HX5.out.lt; omega)))
          clear hr5 hri5 HX5 HB6 hb7
          go_wp2
          go_roundw
          case rel => exact ⟨j + 1, by omega, by go_num, by rw [HS.out]; exact hX7.out, hB7.out⟩
          case measure => simp [intOf]; omega
        · have hje : l.take j = l := List.take_of_length_le (by omega)
          rw [hje, HXX.out, List.drop_length] at hXr
          have hF := Lib.hid (HW2.out.trans (hbr.mono hsx))
          clear hje hbr
          go_wp2_with fail
          refine (done_b _ _ [] false _ hXr).mono ?_
          rintro e w6 ⟨rfl, rfl⟩
          go_wp2
          go_ret
          exact ⟨by simp, hF.out⟩

theorem joins_all (l : List PartV) (A : Option Addr) (c : Nat) (w : World) (hrow : PartRow .u32 w w.heap.size A l) : Calls Try.prog 4 #[.slice A l.length c] w fun e w' => e = .returned (.bool true) ∧ Below w.heap.size w w' := by
  by_cases h : 20 < l.length
  · exact joins_many l A c w h
  · exact joins_few l A c w (by omega) hrow
end Go.Proofs.Ytajhfijpbfikkaa
