/- The document's functions of layer 4 as contracts. No condition but those in the statements. -/
import Derived.Test.YtjnlcoldhcedpaaBell
namespace Go.Proofs.Ytjnlcoldhcedpaa
open Go.RowKit Go.Sort

/-- A slice's row of bools, at a block below number B. -/
def BoolRow (w : World) (B : Nat) (A : Option Addr) (xs : List Bool) : Prop :=
  0 < xs.length → ∃ b o, A = some ⟨b, o, none⟩ ∧ b < B ∧ ∀ i, i < xs.length → w.cell? ⟨b, o + i, none⟩ = some (.bool (xs.getD i false))
theorem BoolRow.below {w w' : World} {B : Nat} {A : Option Addr} {l : List Bool} (h : BoolRow w B A l) (hb : Below B w w') : BoolRow w' B A l := fun hn => by
  obtain ⟨b, o, hA, hlt, hc⟩ := h hn
  exact ⟨b, o, hA, hlt, fun i hi => (hb.cell (p := ⟨b, o + i, none⟩) hlt).trans (hc i hi)⟩
theorem BoolRow.more {w : World} {B B' : Nat} {A : Option Addr} {l : List Bool} (h : BoolRow w B A l) (hb : B ≤ B') : BoolRow w B' A l := fun hn => by
  obtain ⟨b, o, hA, hlt, hc⟩ := h hn
  exact ⟨b, o, hA, by omega, hc⟩
theorem BoolRow.at_ {w : World} {B : Nat} {A : Option Addr} {l : List Bool} (h : BoolRow w B A l) {i : Nat} (hi : i < l.length) : ∃ b o, A = some ⟨b, o, none⟩ ∧ b < B ∧
    ∀ w', Below B w w' → w'.cell? ⟨b, o + i, none⟩ = some (.bool (l.getD i false)) := by
  obtain ⟨b, o, hA, hlt, hc⟩ := h (by omega)
  exact ⟨b, o, hA, hlt, fun w' hb => (hb.cell (p := ⟨b, o + i, none⟩) hlt).trans (hc i hi)⟩
theorem OwnsOff.boolRow {w : World} {base : Nat} {e : TypeId} {v : Value} {xs : List Bool} (h : OwnsOff w base e 1 v xs.length (bcells xs)) :
    ∃ A c, v = .slice A xs.length c ∧ xs.length ≤ c ∧ c ≤ maxLen ∧ BoolRow w w.heap.size A xs := by
  obtain ⟨_, ⟨rfl, hn⟩ | ⟨g, off, cap, cur, rfl, _, hcur, hle, hmax, _, htk⟩⟩ := h
  · exact ⟨none, 0, by rw [hn], by omega, by unfold maxLen; omega, fun hp => by omega⟩
  · refine ⟨_, cap, rfl, hle, hmax, fun hp => ⟨g, off, rfl, (Array.getElem?_eq_some_iff.1 hcur).1, fun i hi => ?_⟩⟩
    have h1 := bcells_at xs i hi
    rw [← htk, List.getElem?_take] at h1
    split at h1
    · rw [List.getElem?_drop] at h1
      simp [World.cell?, hcur]
      simpa using h1
    · cases h1
theorem OwnsOff.intRowK {w : World} {base : Nat} {e : TypeId} {v : Value} {xs : List Int} (h : OwnsOff w base e 1 v xs.length (xs.map (Value.int .i64))) :
    ∃ A c, v = .slice A xs.length c ∧ xs.length ≤ c ∧ c ≤ maxLen ∧ IntRowK .i64 w w.heap.size A xs ∧ ∀ a, A = some a → v.ownBlock = some a.block := by
  obtain ⟨_, ⟨rfl, hn⟩ | ⟨g, off, cap, cur, rfl, _, hcur, hle, hmax, _, htk⟩⟩ := h
  · exact ⟨none, 0, by rw [hn], by omega, by unfold maxLen; omega, fun hp => by omega, fun _ h => by cases h⟩
  · refine ⟨_, cap, rfl, hle, hmax, fun hp => ⟨g, off, rfl, (Array.getElem?_eq_some_iff.1 hcur).1, fun i hi => ?_⟩, fun a ha => by cases ha; rfl⟩
    have h1 : (xs.map (Value.int .i64))[i]? = some (.int .i64 (xs.getD i 0)) := by simp [List.getD_eq_getElem?_getD, hi]
    rw [← htk, List.getElem?_take] at h1
    split at h1
    · rw [List.getElem?_drop] at h1
      simp [World.cell?, hcur]
      simpa using h1
    · cases h1

/-- A call that hands back a new list, and turns nothing that was there. -/
def GivesOff (w : World) (xs : List Int) (e : Ending) (w' : World) : Prop :=
  ∃ v, e = .returned v ∧ OwnsOff w' w.heap.size 3 1 v xs.length (xs.map (Value.int .i64)) ∧ Below w.heap.size w w'
def GivesBools (w : World) (xs : List Bool) (e : Ending) (w' : World) : Prop :=
  ∃ v, e = .returned v ∧ OwnsOff w' w.heap.size 4 1 v xs.length (bcells xs) ∧ Below w.heap.size w w'

/-- Behind an append onto a list of the call's own. -/
theorem below_own {w wr w2 : World} {v : Value} {e : TypeId} {n : Nat} {xs : List Value} {tmp : Obj} (hb : Below w.heap.size w wr) (ho : OwnsOff wr w.heap.size e 1 v n xs) (hg : (wr.alloc tmp).grownBy w2 v.ownBlock) : Below w.heap.size w w2 :=
  (hb.alloc hb.size tmp).grown hg (by have := hb.size; simp; omega) fun k hk => (ho.lt k hk).1

set_option maxHeartbeats 1600000 in
theorem dring_b (bs : List Bool) (i : Int) (A : Option Addr) (c : Nat) (w : World) (hl : bs.length ≤ 1000000) (hrow : BoolRow w w.heap.size A bs) :
    Calls Try.prog 10 #[.slice A bs.length c, .int .i64 i] w (GivesBools w (ringB bs i)) := by
  obtain ⟨i0, hi, hz0, hz1, hz2⟩ := info_parts Try.infoB
  go_enter Try.func10, Try.ntmps10
  go_wp2
  go_loopw [5, 6] (fun v ix wr => ∃ k : Nat, k ≤ bs.length ∧ ix = .int .i64 k ∧ OwnsOff wr w.heap.size 4 1 v ((ringB bs i).take k).length (bcells ((ringB bs i).take k)) ∧ Below w.heap.size w wr) (fun _ ix _ => bs.length - (intOf ix).toNat)
  case atStart => exact ⟨0, Nat.zero_le _, rfl, OwnsOff.nil _ _ _ _, Below.refl _ _⟩
  case round =>
    obtain ⟨k, hk, rfl, hown, hb⟩ := hrel
    by_cases hlt : k < bs.length
    · obtain ⟨b, o, rfl, hbo, hcs⟩ := hrow.at_ hlt
      have c0 := hcs _ hb
      have hnext := take_nextB (ringB bs i) k (by simpa using hlt)
      rw [ringB_at bs i k hlt] at hnext
      have hol : ((ringB bs i).take k).length = k := by simp; omega
      obtain ⟨x, hx⟩ : ∃ x, bs.getD k false = x := ⟨_, rfl⟩
      rw [hx] at c0 hnext
      obtain ⟨out, hout⟩ : ∃ out, (ringB bs i).take k = out := ⟨_, rfl⟩
      rw [hout] at hown hol hnext
      have hsz := hb.size
      have HN := Lib.hid hnext
      obtain ⟨y, hy⟩ : ∃ y, (x || decide ((k : Int) = i)) = y := ⟨_, rfl⟩
      have HY := Lib.hid hy
      clear hx hcs hnext hout hy
      have hout1 : out.length ≤ k := by omega
      clear hol
      cases x
      · by_cases he : (k : Int) = i
        · have e1 : ((k : Int) == i) = true := by simpa using he
          have e2 : y = true := by rw [← HY.out]; simp [he]
          subst e2
          clear he
          go_wp2_with (at_builtin; refine wpList_append_off _ rfl _ _ 28 rfl w.heap.size 4 i0 (.bool false) 1 1 Try.underlying28 hi hz0 hz1 hz2 rfl (by decide) _ _ _ rfl (hown.keptB ((Below.refl _ _).alloc (Nat.le_refl _) _)) ⟨wr.heap.size, 0, none⟩ 1 1 [.bool true] rfl rfl (cell_one_new _ _ _) (by simp [Value.oneCell']) (by unfold maxLen; omega) (by omega) (by simp; omega) ?_)
          intro v' w2 hown' hgrow hfr
          have hb3 := below_own hb hown hgrow
          have hown3 : OwnsOff w2 w.heap.size 4 1 v' (out ++ [true]).length (bcells (out ++ [true])) := by simpa [bcells] using hown'
          have W3 := Lib.hid hown3; have B3 := Lib.hid hb3
          clear hown' hgrow hfr hb3 hown3 hown hb
          go_wp2
          go_roundw
          case rel => exact ⟨k + 1, by omega, by go_num, by rw [HN.out, HY.out]; exact W3.out, B3.out⟩
          case measure => simp [intOf]; omega
        · have e1 : ((k : Int) == i) = false := by simpa using he
          have e2 : y = false := by rw [← HY.out]; simp [he]
          subst e2
          clear he
          go_wp2_with (at_builtin; refine wpList_append_off _ rfl _ _ 28 rfl w.heap.size 4 i0 (.bool false) 1 1 Try.underlying28 hi hz0 hz1 hz2 rfl (by decide) _ _ _ rfl (hown.keptB ((Below.refl _ _).alloc (Nat.le_refl _) _)) ⟨wr.heap.size, 0, none⟩ 1 1 [.bool false] rfl rfl (cell_one_new _ _ _) (by simp [Value.oneCell']) (by unfold maxLen; omega) (by omega) (by simp; omega) ?_)
          intro v' w2 hown' hgrow hfr
          have hb3 := below_own hb hown hgrow
          have hown3 : OwnsOff w2 w.heap.size 4 1 v' (out ++ [false]).length (bcells (out ++ [false])) := by simpa [bcells] using hown'
          have W3 := Lib.hid hown3; have B3 := Lib.hid hb3
          clear hown' hgrow hfr hb3 hown3 hown hb
          go_wp2
          go_roundw
          case rel => exact ⟨k + 1, by omega, by go_num, by rw [HN.out, HY.out]; exact W3.out, B3.out⟩
          case measure => simp [intOf]; omega
      · have e2 : y = true := by rw [← HY.out]; simp
        subst e2
        go_wp2_with (at_builtin; refine wpList_append_off _ rfl _ _ 28 rfl w.heap.size 4 i0 (.bool false) 1 1 Try.underlying28 hi hz0 hz1 hz2 rfl (by decide) _ _ _ rfl (hown.keptB ((Below.refl _ _).alloc (Nat.le_refl _) _)) ⟨wr.heap.size, 0, none⟩ 1 1 [.bool true] rfl rfl (cell_one_new _ _ _) (by simp [Value.oneCell']) (by unfold maxLen; omega) (by omega) (by simp; omega) ?_)
        intro v' w2 hown' hgrow hfr
        have hb3 := below_own hb hown hgrow
        have hown3 : OwnsOff w2 w.heap.size 4 1 v' (out ++ [true]).length (bcells (out ++ [true])) := by simpa [bcells] using hown'
        have W3 := Lib.hid hown3; have B3 := Lib.hid hb3
        clear hown' hgrow hfr hb3 hown3 hown hb
        go_wp2
        go_roundw
        case rel => exact ⟨k + 1, by omega, by go_num, by rw [HN.out, HY.out]; exact W3.out, B3.out⟩
        case measure => simp [intOf]; omega
    · have hkl : (ringB bs i).take k = ringB bs i := List.take_of_length_le (by simp; omega)
      rw [hkl] at hown
      have HW := Lib.hid hown; have HB := Lib.hid hb
      clear hown hb hkl
      go_wp2
      go_ret
      exact ⟨_, rfl, HW.out, HB.out⟩

set_option maxHeartbeats 1600000 in
theorem dall_b (bs : List Bool) (A : Option Addr) (c : Nat) (w : World) (hl : bs.length ≤ 1000000) (hrow : BoolRow w w.heap.size A bs) :
    Calls Try.prog 16 #[.slice A bs.length c] w (GivesOff w (allB bs)) := by
  obtain ⟨i0, hi, hz0, hz1, hz2⟩ := info_parts Try.infoI
  go_enter Try.func16, Try.ntmps16
  go_wp2
  go_loopw [3, 4] (fun v ix wr => ∃ k : Nat, k ≤ bs.length ∧ ix = .int .i64 k ∧ OwnsOff wr w.heap.size 3 1 v (allTo bs k).length ((allTo bs k).map (Value.int .i64)) ∧ Below w.heap.size w wr) (fun _ ix _ => bs.length - (intOf ix).toNat)
  case atStart => exact ⟨0, Nat.zero_le _, rfl, OwnsOff.nil _ _ _ _, Below.refl _ _⟩
  case round =>
    obtain ⟨k, hk, rfl, hown, hb⟩ := hrel
    by_cases hlt : k < bs.length
    · obtain ⟨b, o, rfl, hbo, hcs⟩ := hrow.at_ hlt
      have c0 := hcs _ hb
      have hon := allTo_in bs k
      have hoff := allTo_out bs k
      have hol := allTo_len bs k
      obtain ⟨x, hx⟩ : ∃ x, bs.getD k false = x := ⟨_, rfl⟩
      rw [hx] at c0
      simp only [hx] at hon hoff
      obtain ⟨out, hout⟩ : ∃ out, allTo bs k = out := ⟨_, rfl⟩
      rw [hout] at hown hol
      simp only [hout] at hon hoff
      have hsz := hb.size
      have HON := Lib.hid hon; have HOFF := Lib.hid hoff
      clear hx hcs hon hoff hout
      cases x
      · go_wp2
        go_roundw
        case rel => exact ⟨k + 1, by omega, by go_num, by rw [HOFF.out (by simp)]; exact hown, hb⟩
        case measure => simp [intOf]; omega
      · go_wp2_with (at_builtin; refine wpList_append_off _ rfl _ _ 29 rfl w.heap.size 3 i0 (.int .i64 0) 1 8 Try.underlying29 hi hz0 hz1 hz2 rfl (by decide) _ _ _ rfl (hown.keptB ((Below.refl _ _).alloc (Nat.le_refl _) _)) ⟨wr.heap.size, 0, none⟩ 1 1 [.int .i64 (k : Int)] rfl rfl (cell_one_new _ _ _) (by simp [Value.oneCell']) (by unfold maxLen; omega) (by omega) (by simp; omega) ?_)
        intro v' w2 hown' hgrow hfr
        have hb3 := below_own hb hown hgrow
        have hown3 : OwnsOff w2 w.heap.size 3 1 v' (out ++ [(k : Int)]).length ((out ++ [(k : Int)]).map (Value.int .i64)) := by simpa using hown'
        have W3 := Lib.hid hown3; have B3 := Lib.hid hb3
        clear hown' hgrow hfr hb3 hown3 hown hb
        go_wp2
        go_roundw
        case rel => exact ⟨k + 1, by omega, by go_num, by rw [HON.out (by simp)]; exact W3.out, B3.out⟩
        case measure => simp [intOf]; omega
    · have hkl : allTo bs k = allB bs := by rw [show k = bs.length by omega]; rfl
      rw [hkl] at hown
      have HW := Lib.hid hown; have HB := Lib.hid hb
      clear hown hb hkl
      go_wp2
      go_ret
      exact ⟨_, rfl, HW.out, HB.out⟩
end Go.Proofs.Ytjnlcoldhcedpaa
