/- The walk of RawOnes. No condition but those in the statements. -/
import Derived.Test.YtajhfijpbfikkaaLFits
namespace Go.Proofs.Ytajhfijpbfikkaa
open Go.RowKit Go.Sort

theorem Only.cell {S : Nat → Prop} {w w' : World} (h : Only S w w') {g : Nat} (hg : g < w.heap.size) (hs : ¬ S g) (o : Nat) : w'.cell? ⟨g, o, none⟩ = w.cell? ⟨g, o, none⟩ := by
  simp [World.cell?, h.block g hg hs]
theorem row_on {K : IntKind} {w : World} {A : Option Addr} {l : List Int} (h : IntRowK K w w.heap.size A l) (d : Nat) (os : Array Obj) : IntRowK K (grow (redrawn w d) os) (grow (redrawn w d) os).heap.size A l := h.later (below_regrown w d os)
/-- Two boxes of the same words. -/
theorem box_two (w : World) (A : Option Addr) (c : Nat) (xs : List Int) (h1 : xs.length ≤ c) (h2 : c ≤ maxLen) (h3 : IntRowK .u32 w w.heap.size A xs) (h4 : A = none → xs = []) :
    ∃ wx, Hid (wx = (w.alloc (.cells #[.slice A xs.length c, .bool false] 27)).alloc (.cells #[.slice A xs.length c, .bool false] 27)) ∧ BoxAt wx w.heap.size w.heap.size xs false ∧ BoxAt wx w.heap.size (w.heap.size + 1) xs false ∧ Below w.heap.size w wx ∧ wx.heap.size = w.heap.size + 2 := by
  have b1 : Below w.heap.size w (w.alloc (.cells #[.slice A xs.length c, .bool false] 27)) := (Below.refl _ _).alloc (Nat.le_refl _) _
  have h := box_new w w.heap.size A c xs (Nat.le_refl _) h1 h2 h3 h4
  have h' := box_new (w.alloc (.cells #[.slice A xs.length c, .bool false] 27)) w.heap.size A c xs (by simp) h1 h2 (h3.below b1) h4
  rw [World.size_alloc] at h'
  exact ⟨_, rfl, h.keptB ((Below.refl _ _).alloc (Nat.le_refl _) _), h', b1.alloc (by simp) _, by simp⟩
theorem getD_drop (xs : List Int) (k : Nat) : (xs.drop k).getD 0 0 = xs.getD k 0 := by simp [List.getD_eq_getElem?_getD]
theorem getD_take (xs : List Int) (k j : Nat) (h : j < k) : (xs.take k).getD j 0 = xs.getD j 0 := by simp [List.getD_eq_getElem?_getD, h]

set_option maxHeartbeats 1600000 in
theorem ones_big (xs : List Int) (A : Option Addr) (c : Nat) (q : Int) (w : World) (h300 : 300 < xs.length) : Calls Try.prog 6 #[.slice A xs.length c, .int .u8 q] w fun e w' => e = .returned (.bool true) ∧ Below w.heap.size w w' := by
  have g : (300 : Int) < (xs.length : Int) := by omega
  go_enter Try.func6, Try.ntmps6
  go_wp2_with fail
  refine (wakes_b _).mono ?_
  rintro e w1 ⟨rfl, hb⟩
  go_wp2
  go_ret
  exact ⟨rfl, hb⟩

set_option maxHeartbeats 1600000 in
theorem ones_short (xs : List Int) (A : Option Addr) (c k : Nat) (w : World) (h300 : xs.length ≤ 300) (hk : xs.length < k) (h1 : xs.length ≤ c) (h2 : c ≤ maxLen) (h3 : IntRowK .u32 w w.heap.size A xs) (h4 : A = none → xs = []) (hk2 : k ≤ 255) :
    Calls Try.prog 6 #[.slice A xs.length c, .int .u8 (k : Int)] w fun e w' => e = .returned (.bool true) ∧ Below w.heap.size w w' := by
  have g : ¬ (300 : Int) < (xs.length : Int) := by omega
  have g2 : (xs.length : Int) < (k : Int) := by omega
  go_enter Try.func6, Try.ntmps6
  go_wp2_with fail
  refine (wakes_b _).mono ?_
  rintro e w1 ⟨rfl, hb⟩
  have hr1 := h3.later hb
  obtain ⟨wx, hwx, hX, hY, hbx, hsz⟩ := box_two w1 A c xs h1 h2 hr1 h4
  have HB := Lib.hid (hb.trans (hbx.mono hb.size))
  have hle := hb.size
  clear hr1 hbx hY hb
  go_wp2_with fail
  rw [← hwx.out]
  refine (take_short _ _ xs false _ _ hX g2).mono ?_
  rintro e w2 ⟨v, rfl, hown, hX2, hO2⟩
  obtain ⟨a, c2, rfl, _⟩ := hown.slice
  obtain ⟨_, A3, c3, hx1, _, _, hr3, _⟩ := hX2
  have hc0 := cell_block hx1 (i := 0) rfl
  have hc1 := cell_block hx1 (i := 1) rfl
  have hlx := (Array.getElem?_eq_some_iff.1 hx1).1
  have hr3 := hr3.more (show w1.heap.size ≤ w2.heap.size by omega)
  have hB2 : Below w.heap.size w w2 := only_below HB.out HB.out.size hO2 hle
  have hr4 : IntRowK .u32 w2 w2.heap.size A xs := h3.later hB2
  rw [show ([] : List Int).length = 0 from rfl]
  clear hwx hown hx1 hO2 h3 HB
  go_wp2_with fail
  refine (same_yes _ _ xs A3 A c3 c _ rfl rfl hr3 hr4 (by omega)).mono ?_
  rintro e w3 ⟨rfl, hb3⟩
  have HF := Lib.hid (hB2.trans (hb3.mono hB2.size))
  clear hB2 hb3 hr3 hr4 hc0 hc1
  go_wp2
  go_ret
  exact ⟨rfl, HF.out⟩

set_option maxHeartbeats 3200000 in
theorem ones_in (xs : List Int) (A : Option Addr) (c k : Nat) (w : World) (h300 : xs.length ≤ 300) (hk : k ≤ xs.length) (h1 : xs.length ≤ c) (h2 : c ≤ maxLen) (h3 : IntRowK .u32 w w.heap.size A xs) (h4 : A = none → xs = []) (hk2 : k ≤ 255) :
    Calls Try.prog 6 #[.slice A xs.length c, .int .u8 (k : Int)] w fun e w' => e = .returned (.bool true) ∧ Below w.heap.size w w' := by
  have g : ¬ (300 : Int) < (xs.length : Int) := by omega
  have g2 : ¬ (xs.length : Int) < (k : Int) := by omega
  have hol : (xs.take k).length = k := by simp; omega
  have eO : takeO xs k = xs.take k := by unfold takeO; rw [if_pos (by omega)]; simp
  have eX : takeX xs k = xs.drop k := by unfold takeX; rw [if_pos (by omega)]; simp
  have eS : takeS xs false k = false := by unfold takeS; simp; omega
  have HL := Lib.hid hol
  clear hol
  go_enter Try.func6, Try.ntmps6
  go_wp2_with fail
  refine (wakes_b _).mono ?_
  rintro e w1 ⟨rfl, hb⟩
  have hr1 := h3.later hb
  obtain ⟨wx, hwx, hX, hY, hbx, hsz⟩ := box_two w1 A c xs h1 h2 hr1 h4
  have HB := Lib.hid (hb.trans (hbx.mono hb.size))
  have hle := hb.size
  clear hr1 hbx hb
  go_wp2_with fail
  rw [← hwx.out]
  refine (take_b _ _ xs false (k : Int) _ hX (by omega)).mono ?_
  rintro e w2 ⟨v, rfl, hown, hX2, hO2⟩
  rw [eO] at hown
  rw [eX, eS] at hX2
  rw [HL.out] at hown
  have hY2 := hY.kept hO2 (fun j hj => by omega) (by omega)
  have hB2 : Below w.heap.size w w2 := only_below HB.out HB.out.size hO2 hle
  obtain ⟨A5, c5, hv, hc5, hm5, hr5, hn5, hbs5⟩ := OwnsOff.wordRow (xs := xs.take k) (by rw [HL.out]; exact hown)
  subst hv
  have hs2 := hO2.size
  rw [HL.out] at hc5 hown ⊢
  have H5 := Lib.hid hr5; have HS5 := Lib.hid hbs5; have HY := Lib.hid hY2; have HX := Lib.hid hX2
  clear hwx hX hO2 HB hn5 hown hY h3 h4 eO eX eS hr5 hbs5 hX2
  go_wp2_with fail
  rw [show decide (xs.length < k) = false from decide_eq_false (by omega)]
  go_loopw [54] (fun ix wr => ∃ j : Nat, j ≤ k ∧ ix = .int .i64 j ∧ BoxAt wr w1.heap.size (w1.heap.size + 1) (xs.drop j) false ∧ Only (fun i => i = w1.heap.size + 1) w2 wr) (fun ix _ => k - (intOf ix).toNat)
  case atStart => exact ⟨0, Nat.zero_le _, rfl, by simpa using hY2, Only.refl _ _⟩
  case round =>
    obtain ⟨j, hj, rfl, hYr, hOr⟩ := hrel
    clear hY2
    by_cases hlt : j < k
    · obtain ⟨b, o, e5, hg, hcs⟩ := H5.out.at_ (show j < (xs.take k).length by have := HL.out; omega)
      subst e5
      have hge := HS5.out _ rfl
      have hgb : wx.heap.size ≤ b := hge
      have c0 := hcs w2 (Below.refl _ _)
      rw [← hOr.cell hg (by omega) (o + j), getD_take xs k j hlt] at c0
      have hne := next_in _ _ (xs.drop j) false _ hYr (by simp; omega)
      rw [getD_drop, List.drop_drop] at hne
      obtain ⟨x, hxx⟩ : ∃ x, xs.getD j 0 = x := ⟨_, rfl⟩
      rw [hxx] at c0 hne
      have c0' := Lib.hid c0
      clear hge hcs hxx
      go_wp2_with fail
      refine hne.mono ?_
      rintro e w5 ⟨rfl, hY5, hO5⟩
      have hO6 := hOr.trans hO5
      have HY5 := Lib.hid hY5; have HO6 := Lib.hid hO6
      clear hne hYr hOr hO5 hO6 hY5 c0
      go_wp2
      go_roundw
      case rel => exact ⟨j + 1, by omega, by go_num, HY5.out, HO6.out⟩
      case measure => simp [intOf]; omega
    · have hjk : j = k := by omega
      subst hjk
      have hXr := HX.out.kept hOr (fun i hi => by omega) (by omega)
      have hB3 := Lib.hid (only_below hB2 hB2.size hOr (by omega))
      obtain ⟨_, A7, c7, hx7, _, _, hr7, _⟩ := hXr
      obtain ⟨_, A8, c8, hx8, _, _, hr8, _⟩ := hYr
      have l7 := (Array.getElem?_eq_some_iff.1 hx7).1
      have hr7 := Lib.hid (hr7.more (show w1.heap.size ≤ wr.heap.size by omega))
      have hr8 := Lib.hid (hr8.more (show w1.heap.size ≤ wr.heap.size by omega))
      have d0 : ∀ p : Regrown, (grow (redrawn wr p.d) p.os).cell? ⟨w1.heap.size, 0, none⟩ = _ := fun p => cell_regrown (cell_block hx7 (i := 0) rfl) p.d p.os
      have d1 : ∀ p : Regrown, (grow (redrawn wr p.d) p.os).cell? ⟨w1.heap.size, 1, none⟩ = some (.bool false) := fun p => cell_regrown (cell_block hx7 (i := 1) rfl) p.d p.os
      have d2 : ∀ p : Regrown, (grow (redrawn wr p.d) p.os).cell? ⟨w1.heap.size + 1, 0, none⟩ = _ := fun p => cell_regrown (cell_block hx8 (i := 0) rfl) p.d p.os
      have d3 : ∀ p : Regrown, (grow (redrawn wr p.d) p.os).cell? ⟨w1.heap.size + 1, 1, none⟩ = some (.bool false) := fun p => cell_regrown (cell_block hx8 (i := 1) rfl) p.d p.os
      have hbc := Below.refl wr.heap.size wr
      obtain ⟨ys, hys⟩ : ∃ ys, xs.drop j = ys := ⟨_, rfl⟩
      have hyl : ys.length ≤ 300 := by rw [← hys]; simp; omega
      rw [hys] at hr7 hr8 d0 d2
      clear hx7 hx8 hOr HY HX hys
      go_wp2_with fail
      (with_reducible refine wp_on hbc (by kernel_rfl) (by kernel_rfl) ?_); (repeat (go_big_quiet_step (first | exact Calls.regrown_of (same_yes _ _ ys _ _ _ _ _ rfl rfl (row_on hr7.out _ _) (row_on hr8.out _ _) (by omega))))); with_reducible refine wpQuiet_nil ?_; intro wc hbc
      go_wp2
      go_ret
      exact ⟨rfl, hB3.out.trans (hbc.mono hB3.out.size)⟩
end Go.Proofs.Ytajhfijpbfikkaa
