/- The numbers that are words; wakes; the walk of RawFits. No condition but those in the statements. -/
import Derived.Test.YtajhfijpbfikkaaSame
namespace Go.Proofs.Ytajhfijpbfikkaa
open Go.RowKit Go.Sort

theorem box_new (w : World) (B : Nat) (A : Option Addr) (c : Nat) (xs : List Int) (hB : B ≤ w.heap.size) (h1 : xs.length ≤ c) (h2 : c ≤ maxLen) (h3 : IntRowK .u32 w B A xs) (h4 : A = none → xs = []) :
    BoxAt (w.alloc (.cells #[.slice A xs.length c, .bool false] 27)) B w.heap.size xs false :=
  ⟨hB, A, c, heap_alloc_new w _, h1, h2, h3.below ((Below.refl _ _).alloc hB _), h4⟩
theorem words_new (w : World) (xs : List Int) (cs : Array Value) (h : cs = (wcells xs).toArray) : IntRowK .u32 (w.alloc (.cells cs 31)) (w.alloc (.cells cs 31)).heap.size (some ⟨w.heap.size, 0, none⟩) xs := fun _ => by
  refine ⟨w.heap.size, 0, rfl, by simp, fun i hi => ?_⟩
  subst h
  refine cell_block (heap_alloc_new w _) ?_
  simp [wcells, List.getD_eq_getElem?_getD, hi]
/-- Behind a call that has turned one block of ours alone. -/
theorem only_below {w0 w w' : World} {B rb : Nat} (hb : Below B w0 w) (hB0 : B ≤ w.heap.size) (ho : Only (fun k => k = rb) w w') (hB : B ≤ rb) : Below B w0 w' :=
  hb.trans (ho.below hB0 (fun k hk => by omega))

def fitB (n : Int) : Bool := decide (0 ≤ n ∧ n ≤ 4294967295)
theorem fit_b (n : Int) (w : World) (h1 : -9223372036854775808 ≤ n) (h2 : n ≤ 9223372036854775807) :
    Calls Try.prog 16 #[.int .i64 n] w fun e w' => e = .returned (.bool (fitB n)) ∧ w = w' := by
  by_cases h0 : 0 ≤ n
  · by_cases h3 : n ≤ 4294967295
    · go_enter Try.func16, Try.ntmps16
      go_wp2
      go_ret
      exact ⟨by simp [fitB, h0, h3], rfl⟩
    · go_enter Try.func16, Try.ntmps16
      go_wp2
      go_ret
      exact ⟨by simp [fitB, h0, h3], rfl⟩
  · have e : ¬ (IntKind.u64.wrap n ≤ 4294967295) := by rw [IntKind.wrap_u64]; omega
    have e2 : fitB n = false := by unfold fitB; exact decide_eq_false (fun h => h0 h.1)
    rw [e2]
    go_enter Try.func16, Try.ntmps16
    go_wp2
    go_ret
    exact ⟨rfl, rfl⟩
theorem dfit_b (n : Int) (w : World) :
    Calls Try.prog 17 #[.int .i64 n] w fun e w' => e = .returned (.bool (fitB n)) ∧ w = w' := by
  by_cases h0 : 0 ≤ n
  · by_cases h3 : n ≤ 4294967295
    · go_enter Try.func17, Try.ntmps17
      go_wp2
      go_ret
      exact ⟨by simp [fitB, h0, h3], rfl⟩
    · go_enter Try.func17, Try.ntmps17
      go_wp2
      go_ret
      exact ⟨by simp [fitB, h0, h3], rfl⟩
  · have e2 : fitB n = false := by unfold fitB; exact decide_eq_false (fun h => h0 h.1)
    rw [e2]
    have e : decide (0 ≤ n) = false := decide_eq_false h0
    go_enter Try.func17, Try.ntmps17
    go_wp2
    go_ret
    exact ⟨rfl, rfl⟩

set_option maxHeartbeats 800000 in
theorem wakes_b (w : World) : Calls Try.prog 7 #[] w fun e w' => e = .returned (.bool true) ∧ Below w.heap.size w w' := by
  have hb1 : Below w.heap.size w (w.alloc (.cells #[.int .u32 7, .int .u32 8] 31)) := (Below.refl _ _).alloc (Nat.le_refl _) _
  have hr1 := words_new w [7, 8] #[.int .u32 7, .int .u32 8] rfl
  rw [World.size_alloc] at hr1
  have hX := box_new (w.alloc (.cells #[.int .u32 7, .int .u32 8] 31)) (w.heap.size + 1) (some ⟨w.heap.size, 0, none⟩) 2 [7, 8] (by simp) (by simp) (by unfold maxLen; omega) hr1 (fun h => by cases h)
  have hB := hb1.alloc (by simp) (.cells #[.slice (some ⟨w.heap.size, 0, none⟩) 2 2, .bool false] 27)
  have hX := show BoxAt ((w.alloc (.cells #[.int .u32 7, .int .u32 8] 31)).alloc (.cells #[.slice (some ⟨w.heap.size, 0, none⟩) 2 2, .bool false] 27)) (w.heap.size + 1) (w.alloc (.cells #[.int .u32 7, .int .u32 8] 31)).heap.size [7, 8] false from hX
  rw [World.size_alloc] at hX
  obtain ⟨wx, hwx⟩ : ∃ wx, Hid (wx = (w.alloc (.cells #[.int .u32 7, .int .u32 8] 31)).alloc (.cells #[.slice (some ⟨w.heap.size, 0, none⟩) 2 2, .bool false] 27)) := ⟨_, rfl⟩
  rw [← hwx.out] at hX hB
  clear hb1 hr1
  go_enter Try.func7, Try.ntmps7
  go_wp2_with fail
  rw [← hwx.out]
  refine (next_b _ _ [7, 8] false _ hX).mono ?_
  rintro e w1 ⟨rfl, hX1, hO1⟩
  have hX1 := show BoxAt w1 (w.heap.size + 1) (w.heap.size + 1) [8] false from hX1
  have hB1 := only_below hB hB.size hO1 (by omega)
  clear hX hB hO1 hwx
  rw [show nextV [7, 8] = 7 from rfl]
  go_wp2_with fail
  refine (take_b _ _ [8] false 2 _ hX1 (by simp)).mono ?_
  rintro e w2 ⟨v, rfl, hown, hX2, hO2⟩
  have hX2 := show BoxAt w2 (w.heap.size + 1) (w.heap.size + 1) [8] true from hX2
  have hB2 := only_below hB1 hB1.size hO2 (by omega)
  rw [show takeO [8] 2 = [] from rfl] at hown
  obtain ⟨a, c, rfl, _⟩ := hown.slice
  rw [show ([] : List Int).length = 0 from rfl]
  obtain ⟨_, A, cc, hx1, _⟩ := hX2
  have hc1 := cell_block hx1 (i := 1) rfl
  have HX := Lib.hid hX2
  clear hX1 hB1 hO2 hown hx1
  go_wp2_with fail
  refine (next_b _ _ [8] true _ HX.out).mono ?_
  rintro e w3 ⟨rfl, hX3, hO3⟩
  have hB3 := Lib.hid (only_below hB2 hB2.size hO3 (by omega))
  rw [show nextV [8] = 8 from rfl]
  clear hX3 hO3 hB2 hc1
  go_wp2
  go_ret
  exact ⟨by simp, hB3.out⟩

theorem fits_walk (n : Int) (w : World) (h1 : -9223372036854775808 ≤ n) (h2 : n ≤ 9223372036854775807) : Calls Try.prog 5 #[.int .i64 n] w fun e w' => e = .returned (.bool true) ∧ Below w.heap.size w w' := by
  go_enter Try.func5, Try.ntmps5
  go_wp2_with fail
  refine (wakes_b _).mono ?_
  rintro e w1 ⟨rfl, hb⟩
  go_wp2_with fail
  refine (fit_b n _ h1 h2).mono ?_
  rintro e w2 ⟨rfl, rfl⟩
  go_wp2_with fail
  refine (dfit_b n _).mono ?_
  rintro e w3 ⟨rfl, rfl⟩
  go_wp2
  go_ret
  exact ⟨by simp, hb⟩
end Go.Proofs.Ytajhfijpbfikkaa
