/- slices.Equal at rows of structs. No condition but those in the statements. -/
import Derived.Test.YtjknmojjodghdaaEq
namespace Go.Proofs.Ytjknmojjodghdaa
open Go.RowKit Go.Sort
set_option linter.unusedVariables false
set_option linter.unusedSimpArgs false

theorem take_sameL {α : Type} {l m : List α} {k : Nat} {x : α} (hl : l[k]? = some x) (hm : m[k]? = some x) (h : l.take k = m.take k) : l.take (k + 1) = m.take (k + 1) := by rw [List.take_add_one, List.take_add_one, h, hl, hm]
theorem get_sameL {α : Type} {l m : List α} {k : Nat} {x y : α} (hl : l[k]? = some x) (hm : m[k]? = some y) (h : x ≠ y) : l ≠ m := fun e => by rw [e, hm] at hl; cases hl; exact h rfl

set_option maxHeartbeats 1600000 in
theorem equal2_b (l m : List (List Int)) (A A' : Option Addr) (c c' : Nat) (w : World) (hx : RowN [.i64, .i64] w w.heap.size A l) (hy : RowN [.i64, .i64] w w.heap.size A' m) (wl : wfR [.i64, .i64] l) (wm : wfR [.i64, .i64] m) (hl : l.length ≤ 1000000) :
    Calls Try.prog 29 #[.slice A l.length c, .slice A' m.length c'] w fun e w' => e = .returned (.bool (decide (l = m))) ∧ Below w.heap.size w w' := by
  by_cases hlen : l.length = m.length
  · have hL := Lib.hid hlen
    have hne : ((l.length : Int) != (m.length : Int)) = false := by simp [hlen]
    clear hlen
    go_enter Try.func29, Try.ntmps29
    go_wp2
    go_loopw [13] (fun ix wr => ∃ k : Nat, k ≤ l.length ∧ ix = .int .i64 k ∧ l.take k = m.take k ∧ Below w.heap.size w wr) (fun ix _ => l.length - (intOf ix).toNat)
    case atStart => exact ⟨0, Nat.zero_le _, rfl, rfl, Below.refl _ _⟩
    case round =>
      obtain ⟨k, hk, rfl, htk, hbc⟩ := hrel
      have HT := Lib.hid htk
      clear htk
      by_cases hlt : k < l.length
      · have hlt2 : k < m.length := by have := hL.out; omega
        obtain ⟨b, o, x0, x1, rfl, _, e1, _, k0⟩ := hx.at2 wl hlt
        obtain ⟨b', o', y0, y1, rfl, _, e2, _, k1⟩ := hy.at2 wm hlt2
        obtain ⟨p0, p1⟩ := k0 _ hbc
        obtain ⟨q0, q1⟩ := k1 _ hbc
        have p0 : ∀ p : Regrown, (grow (redrawn wr p.d) p.os).cell? ⟨b, o + k * 2, none⟩ = some (.int .i64 x0) := fun p => cell_regrown p0 p.d p.os
        have q0 : ∀ p : Regrown, (grow (redrawn wr p.d) p.os).cell? ⟨b', o' + k * 2, none⟩ = some (.int .i64 y0) := fun p => cell_regrown q0 p.d p.os
        have p1 : ∀ p : Regrown, (grow (redrawn wr p.d) p.os).cell? ⟨b, o + k * 2 + 1, none⟩ = some (.int .i64 x1) := fun p => cell_regrown p1 p.d p.os
        have q1 : ∀ p : Regrown, (grow (redrawn wr p.d) p.os).cell? ⟨b', o' + k * 2 + 1, none⟩ = some (.int .i64 y1) := fun p => cell_regrown q1 p.d p.os
        have hbr := Below.refl wr.heap.size wr
        have E1 := Lib.hid e1; have E2 := Lib.hid e2
        clear e1 e2 k0 k1 hx hy
        by_cases he : [x0, x1] = [y0, y1]
        · have HE := Lib.hid he; have HQ := Lib.hid (eq2 x0 x1 y0 y1 true (decide_eq_true he))
          clear he
          go_wp2_with ((first | with_reducible refine wpList_on hbr ?_ | with_reducible refine wp_on hbr (by kernel_rfl) (by kernel_rfl) ?_); (repeat (first | (go_big_quiet_want; (first | refine quiet_neqT 55 _ _ _ rfl _ _ rfl rfl HQ.out (by kernel_rfl) ?_ | refine quiet_neqF 55 _ _ _ rfl _ _ rfl rfl HQ.out (by kernel_rfl) ?_); go_big_quiet_on) | go_big_quiet_step (fail))); with_reducible refine wpQuiet_nil ?_; intro wc hbr)
          go_roundw
          case rel => exact ⟨k + 1, by omega, by go_num, take_sameL E1.out (by rw [E2.out, HE.out]) HT.out, hbc.trans (hbr.mono hbc.size)⟩
          case measure => simp [intOf]; omega
        · have HE := Lib.hid he; have HQ := Lib.hid (eq2 x0 x1 y0 y1 false (decide_eq_false he))
          clear he
          go_wp2_with ((first | with_reducible refine wpList_on hbr ?_ | with_reducible refine wp_on hbr (by kernel_rfl) (by kernel_rfl) ?_); (repeat (first | (go_big_quiet_want; (first | refine quiet_neqT 55 _ _ _ rfl _ _ rfl rfl HQ.out (by kernel_rfl) ?_ | refine quiet_neqF 55 _ _ _ rfl _ _ rfl rfl HQ.out (by kernel_rfl) ?_); go_big_quiet_on) | go_big_quiet_step (fail))); with_reducible refine wpQuiet_nil ?_; intro wc hbr)
          go_ret
          exact ⟨by rw [decide_eq_false (get_sameL E1.out E2.out HE.out)]; rfl, hbc.trans (hbr.mono hbc.size)⟩
      · have HS := Lib.hid (show l = m by have h := HT.out; rw [show k = l.length by omega, List.take_length, List.take_of_length_le (by have := hL.out; omega)] at h; exact h)
        go_wp2
        go_ret
        exact ⟨by rw [decide_eq_true HS.out]; rfl, hbc⟩
  · have hne : ((l.length : Int) != (m.length : Int)) = true := by simp; omega
    have HE := Lib.hid hlen
    clear hlen
    go_enter Try.func29, Try.ntmps29
    go_wp2
    go_ret
    exact ⟨by rw [decide_eq_false (fun h => HE.out (by rw [h]))]; rfl, Below.refl _ _⟩

set_option maxHeartbeats 1600000 in
theorem equal3_b (l m : List (List Int)) (A A' : Option Addr) (c c' : Nat) (w : World) (hx : RowN [.i64, .i64, .i64] w w.heap.size A l) (hy : RowN [.i64, .i64, .i64] w w.heap.size A' m) (wl : wfR [.i64, .i64, .i64] l) (wm : wfR [.i64, .i64, .i64] m) (hl : l.length ≤ 1000000) :
    Calls Try.prog 31 #[.slice A l.length c, .slice A' m.length c'] w fun e w' => e = .returned (.bool (decide (l = m))) ∧ Below w.heap.size w w' := by
  by_cases hlen : l.length = m.length
  · have hL := Lib.hid hlen
    have hne : ((l.length : Int) != (m.length : Int)) = false := by simp [hlen]
    clear hlen
    go_enter Try.func31, Try.ntmps31
    go_wp2
    go_loopw [13] (fun ix wr => ∃ k : Nat, k ≤ l.length ∧ ix = .int .i64 k ∧ l.take k = m.take k ∧ Below w.heap.size w wr) (fun ix _ => l.length - (intOf ix).toNat)
    case atStart => exact ⟨0, Nat.zero_le _, rfl, rfl, Below.refl _ _⟩
    case round =>
      obtain ⟨k, hk, rfl, htk, hbc⟩ := hrel
      have HT := Lib.hid htk
      clear htk
      by_cases hlt : k < l.length
      · have hlt2 : k < m.length := by have := hL.out; omega
        obtain ⟨b, o, x0, x1, x2, rfl, _, e1, _, k0⟩ := hx.at3 wl hlt
        obtain ⟨b', o', y0, y1, y2, rfl, _, e2, _, k1⟩ := hy.at3 wm hlt2
        obtain ⟨p0, p1, p2⟩ := k0 _ hbc
        obtain ⟨q0, q1, q2⟩ := k1 _ hbc
        have p0 : ∀ p : Regrown, (grow (redrawn wr p.d) p.os).cell? ⟨b, o + k * 3, none⟩ = some (.int .i64 x0) := fun p => cell_regrown p0 p.d p.os
        have q0 : ∀ p : Regrown, (grow (redrawn wr p.d) p.os).cell? ⟨b', o' + k * 3, none⟩ = some (.int .i64 y0) := fun p => cell_regrown q0 p.d p.os
        have p1 : ∀ p : Regrown, (grow (redrawn wr p.d) p.os).cell? ⟨b, o + k * 3 + 1, none⟩ = some (.int .i64 x1) := fun p => cell_regrown p1 p.d p.os
        have q1 : ∀ p : Regrown, (grow (redrawn wr p.d) p.os).cell? ⟨b', o' + k * 3 + 1, none⟩ = some (.int .i64 y1) := fun p => cell_regrown q1 p.d p.os
        have p2 : ∀ p : Regrown, (grow (redrawn wr p.d) p.os).cell? ⟨b, o + k * 3 + 2, none⟩ = some (.int .i64 x2) := fun p => cell_regrown p2 p.d p.os
        have q2 : ∀ p : Regrown, (grow (redrawn wr p.d) p.os).cell? ⟨b', o' + k * 3 + 2, none⟩ = some (.int .i64 y2) := fun p => cell_regrown q2 p.d p.os
        have hbr := Below.refl wr.heap.size wr
        have E1 := Lib.hid e1; have E2 := Lib.hid e2
        clear e1 e2 k0 k1 hx hy
        by_cases he : [x0, x1, x2] = [y0, y1, y2]
        · have HE := Lib.hid he; have HQ := Lib.hid (eq3 x0 x1 x2 y0 y1 y2 true (decide_eq_true he))
          clear he
          go_wp2_with ((first | with_reducible refine wpList_on hbr ?_ | with_reducible refine wp_on hbr (by kernel_rfl) (by kernel_rfl) ?_); (repeat (first | (go_big_quiet_want; (first | refine quiet_neqT 51 _ _ _ rfl _ _ rfl rfl HQ.out (by kernel_rfl) ?_ | refine quiet_neqF 51 _ _ _ rfl _ _ rfl rfl HQ.out (by kernel_rfl) ?_); go_big_quiet_on) | go_big_quiet_step (fail))); with_reducible refine wpQuiet_nil ?_; intro wc hbr)
          go_roundw
          case rel => exact ⟨k + 1, by omega, by go_num, take_sameL E1.out (by rw [E2.out, HE.out]) HT.out, hbc.trans (hbr.mono hbc.size)⟩
          case measure => simp [intOf]; omega
        · have HE := Lib.hid he; have HQ := Lib.hid (eq3 x0 x1 x2 y0 y1 y2 false (decide_eq_false he))
          clear he
          go_wp2_with ((first | with_reducible refine wpList_on hbr ?_ | with_reducible refine wp_on hbr (by kernel_rfl) (by kernel_rfl) ?_); (repeat (first | (go_big_quiet_want; (first | refine quiet_neqT 51 _ _ _ rfl _ _ rfl rfl HQ.out (by kernel_rfl) ?_ | refine quiet_neqF 51 _ _ _ rfl _ _ rfl rfl HQ.out (by kernel_rfl) ?_); go_big_quiet_on) | go_big_quiet_step (fail))); with_reducible refine wpQuiet_nil ?_; intro wc hbr)
          go_ret
          exact ⟨by rw [decide_eq_false (get_sameL E1.out E2.out HE.out)]; rfl, hbc.trans (hbr.mono hbc.size)⟩
      · have HS := Lib.hid (show l = m by have h := HT.out; rw [show k = l.length by omega, List.take_length, List.take_of_length_le (by have := hL.out; omega)] at h; exact h)
        go_wp2
        go_ret
        exact ⟨by rw [decide_eq_true HS.out]; rfl, hbc⟩
  · have hne : ((l.length : Int) != (m.length : Int)) = true := by simp; omega
    have HE := Lib.hid hlen
    clear hlen
    go_enter Try.func31, Try.ntmps31
    go_wp2
    go_ret
    exact ⟨by rw [decide_eq_false (fun h => HE.out (by rw [h]))]; rfl, Below.refl _ _⟩

set_option maxHeartbeats 1600000 in
theorem equal7_b (l m : List (List Int)) (A A' : Option Addr) (c c' : Nat) (w : World) (hx : RowN [.i64, .i64, .i64, .i64, .i64, .i64, .u32] w w.heap.size A l) (hy : RowN [.i64, .i64, .i64, .i64, .i64, .i64, .u32] w w.heap.size A' m) (wl : wfR [.i64, .i64, .i64, .i64, .i64, .i64, .u32] l) (wm : wfR [.i64, .i64, .i64, .i64, .i64, .i64, .u32] m) (hl : l.length ≤ 1000000) :
    Calls Try.prog 30 #[.slice A l.length c, .slice A' m.length c'] w fun e w' => e = .returned (.bool (decide (l = m))) ∧ Below w.heap.size w w' := by
  by_cases hlen : l.length = m.length
  · have hL := Lib.hid hlen
    have hne : ((l.length : Int) != (m.length : Int)) = false := by simp [hlen]
    clear hlen
    go_enter Try.func30, Try.ntmps30
    go_wp2
    go_loopw [13] (fun ix wr => ∃ k : Nat, k ≤ l.length ∧ ix = .int .i64 k ∧ l.take k = m.take k ∧ Below w.heap.size w wr) (fun ix _ => l.length - (intOf ix).toNat)
    case atStart => exact ⟨0, Nat.zero_le _, rfl, rfl, Below.refl _ _⟩
    case round =>
      obtain ⟨k, hk, rfl, htk, hbc⟩ := hrel
      have HT := Lib.hid htk
      clear htk
      by_cases hlt : k < l.length
      · have hlt2 : k < m.length := by have := hL.out; omega
        obtain ⟨b, o, x0, x1, x2, x3, x4, x5, x6, rfl, _, e1, _, k0⟩ := hx.at7 wl hlt
        obtain ⟨b', o', y0, y1, y2, y3, y4, y5, y6, rfl, _, e2, _, k1⟩ := hy.at7 wm hlt2
        obtain ⟨p0, p1, p2, p3, p4, p5, p6⟩ := k0 _ hbc
        obtain ⟨q0, q1, q2, q3, q4, q5, q6⟩ := k1 _ hbc
        have p0 : ∀ p : Regrown, (grow (redrawn wr p.d) p.os).cell? ⟨b, o + k * 7, none⟩ = some (.int .i64 x0) := fun p => cell_regrown p0 p.d p.os
        have q0 : ∀ p : Regrown, (grow (redrawn wr p.d) p.os).cell? ⟨b', o' + k * 7, none⟩ = some (.int .i64 y0) := fun p => cell_regrown q0 p.d p.os
        have p1 : ∀ p : Regrown, (grow (redrawn wr p.d) p.os).cell? ⟨b, o + k * 7 + 1, none⟩ = some (.int .i64 x1) := fun p => cell_regrown p1 p.d p.os
        have q1 : ∀ p : Regrown, (grow (redrawn wr p.d) p.os).cell? ⟨b', o' + k * 7 + 1, none⟩ = some (.int .i64 y1) := fun p => cell_regrown q1 p.d p.os
        have p2 : ∀ p : Regrown, (grow (redrawn wr p.d) p.os).cell? ⟨b, o + k * 7 + 2, none⟩ = some (.int .i64 x2) := fun p => cell_regrown p2 p.d p.os
        have q2 : ∀ p : Regrown, (grow (redrawn wr p.d) p.os).cell? ⟨b', o' + k * 7 + 2, none⟩ = some (.int .i64 y2) := fun p => cell_regrown q2 p.d p.os
        have p3 : ∀ p : Regrown, (grow (redrawn wr p.d) p.os).cell? ⟨b, o + k * 7 + 3, none⟩ = some (.int .i64 x3) := fun p => cell_regrown p3 p.d p.os
        have q3 : ∀ p : Regrown, (grow (redrawn wr p.d) p.os).cell? ⟨b', o' + k * 7 + 3, none⟩ = some (.int .i64 y3) := fun p => cell_regrown q3 p.d p.os
        have p4 : ∀ p : Regrown, (grow (redrawn wr p.d) p.os).cell? ⟨b, o + k * 7 + 4, none⟩ = some (.int .i64 x4) := fun p => cell_regrown p4 p.d p.os
        have q4 : ∀ p : Regrown, (grow (redrawn wr p.d) p.os).cell? ⟨b', o' + k * 7 + 4, none⟩ = some (.int .i64 y4) := fun p => cell_regrown q4 p.d p.os
        have p5 : ∀ p : Regrown, (grow (redrawn wr p.d) p.os).cell? ⟨b, o + k * 7 + 5, none⟩ = some (.int .i64 x5) := fun p => cell_regrown p5 p.d p.os
        have q5 : ∀ p : Regrown, (grow (redrawn wr p.d) p.os).cell? ⟨b', o' + k * 7 + 5, none⟩ = some (.int .i64 y5) := fun p => cell_regrown q5 p.d p.os
        have p6 : ∀ p : Regrown, (grow (redrawn wr p.d) p.os).cell? ⟨b, o + k * 7 + 6, none⟩ = some (.int .u32 x6) := fun p => cell_regrown p6 p.d p.os
        have q6 : ∀ p : Regrown, (grow (redrawn wr p.d) p.os).cell? ⟨b', o' + k * 7 + 6, none⟩ = some (.int .u32 y6) := fun p => cell_regrown q6 p.d p.os
        have hbr := Below.refl wr.heap.size wr
        have E1 := Lib.hid e1; have E2 := Lib.hid e2
        clear e1 e2 k0 k1 hx hy
        by_cases he : [x0, x1, x2, x3, x4, x5, x6] = [y0, y1, y2, y3, y4, y5, y6]
        · have HE := Lib.hid he; have HQ := Lib.hid (eq7 x0 x1 x2 x3 x4 x5 x6 y0 y1 y2 y3 y4 y5 y6 true (decide_eq_true he))
          clear he
          go_wp2_with ((first | with_reducible refine wpList_on hbr ?_ | with_reducible refine wp_on hbr (by kernel_rfl) (by kernel_rfl) ?_); (repeat (first | (go_big_quiet_want; (first | refine quiet_neqT 59 _ _ _ rfl _ _ rfl rfl HQ.out (by kernel_rfl) ?_ | refine quiet_neqF 59 _ _ _ rfl _ _ rfl rfl HQ.out (by kernel_rfl) ?_); go_big_quiet_on) | go_big_quiet_step (fail))); with_reducible refine wpQuiet_nil ?_; intro wc hbr)
          go_roundw
          case rel => exact ⟨k + 1, by omega, by go_num, take_sameL E1.out (by rw [E2.out, HE.out]) HT.out, hbc.trans (hbr.mono hbc.size)⟩
          case measure => simp [intOf]; omega
        · have HE := Lib.hid he; have HQ := Lib.hid (eq7 x0 x1 x2 x3 x4 x5 x6 y0 y1 y2 y3 y4 y5 y6 false (decide_eq_false he))
          clear he
          go_wp2_with ((first | with_reducible refine wpList_on hbr ?_ | with_reducible refine wp_on hbr (by kernel_rfl) (by kernel_rfl) ?_); (repeat (first | (go_big_quiet_want; (first | refine quiet_neqT 59 _ _ _ rfl _ _ rfl rfl HQ.out (by kernel_rfl) ?_ | refine quiet_neqF 59 _ _ _ rfl _ _ rfl rfl HQ.out (by kernel_rfl) ?_); go_big_quiet_on) | go_big_quiet_step (fail))); with_reducible refine wpQuiet_nil ?_; intro wc hbr)
          go_ret
          exact ⟨by rw [decide_eq_false (get_sameL E1.out E2.out HE.out)]; rfl, hbc.trans (hbr.mono hbc.size)⟩
      · have HS := Lib.hid (show l = m by have h := HT.out; rw [show k = l.length by omega, List.take_length, List.take_of_length_le (by have := hL.out; omega)] at h; exact h)
        go_wp2
        go_ret
        exact ⟨by rw [decide_eq_true HS.out]; rfl, hbc⟩
  · have hne : ((l.length : Int) != (m.length : Int)) = true := by simp; omega
    have HE := Lib.hid hlen
    clear hlen
    go_enter Try.func30, Try.ntmps30
    go_wp2
    go_ret
    exact ⟨by rw [decide_eq_false (fun h => HE.out (by rw [h]))]; rfl, Below.refl _ _⟩
end Go.Proofs.Ytjknmojjodghdaa
