/- slices.IndexFunc and ContainsFunc at rows of structs, as contracts. No condition but those in the statements. -/
import Derived.Test.YtogffilanioejaaSmall
import Derived.Test.YtogffilanioejaaFn
import Derived.BigQuiet
namespace Go.Proofs.Ytogffilanioejaa
open Go.RowKit Go.Sort Go.ChangeShapes Go.WideShapes
set_option linter.unusedVariables false
set_option linter.unusedSimpArgs false

theorem any_false {l : List (List Int)} {p : List Int → Bool} (h : ∀ x ∈ l, p x = false) : l.any p = false := by
  rw [List.any_eq_false]; intro x hx; simp [h x hx]

set_option maxHeartbeats 1600000 in
theorem index2_b (g : Nat) (p : List Int → Bool) (eg : ∀ args w, (callFunc g args).run Try.prog w = .ok (.enter g args) w)
    (hp : ∀ (x0 x1 : Int) (w : World), Calls Try.prog g #[.agg #[.int .i64 x0, .int .i64 x1]] w fun e w' => e = .returned (.bool (p [x0, x1])) ∧ Below w.heap.size w w') (l : List (List Int)) (A : Option Addr) (c : Nat) (w : World) (hr : RowN [.i64, .i64] w w.heap.size A l) (wl : wfR [.i64, .i64] l) (hl : l.length ≤ 1000000) :
    Calls Try.prog 53 #[.slice A l.length c, .func (.func g) #[] #[]] w fun e w' => (∃ r : Int, e = .returned (.int .i64 r) ∧ decide (0 ≤ r) = l.any p) ∧ Below w.heap.size w w' := by
  go_enter Try.func53, Try.ntmps53
  go_wp2
  go_loopw [5, 8] (fun _ ix wr => ∃ k : Nat, k ≤ l.length ∧ ix = .int .i64 k ∧ (∀ x ∈ l.take k, p x = false) ∧ Below w.heap.size w wr) (fun _ ix _ => l.length - (intOf ix).toNat)
  case atStart => exact ⟨0, Nat.zero_le _, rfl, (fun x hx => by simp at hx), Below.refl _ _⟩
  case round =>
    obtain ⟨k, hk, rfl, ha, hbc⟩ := hrel
    have HT := Lib.hid ha
    clear ha
    by_cases hlt : k < l.length
    · obtain ⟨b, o, x0, x1, e0, _, e1, _, k0⟩ := hr.at2 wl hlt
      subst e0
      have k0 := k0 _ hbc
      obtain ⟨p0, p1⟩ := k0
      have E1 := Lib.hid e1
      have hcall := gives_one (hp x0 x1 wr)
      clear e1 hp hr wl
      cases hq : p [x0, x1] with
      | true =>
        rw [hq] at hcall
        have HQ := Lib.hid hq
        clear hq
        go_wp2_with ((with_reducible refine wpList_fn (caps := []) eg hcall ?_ ?_ ?_); (first | rfl | fail); (first | rfl | fail); rintro _ w' ⟨rfl, hb'⟩)
        go_ret
        refine ⟨⟨_, rfl, ?_⟩, hbc.trans (hb'.mono hbc.size)⟩
        rw [List.any_eq_true.2 ⟨_, List.mem_of_getElem? E1.out, HQ.out⟩]
        exact decide_eq_true (by omega)
      | false =>
        rw [hq] at hcall
        have HQ := Lib.hid hq
        clear hq
        go_wp2_with ((with_reducible refine wpList_fn (caps := []) eg hcall ?_ ?_ ?_); (first | rfl | fail); (first | rfl | fail); rintro _ w' ⟨rfl, hb'⟩)
        go_roundw
        case rel => exact ⟨k + 1, by omega, by go_num, (fun x hx => by
          rw [List.take_add_one, E1.out] at hx
          rcases List.mem_append.1 hx with h | h
          · exact HT.out x h
          · simp at h; rw [h]; exact HQ.out), hbc.trans (hb'.mono hbc.size)⟩
        case measure => simp [intOf]; omega
    · have HS := Lib.hid (show l.any p = false from any_false (by have h := HT.out; rw [List.take_of_length_le (by omega)] at h; exact h))
      clear HT hp hr wl
      go_wp2
      go_ret
      exact ⟨⟨_, rfl, by rw [HS.out]; rfl⟩, hbc⟩
set_option maxHeartbeats 800000 in
theorem contains2_b (g : Nat) (p : List Int → Bool) (eg : ∀ args w, (callFunc g args).run Try.prog w = .ok (.enter g args) w)
    (hp : ∀ (x0 x1 : Int) (w : World), Calls Try.prog g #[.agg #[.int .i64 x0, .int .i64 x1]] w fun e w' => e = .returned (.bool (p [x0, x1])) ∧ Below w.heap.size w w') (l : List (List Int)) (A : Option Addr) (c : Nat) (w : World) (hr : RowN [.i64, .i64] w w.heap.size A l) (wl : wfR [.i64, .i64] l) (hl : l.length ≤ 1000000) :
    Calls Try.prog 46 #[.slice A l.length c, .func (.func g) #[] #[]] w fun e w' => e = .returned (.bool (l.any p)) ∧ Below w.heap.size w w' := by
  have hI := index2_b g p eg hp l A c w hr wl hl
  clear hp
  go_enter Try.func46, Try.ntmps46
  go_wp2_with fail
  refine hI.mono ?_
  rintro e w5 ⟨⟨r, rfl, hd⟩, hb5⟩
  by_cases h0 : 0 ≤ r
  · have HX := Lib.hid (show l.any p = true by rw [← hd]; exact decide_eq_true h0)
    clear hd
    go_wp2
    go_ret
    exact ⟨by rw [HX.out]; rfl, hb5⟩
  · have HX := Lib.hid (show l.any p = false by rw [← hd]; exact decide_eq_false h0)
    have h1 : decide (0 ≤ r) = false := decide_eq_false h0
    clear hd
    go_wp2
    go_ret
    exact ⟨by rw [HX.out]; rfl, hb5⟩

set_option maxHeartbeats 1600000 in
theorem index7_b (g : Nat) (p : List Int → Bool) (eg : ∀ args w, (callFunc g args).run Try.prog w = .ok (.enter g args) w)
    (hp : ∀ (x0 x1 x2 x3 x4 x5 x6 : Int) (w : World), Calls Try.prog g #[.agg #[.int .i64 x0, .int .i64 x1, .int .i64 x2, .int .i64 x3, .int .i64 x4, .int .i64 x5, .int .u32 x6]] w fun e w' => e = .returned (.bool (p [x0, x1, x2, x3, x4, x5, x6])) ∧ Below w.heap.size w w') (l : List (List Int)) (A : Option Addr) (c : Nat) (w : World) (hr : RowN [.i64, .i64, .i64, .i64, .i64, .i64, .u32] w w.heap.size A l) (wl : wfR [.i64, .i64, .i64, .i64, .i64, .i64, .u32] l) (hl : l.length ≤ 1000000) :
    Calls Try.prog 54 #[.slice A l.length c, .func (.func g) #[] #[]] w fun e w' => (∃ r : Int, e = .returned (.int .i64 r) ∧ decide (0 ≤ r) = l.any p) ∧ Below w.heap.size w w' := by
  go_enter Try.func54, Try.ntmps54
  go_wp2
  go_loopw [5, 8] (fun _ ix wr => ∃ k : Nat, k ≤ l.length ∧ ix = .int .i64 k ∧ (∀ x ∈ l.take k, p x = false) ∧ Below w.heap.size w wr) (fun _ ix _ => l.length - (intOf ix).toNat)
  case atStart => exact ⟨0, Nat.zero_le _, rfl, (fun x hx => by simp at hx), Below.refl _ _⟩
  case round =>
    obtain ⟨k, hk, rfl, ha, hbc⟩ := hrel
    have HT := Lib.hid ha
    clear ha
    by_cases hlt : k < l.length
    · obtain ⟨b, o, x0, x1, x2, x3, x4, x5, x6, e0, _, e1, _, k0⟩ := hr.at7 wl hlt
      subst e0
      have k0 := k0 _ hbc
      obtain ⟨p0, k0⟩ := k0
      obtain ⟨p1, k0⟩ := k0
      obtain ⟨p2, k0⟩ := k0
      obtain ⟨p3, k0⟩ := k0
      obtain ⟨p4, k0⟩ := k0
      obtain ⟨p5, p6⟩ := k0
      have E1 := Lib.hid e1
      have hcall := gives_one (hp x0 x1 x2 x3 x4 x5 x6 wr)
      clear e1 hp hr wl
      cases hq : p [x0, x1, x2, x3, x4, x5, x6] with
      | true =>
        rw [hq] at hcall
        have HQ := Lib.hid hq
        clear hq
        go_wp2_with ((with_reducible refine wpList_fn (caps := []) eg hcall ?_ ?_ ?_); (first | rfl | fail); (first | rfl | fail); rintro _ w' ⟨rfl, hb'⟩)
        go_ret
        refine ⟨⟨_, rfl, ?_⟩, hbc.trans (hb'.mono hbc.size)⟩
        rw [List.any_eq_true.2 ⟨_, List.mem_of_getElem? E1.out, HQ.out⟩]
        exact decide_eq_true (by omega)
      | false =>
        rw [hq] at hcall
        have HQ := Lib.hid hq
        clear hq
        go_wp2_with ((with_reducible refine wpList_fn (caps := []) eg hcall ?_ ?_ ?_); (first | rfl | fail); (first | rfl | fail); rintro _ w' ⟨rfl, hb'⟩)
        go_roundw
        case rel => exact ⟨k + 1, by omega, by go_num, (fun x hx => by
          rw [List.take_add_one, E1.out] at hx
          rcases List.mem_append.1 hx with h | h
          · exact HT.out x h
          · simp at h; rw [h]; exact HQ.out), hbc.trans (hb'.mono hbc.size)⟩
        case measure => simp [intOf]; omega
    · have HS := Lib.hid (show l.any p = false from any_false (by have h := HT.out; rw [List.take_of_length_le (by omega)] at h; exact h))
      clear HT hp hr wl
      go_wp2
      go_ret
      exact ⟨⟨_, rfl, by rw [HS.out]; rfl⟩, hbc⟩
set_option maxHeartbeats 800000 in
theorem contains7_b (g : Nat) (p : List Int → Bool) (eg : ∀ args w, (callFunc g args).run Try.prog w = .ok (.enter g args) w)
    (hp : ∀ (x0 x1 x2 x3 x4 x5 x6 : Int) (w : World), Calls Try.prog g #[.agg #[.int .i64 x0, .int .i64 x1, .int .i64 x2, .int .i64 x3, .int .i64 x4, .int .i64 x5, .int .u32 x6]] w fun e w' => e = .returned (.bool (p [x0, x1, x2, x3, x4, x5, x6])) ∧ Below w.heap.size w w') (l : List (List Int)) (A : Option Addr) (c : Nat) (w : World) (hr : RowN [.i64, .i64, .i64, .i64, .i64, .i64, .u32] w w.heap.size A l) (wl : wfR [.i64, .i64, .i64, .i64, .i64, .i64, .u32] l) (hl : l.length ≤ 1000000) :
    Calls Try.prog 48 #[.slice A l.length c, .func (.func g) #[] #[]] w fun e w' => e = .returned (.bool (l.any p)) ∧ Below w.heap.size w w' := by
  have hI := index7_b g p eg hp l A c w hr wl hl
  clear hp
  go_enter Try.func48, Try.ntmps48
  go_wp2_with fail
  refine hI.mono ?_
  rintro e w5 ⟨⟨r, rfl, hd⟩, hb5⟩
  by_cases h0 : 0 ≤ r
  · have HX := Lib.hid (show l.any p = true by rw [← hd]; exact decide_eq_true h0)
    clear hd
    go_wp2
    go_ret
    exact ⟨by rw [HX.out]; rfl, hb5⟩
  · have HX := Lib.hid (show l.any p = false by rw [← hd]; exact decide_eq_false h0)
    have h1 : decide (0 ≤ r) = false := decide_eq_false h0
    clear hd
    go_wp2
    go_ret
    exact ⟨by rw [HX.out]; rfl, hb5⟩
end Go.Proofs.Ytogffilanioejaa
