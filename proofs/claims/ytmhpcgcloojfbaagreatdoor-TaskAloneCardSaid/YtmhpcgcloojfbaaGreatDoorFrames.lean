/- The frames' functions, as contracts. No condition but those in the statements. -/
import Derived.Test.YtmhpcgcloojfbaaGreatDoorSmA
import Derived.BigQuiet
import Derived.IntWalk
import Derived.BigRegion
import Derived.OpenShut
namespace Go.Proofs.YtmhpcgcloojfbaaGreatDoor
open Go.RowKit Go.Sort Go.ChangeShapes Go.WideShapes
set_option linter.unusedVariables false
set_option linter.unusedSimpArgs false

/-- Has a frame the defect 12, 13, 15 or 16? -/
def frameB (k : Int) (len : Int) (win : List (List Int)) : Bool :=
  if k = 12 then decide (len < 1 ∨ 64 < len) else if k = 13 then decide (16 < win.length) else if k = 15 then scan win.length (fun i => win15 len (row win i))
  else scan win.length (fun i => decide (0 < i) && win16 (row win (i - 1)) (row win i))
theorem fbox_new (w : World) (len : Int) (A : Option Addr) (n c : Nat) (t : TypeId) : ∃ W, Hid (W = w.alloc (.cells #[.int .i64 len, .slice A n c] t)) ∧ Below w.heap.size w W ∧ w.heap.size < W.heap.size ∧
    (∀ w', Below W.heap.size W w' → w'.cell? ⟨w.heap.size, 0, none⟩ = some (.int .i64 len) ∧ w'.cell? ⟨w.heap.size, 1, none⟩ = some (.slice A n c)) := by
  refine ⟨_, rfl, (Below.refl _ _).alloc (Nat.le_refl _) _, by simp, fun w' hb => ?_⟩
  have h : ∀ o v, (w.alloc (.cells #[.int .i64 len, .slice A n c] t)).cell? ⟨w.heap.size, o, none⟩ = some v → w'.cell? ⟨w.heap.size, o, none⟩ = some v := fun o v h => (hb.cell (p := ⟨w.heap.size, o, none⟩) (by simp)).trans h
  exact ⟨h 0 _ (cell_blk (heap_alloc_new w _) rfl), h 1 _ (cell_blk (heap_alloc_new w _) rfl)⟩

set_option maxRecDepth 100000 in
set_option maxHeartbeats 4000000 in
theorem frame12_b (len : Int) (win : List (List Int)) (A : Option Addr) (c : Nat) (w : World) (hr : RowN [.i64, .i64, .i64] w w.heap.size A win) (wl : wfR [.i64, .i64, .i64] win) (hl : win.length ≤ 1000000) (hlen : (Lit.int .i64 len).wf = true) : Calls Tryz.prog 169 #[.agg #[.int .i64 len, .slice A win.length c]] w fun e w' => e = .returned (.bool (frameB 12 len win)) ∧ Below w.heap.size w w' := by
  by_cases h1 : decide (1 ≤ len ∧ len ≤ 64) = true
  · have HG := Lib.hid (of_decide_eq_true h1)
    have HX := Lib.hid (show frameB 12 len win = false from (show decide (len < 1 ∨ 64 < len) = false from decide_eq_false (by have := HG.out; omega)))
    go_enter Tryz.func169, Tryz.ntmps169
    go_wp2_with (first | (go_at_call 154; ((with_reducible refine (within_is _ _ _ _ _ (by assumption)).mono ?_); rintro e w5 ⟨rfl, rfl⟩)))
    go_ret
    exact ⟨by rw [HX.out]; rfl, (Below.refl _ _).alloc (Nat.le_refl _) _⟩
  · have h1 : decide (1 ≤ len ∧ len ≤ 64) = false := by simpa using h1
    have HG := Lib.hid (of_decide_eq_false h1)
    have HX := Lib.hid (show frameB 12 len win = true from (show decide (len < 1 ∨ 64 < len) = true from decide_eq_true (by have := HG.out; omega)))
    go_enter Tryz.func169, Tryz.ntmps169
    go_wp2_with (first | (go_at_call 154; ((with_reducible refine (within_is _ _ _ _ _ (by assumption)).mono ?_); rintro e w5 ⟨rfl, rfl⟩)))
    go_ret
    exact ⟨by rw [HX.out]; rfl, (Below.refl _ _).alloc (Nat.le_refl _) _⟩

set_option maxRecDepth 100000 in
set_option maxHeartbeats 4000000 in
theorem frame13_b (len : Int) (win : List (List Int)) (A : Option Addr) (c : Nat) (w : World) (hr : RowN [.i64, .i64, .i64] w w.heap.size A win) (wl : wfR [.i64, .i64, .i64] win) (hl : win.length ≤ 1000000) (hlen : (Lit.int .i64 len).wf = true) : Calls Tryz.prog 170 #[.agg #[.int .i64 len, .slice A win.length c]] w fun e w' => e = .returned (.bool (frameB 13 len win)) ∧ Below w.heap.size w w' := by
  by_cases h1 : (16 : Int) < (win.length : Int)
  · have HX := Lib.hid (show frameB 13 len win = true from (show decide (16 < win.length) = true from decide_eq_true (by omega)))
    go_enter Tryz.func170, Tryz.ntmps170
    go_wp2
    go_ret
    exact ⟨by rw [HX.out]; rfl, (Below.refl _ _).alloc (Nat.le_refl _) _⟩
  · have h1d : decide ((16 : Int) < (win.length : Int)) = false := decide_eq_false h1
    have HX := Lib.hid (show frameB 13 len win = false from (show decide (16 < win.length) = false from decide_eq_false (by omega)))
    go_enter Tryz.func170, Tryz.ntmps170
    go_wp2
    go_ret
    exact ⟨by rw [HX.out]; rfl, (Below.refl _ _).alloc (Nat.le_refl _) _⟩

set_option maxRecDepth 100000 in
set_option maxHeartbeats 4000000 in
theorem frame15_b (len : Int) (win : List (List Int)) (A : Option Addr) (c : Nat) (w : World) (hr : RowN [.i64, .i64, .i64] w w.heap.size A win) (wl : wfR [.i64, .i64, .i64] win) (hl : win.length ≤ 1000000) (hlen : (Lit.int .i64 len).wf = true) : Calls Tryz.prog 172 #[.agg #[.int .i64 len, .slice A win.length c]] w fun e w' => e = .returned (.bool (frameB 15 len win)) ∧ Below w.heap.size w w' := by
  obtain ⟨W, HW, hB, hWs, bx⟩ := fbox_new w len A win.length c 26
  have HB := Lib.hid hB
  have hr := (hr.below hB).more hB.size
  obtain ⟨u0, u1⟩ := bounds_i64 hlen
  clear hB
  go_enter Tryz.func172, Tryz.ntmps172
  go_wp2
  go_loopw [8] (fun ix wr => ∃ i : Nat, i ≤ win.length ∧ ix = .int .i64 i ∧ scan i (fun i => win15 len (row win i)) = false ∧ Below W.heap.size W wr) (fun ix _ => win.length - (intOf ix).toNat)
  case atStart => exact ⟨0, Nat.zero_le _, rfl, rfl, (by rw [← HW.out]; exact Below.refl _ _)⟩
  case round =>
    obtain ⟨i, hi, rfl, ht, hbc⟩ := hrel
    have HT := Lib.hid ht
    obtain ⟨c0, c1⟩ := bx _ hbc
    clear ht
    by_cases hlt : i < win.length
    · obtain ⟨b, o, x0, x1, x2, e0, _, e1, ⟨hw0, hw1, hw2⟩, k0⟩ := hr.at3 wl hlt
      subst e0
      have k0 := k0 _ hbc
      obtain ⟨p0, k0⟩ := k0
      obtain ⟨p1, p2⟩ := k0
      have E1 := Lib.hid e1
      obtain ⟨s0, s1⟩ := bounds_i64 hw1
      obtain ⟨t0, t1⟩ := bounds_i64 hw2
      obtain ⟨c2, c3⟩ := bx _ (hbc.alloc hbc.size (.cells #[.int .i64 x0, .int .i64 x1, .int .i64 x2] 104))
      clear e1
      by_cases h1 : x1 < 0
      · have HX := Lib.hid (show frameB 15 len win = true from scan_hit (f := (fun i => win15 len (row win i))) hlt (show win15 len (row win i) = true by rw [row_at E1.out]; exact (show decide (x1 < 0 ∨ x2 < 1 ∨ len < x1 ∨ len - x1 < x2) = true from decide_eq_true (by omega))))
        go_wp2
        go_ret
        exact ⟨by rw [HX.out]; rfl, HB.out.trans ((hbc.alloc hbc.size _).mono HB.out.size)⟩
      · have h1d : decide (x1 < 0) = false := decide_eq_false h1
        by_cases h2 : x2 < 1
        · have HX := Lib.hid (show frameB 15 len win = true from scan_hit (f := (fun i => win15 len (row win i))) hlt (show win15 len (row win i) = true by rw [row_at E1.out]; exact (show decide (x1 < 0 ∨ x2 < 1 ∨ len < x1 ∨ len - x1 < x2) = true from decide_eq_true (by omega))))
          go_wp2
          go_ret
          exact ⟨by rw [HX.out]; rfl, HB.out.trans ((hbc.alloc hbc.size _).mono HB.out.size)⟩
        · have h2d : decide (x2 < 1) = false := decide_eq_false h2
          by_cases h3 : len < x1
          · have HX := Lib.hid (show frameB 15 len win = true from scan_hit (f := (fun i => win15 len (row win i))) hlt (show win15 len (row win i) = true by rw [row_at E1.out]; exact (show decide (x1 < 0 ∨ x2 < 1 ∨ len < x1 ∨ len - x1 < x2) = true from decide_eq_true (by omega))))
            go_wp2
            go_ret
            exact ⟨by rw [HX.out]; rfl, HB.out.trans ((hbc.alloc hbc.size _).mono HB.out.size)⟩
          · have h3d : decide (len < x1) = false := decide_eq_false h3
            by_cases h4 : len - x1 < x2
            · have HX := Lib.hid (show frameB 15 len win = true from scan_hit (f := (fun i => win15 len (row win i))) hlt (show win15 len (row win i) = true by rw [row_at E1.out]; exact (show decide (x1 < 0 ∨ x2 < 1 ∨ len < x1 ∨ len - x1 < x2) = true from decide_eq_true (by omega))))
              go_wp2
              go_ret
              exact ⟨by rw [HX.out]; rfl, HB.out.trans ((hbc.alloc hbc.size _).mono HB.out.size)⟩
            · have h4d : decide (len - x1 < x2) = false := decide_eq_false h4
              have HX := Lib.hid (show scan (i + 1) (fun i => win15 len (row win i)) = false from scan_next HT.out (show win15 len (row win i) = false by rw [row_at E1.out]; exact (show decide (x1 < 0 ∨ x2 < 1 ∨ len < x1 ∨ len - x1 < x2) = false from decide_eq_false (by omega))))
              go_wp2
              go_roundw
              case rel => exact ⟨i + 1, by omega, by go_num, HX.out, hbc.alloc hbc.size _⟩
              case measure => simp [intOf]; omega
    · have HS := Lib.hid (show frameB 15 len win = false by have h := HT.out; rw [show i = win.length by omega] at h; exact h)
      clear HT
      go_wp2
      go_ret
      exact ⟨by rw [HS.out]; rfl, HB.out.trans (hbc.mono HB.out.size)⟩
end Go.Proofs.YtmhpcgcloojfbaaGreatDoor
