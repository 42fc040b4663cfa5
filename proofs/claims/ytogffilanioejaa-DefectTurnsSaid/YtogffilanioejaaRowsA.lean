/- The functions of the rows 1 to 5, 7 to 11 of the table, as contracts. No condition but those in the statements. -/
import Derived.Test.YtogffilanioejaaIndex
import Derived.BigQuiet
import Derived.Shelf.Abstract
namespace Go.Proofs.Ytogffilanioejaa
open Go.RowKit Go.Sort Go.Shelf
set_option linter.unusedVariables false
set_option linter.unusedSimpArgs false

theorem row1_b (parts chans : List (List Int)) (len0 : Int) (win0 : List (List Int)) (len1 : Int) (win1 : List (List Int)) (pa : Option Addr) (pc : Nat) (ca : Option Addr) (cc : Nat) (aa : Option Addr) (ac : Nat) (ba : Option Addr) (bc : Nat) (w : World) : Calls Try.prog 20 #[.agg #[.slice pa parts.length pc, .slice ca chans.length cc, .int .i64 len0, .slice aa win0.length ac, .int .i64 len1, .slice ba win1.length bc]] w fun e w' => e = .returned (.bool (holdsP (⟨parts, chans, len0, win0, len1, win1⟩ : Cfg) 1)) ∧ Below w.heap.size w w' := by
  by_cases h1 : decide (1 ≤ (parts.length : Int) ∧ (parts.length : Int) ≤ 6) = true
  · have HG := Lib.hid (of_decide_eq_true h1)
    have HX := Lib.hid (show holdsP (⟨parts, chans, len0, win0, len1, win1⟩ : Cfg) 1 = false from (show decide (parts.length < 1 ∨ 6 < parts.length) = false from decide_eq_false (by have := HG.out; omega)))
    go_enter Try.func20, Try.ntmps20
    go_wp2_with (first | (go_at_call 21; ((with_reducible refine (within_is _ _ _ _ _ (by assumption)).mono ?_); rintro e w5 ⟨rfl, rfl⟩)))
    go_ret
    exact ⟨by rw [HX.out]; rfl, (Below.refl _ _).alloc (Nat.le_refl _) _⟩
  · have h1 : decide (1 ≤ (parts.length : Int) ∧ (parts.length : Int) ≤ 6) = false := by simpa using h1
    have HG := Lib.hid (of_decide_eq_false h1)
    have HX := Lib.hid (show holdsP (⟨parts, chans, len0, win0, len1, win1⟩ : Cfg) 1 = true from (show decide (parts.length < 1 ∨ 6 < parts.length) = true from decide_eq_true (by have := HG.out; omega)))
    go_enter Try.func20, Try.ntmps20
    go_wp2_with (first | (go_at_call 21; ((with_reducible refine (within_is _ _ _ _ _ (by assumption)).mono ?_); rintro e w5 ⟨rfl, rfl⟩)))
    go_ret
    exact ⟨by rw [HX.out]; rfl, (Below.refl _ _).alloc (Nat.le_refl _) _⟩
theorem row4_b (parts chans : List (List Int)) (len0 : Int) (win0 : List (List Int)) (len1 : Int) (win1 : List (List Int)) (pa : Option Addr) (pc : Nat) (ca : Option Addr) (cc : Nat) (aa : Option Addr) (ac : Nat) (ba : Option Addr) (bc : Nat) (w : World) : Calls Try.prog 26 #[.agg #[.slice pa parts.length pc, .slice ca chans.length cc, .int .i64 len0, .slice aa win0.length ac, .int .i64 len1, .slice ba win1.length bc]] w fun e w' => e = .returned (.bool (holdsP (⟨parts, chans, len0, win0, len1, win1⟩ : Cfg) 4)) ∧ Below w.heap.size w w' := by
  by_cases h1 : (8 : Int) < (chans.length : Int)
  · have HX := Lib.hid (show holdsP (⟨parts, chans, len0, win0, len1, win1⟩ : Cfg) 4 = true from (show decide (8 < chans.length) = true from decide_eq_true (by omega)))
    go_enter Try.func26, Try.ntmps26
    go_wp2
    go_ret
    exact ⟨by rw [HX.out]; rfl, (Below.refl _ _).alloc (Nat.le_refl _) _⟩
  · have h1d : decide ((8 : Int) < (chans.length : Int)) = false := decide_eq_false h1
    have HX := Lib.hid (show holdsP (⟨parts, chans, len0, win0, len1, win1⟩ : Cfg) 4 = false from (show decide (8 < chans.length) = false from decide_eq_false (by omega)))
    go_enter Try.func26, Try.ntmps26
    go_wp2
    go_ret
    exact ⟨by rw [HX.out]; rfl, (Below.refl _ _).alloc (Nat.le_refl _) _⟩

set_option maxHeartbeats 800000 in
theorem row2_b (parts chans : List (List Int)) (len0 : Int) (win0 : List (List Int)) (len1 : Int) (win1 : List (List Int)) (pa : Option Addr) (pc : Nat) (ca : Option Addr) (cc : Nat) (aa : Option Addr) (ac : Nat) (ba : Option Addr) (bc : Nat) (B : Nat) (w : World) (hp : RowN [.i64, .i64] w w.heap.size pa parts) (hpw : wfR [.i64, .i64] parts) (hpl : parts.length ≤ 1000000) (hc : RowN [.i64, .i64, .i64, .i64, .i64, .i64, .u32] w w.heap.size ca chans) (hcw : wfR [.i64, .i64, .i64, .i64, .i64, .i64, .u32] chans) (hcl : chans.length ≤ 1000000) (h0 : RowN [.i64, .i64, .i64] w w.heap.size aa win0) (h0w : wfR [.i64, .i64, .i64] win0) (h0l : win0.length ≤ 1000000) (h1 : RowN [.i64, .i64, .i64] w w.heap.size ba win1) (h1w : wfR [.i64, .i64, .i64] win1) (h1l : win1.length ≤ 1000000) (hB : w.cell? ⟨B, 0, none⟩ = some (.func (.func 23) #[] #[])) :
    Calls Try.prog 45 #[.agg #[.slice pa parts.length pc, .slice ca chans.length cc, .int .i64 len0, .slice aa win0.length ac, .int .i64 len1, .slice ba win1.length bc], .pointer (some ⟨B, 0, none⟩)] w fun e w' => e = .returned (.bool (holdsP (⟨parts, chans, len0, win0, len1, win1⟩ : Cfg) 2)) ∧ Below w.heap.size w w' := by
  have hBw : B < w.heap.size := by have := World.block_lt_of_cell? w _ hB; exact this
  have HX := Lib.hid (show holdsP (⟨parts, chans, len0, win0, len1, win1⟩ : Cfg) 2 = parts.any (fun x => decide (fld x 0 ≠ 0 ∧ fld x 0 ≠ 1)) from scan_any parts (fun x => decide (fld x 0 ≠ 0 ∧ fld x 0 ≠ 1)))
  have hC := fun w' (h : Below w.heap.size w w') => contains2_b 23 (fun x => decide (fld x 0 ≠ 0 ∧ fld x 0 ≠ 1)) (enters_of Try.func23 (by kernel_rfl) rfl) (fun x0 x1 w => pred2_b x0 x1 w) parts pa pc w' (hp.later h) hpw hpl
  rw [HX.out]
  generalize parts.any (fun x => decide (fld x 0 ≠ 0 ∧ fld x 0 ≠ 1)) = q at hC
  clear HX hp hc h0 h1
  go_enter Try.func45, Try.ntmps45
  go_wp2_with (go_at_call 46; refine (hC _ ((Below.refl _ _).alloc (Nat.le_refl _) _)).mono ?_; rintro e w' ⟨rfl, hb'⟩)
  go_ret
  exact ⟨rfl, ((Below.refl _ _).alloc (Nat.le_refl _) _).trans (hb'.mono (by simp))⟩

set_option maxHeartbeats 800000 in
theorem row3_b (parts chans : List (List Int)) (len0 : Int) (win0 : List (List Int)) (len1 : Int) (win1 : List (List Int)) (pa : Option Addr) (pc : Nat) (ca : Option Addr) (cc : Nat) (aa : Option Addr) (ac : Nat) (ba : Option Addr) (bc : Nat) (B : Nat) (w : World) (hp : RowN [.i64, .i64] w w.heap.size pa parts) (hpw : wfR [.i64, .i64] parts) (hpl : parts.length ≤ 1000000) (hc : RowN [.i64, .i64, .i64, .i64, .i64, .i64, .u32] w w.heap.size ca chans) (hcw : wfR [.i64, .i64, .i64, .i64, .i64, .i64, .u32] chans) (hcl : chans.length ≤ 1000000) (h0 : RowN [.i64, .i64, .i64] w w.heap.size aa win0) (h0w : wfR [.i64, .i64, .i64] win0) (h0l : win0.length ≤ 1000000) (h1 : RowN [.i64, .i64, .i64] w w.heap.size ba win1) (h1w : wfR [.i64, .i64, .i64] win1) (h1l : win1.length ≤ 1000000) (hB : w.cell? ⟨B, 0, none⟩ = some (.func (.func 25) #[] #[])) :
    Calls Try.prog 45 #[.agg #[.slice pa parts.length pc, .slice ca chans.length cc, .int .i64 len0, .slice aa win0.length ac, .int .i64 len1, .slice ba win1.length bc], .pointer (some ⟨B, 0, none⟩)] w fun e w' => e = .returned (.bool (holdsP (⟨parts, chans, len0, win0, len1, win1⟩ : Cfg) 3)) ∧ Below w.heap.size w w' := by
  have hBw : B < w.heap.size := by have := World.block_lt_of_cell? w _ hB; exact this
  have HX := Lib.hid (show holdsP (⟨parts, chans, len0, win0, len1, win1⟩ : Cfg) 3 = parts.any (fun x => decide (fld x 1 < 0 ∨ 64 < fld x 1)) from scan_any parts (fun x => decide (fld x 1 < 0 ∨ 64 < fld x 1)))
  have hC := fun w' (h : Below w.heap.size w w') => contains2_b 25 (fun x => decide (fld x 1 < 0 ∨ 64 < fld x 1)) (enters_of Try.func25 (by kernel_rfl) rfl) (fun x0 x1 w => pred3_b x0 x1 w) parts pa pc w' (hp.later h) hpw hpl
  rw [HX.out]
  generalize parts.any (fun x => decide (fld x 1 < 0 ∨ 64 < fld x 1)) = q at hC
  clear HX hp hc h0 h1
  go_enter Try.func45, Try.ntmps45
  go_wp2_with (go_at_call 46; refine (hC _ ((Below.refl _ _).alloc (Nat.le_refl _) _)).mono ?_; rintro e w' ⟨rfl, hb'⟩)
  go_ret
  exact ⟨rfl, ((Below.refl _ _).alloc (Nat.le_refl _) _).trans (hb'.mono (by simp))⟩

set_option maxHeartbeats 800000 in
theorem row5_b (parts chans : List (List Int)) (len0 : Int) (win0 : List (List Int)) (len1 : Int) (win1 : List (List Int)) (pa : Option Addr) (pc : Nat) (ca : Option Addr) (cc : Nat) (aa : Option Addr) (ac : Nat) (ba : Option Addr) (bc : Nat) (B : Nat) (w : World) (hp : RowN [.i64, .i64] w w.heap.size pa parts) (hpw : wfR [.i64, .i64] parts) (hpl : parts.length ≤ 1000000) (hc : RowN [.i64, .i64, .i64, .i64, .i64, .i64, .u32] w w.heap.size ca chans) (hcw : wfR [.i64, .i64, .i64, .i64, .i64, .i64, .u32] chans) (hcl : chans.length ≤ 1000000) (h0 : RowN [.i64, .i64, .i64] w w.heap.size aa win0) (h0w : wfR [.i64, .i64, .i64] win0) (h0l : win0.length ≤ 1000000) (h1 : RowN [.i64, .i64, .i64] w w.heap.size ba win1) (h1w : wfR [.i64, .i64, .i64] win1) (h1l : win1.length ≤ 1000000) (hB : w.cell? ⟨B, 0, none⟩ = some (.func (.func 28) #[] #[])) :
    Calls Try.prog 47 #[.agg #[.slice pa parts.length pc, .slice ca chans.length cc, .int .i64 len0, .slice aa win0.length ac, .int .i64 len1, .slice ba win1.length bc], .pointer (some ⟨B, 0, none⟩)] w fun e w' => e = .returned (.bool (holdsP (⟨parts, chans, len0, win0, len1, win1⟩ : Cfg) 5)) ∧ Below w.heap.size w w' := by
  have hBw : B < w.heap.size := by have := World.block_lt_of_cell? w _ hB; exact this
  have HX := Lib.hid (show holdsP (⟨parts, chans, len0, win0, len1, win1⟩ : Cfg) 5 = chans.any (chanBad parts.length 5) from chansB_any (⟨parts, chans, len0, win0, len1, win1⟩ : Cfg) 5)
  have hC := fun w' (h : Below w.heap.size w w') => contains7_b 28 (chanBad parts.length 5) (enters_of Try.func28 (by kernel_rfl) rfl) (fun x0 x1 x2 x3 x4 x5 x6 w => pred5_b x0 x1 x2 x3 x4 x5 x6 w) chans ca cc w' (hc.later h) hcw hcl
  rw [HX.out]
  generalize chans.any (chanBad parts.length 5) = q at hC
  clear HX hp hc h0 h1
  go_enter Try.func47, Try.ntmps47
  go_wp2_with (go_at_call 48; refine (hC _ ((Below.refl _ _).alloc (Nat.le_refl _) _)).mono ?_; rintro e w' ⟨rfl, hb'⟩)
  go_ret
  exact ⟨rfl, ((Below.refl _ _).alloc (Nat.le_refl _) _).trans (hb'.mono (by simp))⟩

set_option maxHeartbeats 800000 in
theorem row7_b (parts chans : List (List Int)) (len0 : Int) (win0 : List (List Int)) (len1 : Int) (win1 : List (List Int)) (pa : Option Addr) (pc : Nat) (ca : Option Addr) (cc : Nat) (aa : Option Addr) (ac : Nat) (ba : Option Addr) (bc : Nat) (B : Nat) (w : World) (hp : RowN [.i64, .i64] w w.heap.size pa parts) (hpw : wfR [.i64, .i64] parts) (hpl : parts.length ≤ 1000000) (hc : RowN [.i64, .i64, .i64, .i64, .i64, .i64, .u32] w w.heap.size ca chans) (hcw : wfR [.i64, .i64, .i64, .i64, .i64, .i64, .u32] chans) (hcl : chans.length ≤ 1000000) (h0 : RowN [.i64, .i64, .i64] w w.heap.size aa win0) (h0w : wfR [.i64, .i64, .i64] win0) (h0l : win0.length ≤ 1000000) (h1 : RowN [.i64, .i64, .i64] w w.heap.size ba win1) (h1w : wfR [.i64, .i64, .i64] win1) (h1l : win1.length ≤ 1000000) (hB : w.cell? ⟨B, 0, none⟩ = some (.func (.func 30) #[] #[])) :
    Calls Try.prog 47 #[.agg #[.slice pa parts.length pc, .slice ca chans.length cc, .int .i64 len0, .slice aa win0.length ac, .int .i64 len1, .slice ba win1.length bc], .pointer (some ⟨B, 0, none⟩)] w fun e w' => e = .returned (.bool (holdsP (⟨parts, chans, len0, win0, len1, win1⟩ : Cfg) 7)) ∧ Below w.heap.size w w' := by
  have hBw : B < w.heap.size := by have := World.block_lt_of_cell? w _ hB; exact this
  have HX := Lib.hid (show holdsP (⟨parts, chans, len0, win0, len1, win1⟩ : Cfg) 7 = chans.any (chanBad parts.length 7) from chansB_any (⟨parts, chans, len0, win0, len1, win1⟩ : Cfg) 7)
  have hC := fun w' (h : Below w.heap.size w w') => contains7_b 30 (chanBad parts.length 7) (enters_of Try.func30 (by kernel_rfl) rfl) (fun x0 x1 x2 x3 x4 x5 x6 w => pred7_b x0 x1 x2 x3 x4 x5 x6 w) chans ca cc w' (hc.later h) hcw hcl
  rw [HX.out]
  generalize chans.any (chanBad parts.length 7) = q at hC
  clear HX hp hc h0 h1
  go_enter Try.func47, Try.ntmps47
  go_wp2_with (go_at_call 48; refine (hC _ ((Below.refl _ _).alloc (Nat.le_refl _) _)).mono ?_; rintro e w' ⟨rfl, hb'⟩)
  go_ret
  exact ⟨rfl, ((Below.refl _ _).alloc (Nat.le_refl _) _).trans (hb'.mono (by simp))⟩

set_option maxHeartbeats 800000 in
theorem row8_b (parts chans : List (List Int)) (len0 : Int) (win0 : List (List Int)) (len1 : Int) (win1 : List (List Int)) (pa : Option Addr) (pc : Nat) (ca : Option Addr) (cc : Nat) (aa : Option Addr) (ac : Nat) (ba : Option Addr) (bc : Nat) (B : Nat) (w : World) (hp : RowN [.i64, .i64] w w.heap.size pa parts) (hpw : wfR [.i64, .i64] parts) (hpl : parts.length ≤ 1000000) (hc : RowN [.i64, .i64, .i64, .i64, .i64, .i64, .u32] w w.heap.size ca chans) (hcw : wfR [.i64, .i64, .i64, .i64, .i64, .i64, .u32] chans) (hcl : chans.length ≤ 1000000) (h0 : RowN [.i64, .i64, .i64] w w.heap.size aa win0) (h0w : wfR [.i64, .i64, .i64] win0) (h0l : win0.length ≤ 1000000) (h1 : RowN [.i64, .i64, .i64] w w.heap.size ba win1) (h1w : wfR [.i64, .i64, .i64] win1) (h1l : win1.length ≤ 1000000) (hB : w.cell? ⟨B, 0, none⟩ = some (.func (.func 31) #[] #[])) :
    Calls Try.prog 47 #[.agg #[.slice pa parts.length pc, .slice ca chans.length cc, .int .i64 len0, .slice aa win0.length ac, .int .i64 len1, .slice ba win1.length bc], .pointer (some ⟨B, 0, none⟩)] w fun e w' => e = .returned (.bool (holdsP (⟨parts, chans, len0, win0, len1, win1⟩ : Cfg) 8)) ∧ Below w.heap.size w w' := by
  have hBw : B < w.heap.size := by have := World.block_lt_of_cell? w _ hB; exact this
  have HX := Lib.hid (show holdsP (⟨parts, chans, len0, win0, len1, win1⟩ : Cfg) 8 = chans.any (chanBad parts.length 8) from chansB_any (⟨parts, chans, len0, win0, len1, win1⟩ : Cfg) 8)
  have hC := fun w' (h : Below w.heap.size w w') => contains7_b 31 (chanBad parts.length 8) (enters_of Try.func31 (by kernel_rfl) rfl) (fun x0 x1 x2 x3 x4 x5 x6 w => pred8_b x0 x1 x2 x3 x4 x5 x6 w) chans ca cc w' (hc.later h) hcw hcl
  rw [HX.out]
  generalize chans.any (chanBad parts.length 8) = q at hC
  clear HX hp hc h0 h1
  go_enter Try.func47, Try.ntmps47
  go_wp2_with (go_at_call 48; refine (hC _ ((Below.refl _ _).alloc (Nat.le_refl _) _)).mono ?_; rintro e w' ⟨rfl, hb'⟩)
  go_ret
  exact ⟨rfl, ((Below.refl _ _).alloc (Nat.le_refl _) _).trans (hb'.mono (by simp))⟩

set_option maxHeartbeats 800000 in
theorem row9_b (parts chans : List (List Int)) (len0 : Int) (win0 : List (List Int)) (len1 : Int) (win1 : List (List Int)) (pa : Option Addr) (pc : Nat) (ca : Option Addr) (cc : Nat) (aa : Option Addr) (ac : Nat) (ba : Option Addr) (bc : Nat) (B : Nat) (w : World) (hp : RowN [.i64, .i64] w w.heap.size pa parts) (hpw : wfR [.i64, .i64] parts) (hpl : parts.length ≤ 1000000) (hc : RowN [.i64, .i64, .i64, .i64, .i64, .i64, .u32] w w.heap.size ca chans) (hcw : wfR [.i64, .i64, .i64, .i64, .i64, .i64, .u32] chans) (hcl : chans.length ≤ 1000000) (h0 : RowN [.i64, .i64, .i64] w w.heap.size aa win0) (h0w : wfR [.i64, .i64, .i64] win0) (h0l : win0.length ≤ 1000000) (h1 : RowN [.i64, .i64, .i64] w w.heap.size ba win1) (h1w : wfR [.i64, .i64, .i64] win1) (h1l : win1.length ≤ 1000000) (hB : w.cell? ⟨B, 0, none⟩ = some (.func (.func 32) #[] #[])) :
    Calls Try.prog 47 #[.agg #[.slice pa parts.length pc, .slice ca chans.length cc, .int .i64 len0, .slice aa win0.length ac, .int .i64 len1, .slice ba win1.length bc], .pointer (some ⟨B, 0, none⟩)] w fun e w' => e = .returned (.bool (holdsP (⟨parts, chans, len0, win0, len1, win1⟩ : Cfg) 9)) ∧ Below w.heap.size w w' := by
  have hBw : B < w.heap.size := by have := World.block_lt_of_cell? w _ hB; exact this
  have HX := Lib.hid (show holdsP (⟨parts, chans, len0, win0, len1, win1⟩ : Cfg) 9 = chans.any (chanBad parts.length 9) from chansB_any (⟨parts, chans, len0, win0, len1, win1⟩ : Cfg) 9)
  have hC := fun w' (h : Below w.heap.size w w') => contains7_b 32 (chanBad parts.length 9) (enters_of Try.func32 (by kernel_rfl) rfl) (fun x0 x1 x2 x3 x4 x5 x6 w => pred9_b x0 x1 x2 x3 x4 x5 x6 w) chans ca cc w' (hc.later h) hcw hcl
  rw [HX.out]
  generalize chans.any (chanBad parts.length 9) = q at hC
  clear HX hp hc h0 h1
  go_enter Try.func47, Try.ntmps47
  go_wp2_with (go_at_call 48; refine (hC _ ((Below.refl _ _).alloc (Nat.le_refl _) _)).mono ?_; rintro e w' ⟨rfl, hb'⟩)
  go_ret
  exact ⟨rfl, ((Below.refl _ _).alloc (Nat.le_refl _) _).trans (hb'.mono (by simp))⟩

set_option maxHeartbeats 800000 in
theorem row10_b (parts chans : List (List Int)) (len0 : Int) (win0 : List (List Int)) (len1 : Int) (win1 : List (List Int)) (pa : Option Addr) (pc : Nat) (ca : Option Addr) (cc : Nat) (aa : Option Addr) (ac : Nat) (ba : Option Addr) (bc : Nat) (B : Nat) (w : World) (hp : RowN [.i64, .i64] w w.heap.size pa parts) (hpw : wfR [.i64, .i64] parts) (hpl : parts.length ≤ 1000000) (hc : RowN [.i64, .i64, .i64, .i64, .i64, .i64, .u32] w w.heap.size ca chans) (hcw : wfR [.i64, .i64, .i64, .i64, .i64, .i64, .u32] chans) (hcl : chans.length ≤ 1000000) (h0 : RowN [.i64, .i64, .i64] w w.heap.size aa win0) (h0w : wfR [.i64, .i64, .i64] win0) (h0l : win0.length ≤ 1000000) (h1 : RowN [.i64, .i64, .i64] w w.heap.size ba win1) (h1w : wfR [.i64, .i64, .i64] win1) (h1l : win1.length ≤ 1000000) (hB : w.cell? ⟨B, 0, none⟩ = some (.func (.func 33) #[] #[])) :
    Calls Try.prog 47 #[.agg #[.slice pa parts.length pc, .slice ca chans.length cc, .int .i64 len0, .slice aa win0.length ac, .int .i64 len1, .slice ba win1.length bc], .pointer (some ⟨B, 0, none⟩)] w fun e w' => e = .returned (.bool (holdsP (⟨parts, chans, len0, win0, len1, win1⟩ : Cfg) 10)) ∧ Below w.heap.size w w' := by
  have hBw : B < w.heap.size := by have := World.block_lt_of_cell? w _ hB; exact this
  have HX := Lib.hid (show holdsP (⟨parts, chans, len0, win0, len1, win1⟩ : Cfg) 10 = chans.any (chanBad parts.length 10) from chansB_any (⟨parts, chans, len0, win0, len1, win1⟩ : Cfg) 10)
  have hC := fun w' (h : Below w.heap.size w w') => contains7_b 33 (chanBad parts.length 10) (enters_of Try.func33 (by kernel_rfl) rfl) (fun x0 x1 x2 x3 x4 x5 x6 w => pred10_b x0 x1 x2 x3 x4 x5 x6 w) chans ca cc w' (hc.later h) hcw hcl
  rw [HX.out]
  generalize chans.any (chanBad parts.length 10) = q at hC
  clear HX hp hc h0 h1
  go_enter Try.func47, Try.ntmps47
  go_wp2_with (go_at_call 48; refine (hC _ ((Below.refl _ _).alloc (Nat.le_refl _) _)).mono ?_; rintro e w' ⟨rfl, hb'⟩)
  go_ret
  exact ⟨rfl, ((Below.refl _ _).alloc (Nat.le_refl _) _).trans (hb'.mono (by simp))⟩

set_option maxHeartbeats 800000 in
theorem row11_b (parts chans : List (List Int)) (len0 : Int) (win0 : List (List Int)) (len1 : Int) (win1 : List (List Int)) (pa : Option Addr) (pc : Nat) (ca : Option Addr) (cc : Nat) (aa : Option Addr) (ac : Nat) (ba : Option Addr) (bc : Nat) (B : Nat) (w : World) (hp : RowN [.i64, .i64] w w.heap.size pa parts) (hpw : wfR [.i64, .i64] parts) (hpl : parts.length ≤ 1000000) (hc : RowN [.i64, .i64, .i64, .i64, .i64, .i64, .u32] w w.heap.size ca chans) (hcw : wfR [.i64, .i64, .i64, .i64, .i64, .i64, .u32] chans) (hcl : chans.length ≤ 1000000) (h0 : RowN [.i64, .i64, .i64] w w.heap.size aa win0) (h0w : wfR [.i64, .i64, .i64] win0) (h0l : win0.length ≤ 1000000) (h1 : RowN [.i64, .i64, .i64] w w.heap.size ba win1) (h1w : wfR [.i64, .i64, .i64] win1) (h1l : win1.length ≤ 1000000) (hB : w.cell? ⟨B, 0, none⟩ = some (.func (.func 34) #[] #[])) :
    Calls Try.prog 47 #[.agg #[.slice pa parts.length pc, .slice ca chans.length cc, .int .i64 len0, .slice aa win0.length ac, .int .i64 len1, .slice ba win1.length bc], .pointer (some ⟨B, 0, none⟩)] w fun e w' => e = .returned (.bool (holdsP (⟨parts, chans, len0, win0, len1, win1⟩ : Cfg) 11)) ∧ Below w.heap.size w w' := by
  have hBw : B < w.heap.size := by have := World.block_lt_of_cell? w _ hB; exact this
  have HX := Lib.hid (show holdsP (⟨parts, chans, len0, win0, len1, win1⟩ : Cfg) 11 = chans.any (chanBad parts.length 11) from chansB_any (⟨parts, chans, len0, win0, len1, win1⟩ : Cfg) 11)
  have hC := fun w' (h : Below w.heap.size w w') => contains7_b 34 (chanBad parts.length 11) (enters_of Try.func34 (by kernel_rfl) rfl) (fun x0 x1 x2 x3 x4 x5 x6 w => pred11_b x0 x1 x2 x3 x4 x5 x6 w) chans ca cc w' (hc.later h) hcw hcl
  rw [HX.out]
  generalize chans.any (chanBad parts.length 11) = q at hC
  clear HX hp hc h0 h1
  go_enter Try.func47, Try.ntmps47
  go_wp2_with (go_at_call 48; refine (hC _ ((Below.refl _ _).alloc (Nat.le_refl _) _)).mono ?_; rintro e w' ⟨rfl, hb'⟩)
  go_ret
  exact ⟨rfl, ((Below.refl _ _).alloc (Nat.le_refl _) _).trans (hb'.mono (by simp))⟩
end Go.Proofs.Ytogffilanioejaa
