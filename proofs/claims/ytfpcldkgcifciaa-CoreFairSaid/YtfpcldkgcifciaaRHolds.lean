/- The document's Holds, at each defect, as a contract. No condition but those in the statements. -/
import Derived.Test.YtfpcldkgcifciaaRWn
import Derived.Test.YtfpcldkgcifciaaRC5
import Derived.Test.YtfpcldkgcifciaaRC6
import Derived.Test.YtfpcldkgcifciaaRC7
import Derived.Test.YtfpcldkgcifciaaRC8
import Derived.Test.YtfpcldkgcifciaaRC9
import Derived.Test.YtfpcldkgcifciaaRC10
import Derived.Test.YtfpcldkgcifciaaRC11
import Derived.Test.YtfpcldkgcifciaaRW12
import Derived.Test.YtfpcldkgcifciaaRW14
import Derived.Test.YtfpcldkgcifciaaRW15
import Derived.Test.YtfpcldkgcifciaaRW15b
import Derived.Test.YtfpcldkgcifciaaRW16
import Derived.BigQuiet
namespace Go.Proofs.Ytfpcldkgcifciaa
open Go.RowKit Go.Sort Go.ChangeShapes Go.WideShapes
set_option linter.unusedVariables false
set_option linter.unusedSimpArgs false

theorem window_is (parts chans : List (List Int)) (len0 : Int) (win0 : List (List Int)) (len1 : Int) (win1 : List (List Int)) (pa : Option Addr) (pc : Nat) (ca : Option Addr) (cc : Nat) (aa : Option Addr) (ac : Nat) (ba : Option Addr) (bc : Nat) (p : Nat) (b : Bool) (w : World) (hp : RowN [.i64, .i64] w w.heap.size pa parts) (hpw : wfR [.i64, .i64] parts) (hpl : parts.length ≤ 1000000) (hc : RowN [.i64, .i64, .i64, .i64, .i64, .i64, .u32] w w.heap.size ca chans) (hcw : wfR [.i64, .i64, .i64, .i64, .i64, .i64, .u32] chans) (hcl : chans.length ≤ 1000000) (h0 : RowN [.i64, .i64, .i64] w w.heap.size aa win0) (h0w : wfR [.i64, .i64, .i64] win0) (h0l : win0.length ≤ 1000000) (h1 : RowN [.i64, .i64, .i64] w w.heap.size ba win1) (h1w : wfR [.i64, .i64, .i64] win1) (h1l : win1.length ≤ 1000000) (hpl' : p < parts.length) (h : windowB (⟨parts, chans, len0, win0, len1, win1⟩ : Cfg) p = b) : Calls Try.prog 29 #[.agg #[.slice pa parts.length pc, .slice ca chans.length cc, .int .i64 len0, .slice aa win0.length ac, .int .i64 len1, .slice ba win1.length bc], .int .i64 (p : Int)] w fun e w' => e = .returned (.bool b) ∧ Below w.heap.size w w' := by subst h; exact rwindow parts chans len0 win0 len1 win1 pa pc ca cc aa ac ba bc p w hp hpw hpl hc hcw hcl h0 h0w h0l h1 h1w h1l hpl'

set_option maxRecDepth 100000 in
set_option maxHeartbeats 8000000 in
theorem rholds1 (parts chans : List (List Int)) (len0 : Int) (win0 : List (List Int)) (len1 : Int) (win1 : List (List Int)) (pa : Option Addr) (pc : Nat) (ca : Option Addr) (cc : Nat) (aa : Option Addr) (ac : Nat) (ba : Option Addr) (bc : Nat) (w : World) (hp : RowN [.i64, .i64] w w.heap.size pa parts) (hpw : wfR [.i64, .i64] parts) (hpl : parts.length ≤ 1000000) (hc : RowN [.i64, .i64, .i64, .i64, .i64, .i64, .u32] w w.heap.size ca chans) (hcw : wfR [.i64, .i64, .i64, .i64, .i64, .i64, .u32] chans) (hcl : chans.length ≤ 1000000) (h0 : RowN [.i64, .i64, .i64] w w.heap.size aa win0) (h0w : wfR [.i64, .i64, .i64] win0) (h0l : win0.length ≤ 1000000) (h1 : RowN [.i64, .i64, .i64] w w.heap.size ba win1) (h1w : wfR [.i64, .i64, .i64] win1) (h1l : win1.length ≤ 1000000) (hl0 : (Lit.int .i64 len0).wf = true) (hl1 : (Lit.int .i64 len1).wf = true) : Calls Try.prog 23 #[.agg #[.slice pa parts.length pc, .slice ca chans.length cc, .int .i64 len0, .slice aa win0.length ac, .int .i64 len1, .slice ba win1.length bc], .int .i64 1] w fun e w' => e = .returned (.bool (holdsB (⟨parts, chans, len0, win0, len1, win1⟩ : Cfg) 1)) ∧ Below w.heap.size w w' := by
  by_cases h1 : (parts.length : Int) < 1
  · have HX := Lib.hid (show holdsB (⟨parts, chans, len0, win0, len1, win1⟩ : Cfg) 1 = true from (show decide (parts.length < 1 ∨ 6 < parts.length) = true from decide_eq_true (by omega)))
    go_enter Try.func23, Try.ntmps23
    go_wp2
    go_ret
    exact ⟨by rw [HX.out]; rfl, (Below.refl _ _).alloc (Nat.le_refl _) _⟩
  · have h1d : decide ((parts.length : Int) < 1) = false := decide_eq_false h1
    by_cases h2 : (6 : Int) < (parts.length : Int)
    · have HX := Lib.hid (show holdsB (⟨parts, chans, len0, win0, len1, win1⟩ : Cfg) 1 = true from (show decide (parts.length < 1 ∨ 6 < parts.length) = true from decide_eq_true (by omega)))
      go_enter Try.func23, Try.ntmps23
      go_wp2
      go_ret
      exact ⟨by rw [HX.out]; rfl, (Below.refl _ _).alloc (Nat.le_refl _) _⟩
    · have h2d : decide ((6 : Int) < (parts.length : Int)) = false := decide_eq_false h2
      have HX := Lib.hid (show holdsB (⟨parts, chans, len0, win0, len1, win1⟩ : Cfg) 1 = false from (show decide (parts.length < 1 ∨ 6 < parts.length) = false from decide_eq_false (by omega)))
      go_enter Try.func23, Try.ntmps23
      go_wp2
      go_ret
      exact ⟨by rw [HX.out]; rfl, (Below.refl _ _).alloc (Nat.le_refl _) _⟩

set_option maxRecDepth 100000 in
set_option maxHeartbeats 8000000 in
theorem rholds2 (parts chans : List (List Int)) (len0 : Int) (win0 : List (List Int)) (len1 : Int) (win1 : List (List Int)) (pa : Option Addr) (pc : Nat) (ca : Option Addr) (cc : Nat) (aa : Option Addr) (ac : Nat) (ba : Option Addr) (bc : Nat) (w : World) (hp : RowN [.i64, .i64] w w.heap.size pa parts) (hpw : wfR [.i64, .i64] parts) (hpl : parts.length ≤ 1000000) (hc : RowN [.i64, .i64, .i64, .i64, .i64, .i64, .u32] w w.heap.size ca chans) (hcw : wfR [.i64, .i64, .i64, .i64, .i64, .i64, .u32] chans) (hcl : chans.length ≤ 1000000) (h0 : RowN [.i64, .i64, .i64] w w.heap.size aa win0) (h0w : wfR [.i64, .i64, .i64] win0) (h0l : win0.length ≤ 1000000) (h1 : RowN [.i64, .i64, .i64] w w.heap.size ba win1) (h1w : wfR [.i64, .i64, .i64] win1) (h1l : win1.length ≤ 1000000) (hl0 : (Lit.int .i64 len0).wf = true) (hl1 : (Lit.int .i64 len1).wf = true) : Calls Try.prog 23 #[.agg #[.slice pa parts.length pc, .slice ca chans.length cc, .int .i64 len0, .slice aa win0.length ac, .int .i64 len1, .slice ba win1.length bc], .int .i64 2] w fun e w' => e = .returned (.bool (holdsB (⟨parts, chans, len0, win0, len1, win1⟩ : Cfg) 2)) ∧ Below w.heap.size w w' := by
  obtain ⟨W, HW, hB, -, bx⟩ := one_cbox w ⟨parts, chans, len0, win0, len1, win1⟩ ⟨pa, pc, ca, cc, aa, ac, ba, bc⟩ 29
  have HB := Lib.hid hB
  have hp := hp.later hB; have hc := hc.later hB; have h0 := h0.later hB; have h1 := h1.later hB
  clear hB
  go_enter Try.func23, Try.ntmps23
  go_wp2
  go_loopw [5] (fun ix wr => ∃ i : Nat, i ≤ parts.length ∧ ix = .int .i64 i ∧ scan i (fun i => partBad (⟨parts, chans, len0, win0, len1, win1⟩ : Cfg) 2 i) = false ∧ Below W.heap.size W wr) (fun ix _ => parts.length - (intOf ix).toNat)
  case atStart => exact ⟨0, Nat.zero_le _, rfl, rfl, (by rw [← HW.out]; exact Below.refl _ _)⟩
  case round =>
    obtain ⟨i, hi, rfl, ht, hbc⟩ := hrel
    have HT := Lib.hid ht
    obtain ⟨c0, c1, c2, c3, c4, c5⟩ := bx _ hbc
    clear ht
    by_cases hlt : i < parts.length
    · obtain ⟨b, o, y0, y1, e0, _, e1, ⟨hw0, hw1⟩, k0⟩ := hp.at2 hpw hlt
      subst e0
      have k0 := k0 _ hbc
      obtain ⟨p0, p1⟩ := k0
      have E1 := Lib.hid e1
      clear e1
      by_cases h1 : y0 = 0
      · have h1a : ((y0 : Int) == 0) = true := by simp [h1]
        have h1b : ((y0 : Int) != 0) = false := by simp [h1]
        have HX := Lib.hid (show scan (i + 1) (fun i => partBad (⟨parts, chans, len0, win0, len1, win1⟩ : Cfg) 2 i) = false from scan_next HT.out (show partBad (⟨parts, chans, len0, win0, len1, win1⟩ : Cfg) 2 i = false from (show decide (fld (row parts i) 0 ≠ 0 ∧ fld (row parts i) 0 ≠ 1) = false by rw [row_at E1.out]; exact (show decide (y0 ≠ 0 ∧ y0 ≠ 1) = false from decide_eq_false (by omega)))))
        go_wp2
        go_roundw
        case rel => exact ⟨i + 1, by omega, by go_num, HX.out, (hbc.alloc hbc.size _)⟩
        case measure => simp [intOf]; omega
      · have h1a : ((y0 : Int) == 0) = false := by simp [h1]
        have h1b : ((y0 : Int) != 0) = true := by simp [h1]
        by_cases h2 : y0 = 1
        · have h2a : ((y0 : Int) == 1) = true := by simp [h2]
          have h2b : ((y0 : Int) != 1) = false := by simp [h2]
          have HX := Lib.hid (show scan (i + 1) (fun i => partBad (⟨parts, chans, len0, win0, len1, win1⟩ : Cfg) 2 i) = false from scan_next HT.out (show partBad (⟨parts, chans, len0, win0, len1, win1⟩ : Cfg) 2 i = false from (show decide (fld (row parts i) 0 ≠ 0 ∧ fld (row parts i) 0 ≠ 1) = false by rw [row_at E1.out]; exact (show decide (y0 ≠ 0 ∧ y0 ≠ 1) = false from decide_eq_false (by omega)))))
          go_wp2
          go_roundw
          case rel => exact ⟨i + 1, by omega, by go_num, HX.out, (hbc.alloc hbc.size _)⟩
          case measure => simp [intOf]; omega
        · have h2a : ((y0 : Int) == 1) = false := by simp [h2]
          have h2b : ((y0 : Int) != 1) = true := by simp [h2]
          have HX := Lib.hid (show holdsB (⟨parts, chans, len0, win0, len1, win1⟩ : Cfg) 2 = true from scan_hit (f := (fun i => partBad (⟨parts, chans, len0, win0, len1, win1⟩ : Cfg) 2 i)) hlt (show partBad (⟨parts, chans, len0, win0, len1, win1⟩ : Cfg) 2 i = true from (show decide (fld (row parts i) 0 ≠ 0 ∧ fld (row parts i) 0 ≠ 1) = true by rw [row_at E1.out]; exact (show decide (y0 ≠ 0 ∧ y0 ≠ 1) = true from decide_eq_true (by omega)))))
          go_wp2
          go_ret
          exact ⟨by rw [HX.out]; rfl, HB.out.trans ((hbc.alloc hbc.size _).mono HB.out.size)⟩
    · have HS := Lib.hid (show holdsB (⟨parts, chans, len0, win0, len1, win1⟩ : Cfg) 2 = false by have h := HT.out; rw [show i = parts.length by omega] at h; exact h)
      clear HT
      go_wp2
      go_ret
      exact ⟨by rw [HS.out]; rfl, HB.out.trans (hbc.mono HB.out.size)⟩

set_option maxRecDepth 100000 in
set_option maxHeartbeats 8000000 in
theorem rholds3 (parts chans : List (List Int)) (len0 : Int) (win0 : List (List Int)) (len1 : Int) (win1 : List (List Int)) (pa : Option Addr) (pc : Nat) (ca : Option Addr) (cc : Nat) (aa : Option Addr) (ac : Nat) (ba : Option Addr) (bc : Nat) (w : World) (hp : RowN [.i64, .i64] w w.heap.size pa parts) (hpw : wfR [.i64, .i64] parts) (hpl : parts.length ≤ 1000000) (hc : RowN [.i64, .i64, .i64, .i64, .i64, .i64, .u32] w w.heap.size ca chans) (hcw : wfR [.i64, .i64, .i64, .i64, .i64, .i64, .u32] chans) (hcl : chans.length ≤ 1000000) (h0 : RowN [.i64, .i64, .i64] w w.heap.size aa win0) (h0w : wfR [.i64, .i64, .i64] win0) (h0l : win0.length ≤ 1000000) (h1 : RowN [.i64, .i64, .i64] w w.heap.size ba win1) (h1w : wfR [.i64, .i64, .i64] win1) (h1l : win1.length ≤ 1000000) (hl0 : (Lit.int .i64 len0).wf = true) (hl1 : (Lit.int .i64 len1).wf = true) : Calls Try.prog 23 #[.agg #[.slice pa parts.length pc, .slice ca chans.length cc, .int .i64 len0, .slice aa win0.length ac, .int .i64 len1, .slice ba win1.length bc], .int .i64 3] w fun e w' => e = .returned (.bool (holdsB (⟨parts, chans, len0, win0, len1, win1⟩ : Cfg) 3)) ∧ Below w.heap.size w w' := by
  obtain ⟨W, HW, hB, -, bx⟩ := one_cbox w ⟨parts, chans, len0, win0, len1, win1⟩ ⟨pa, pc, ca, cc, aa, ac, ba, bc⟩ 29
  have HB := Lib.hid hB
  have hp := hp.later hB; have hc := hc.later hB; have h0 := h0.later hB; have h1 := h1.later hB
  clear hB
  go_enter Try.func23, Try.ntmps23
  go_wp2
  go_loopw [5] (fun ix wr => ∃ i : Nat, i ≤ parts.length ∧ ix = .int .i64 i ∧ scan i (fun i => partBad (⟨parts, chans, len0, win0, len1, win1⟩ : Cfg) 3 i) = false ∧ Below W.heap.size W wr) (fun ix _ => parts.length - (intOf ix).toNat)
  case atStart => exact ⟨0, Nat.zero_le _, rfl, rfl, (by rw [← HW.out]; exact Below.refl _ _)⟩
  case round =>
    obtain ⟨i, hi, rfl, ht, hbc⟩ := hrel
    have HT := Lib.hid ht
    obtain ⟨c0, c1, c2, c3, c4, c5⟩ := bx _ hbc
    clear ht
    by_cases hlt : i < parts.length
    · obtain ⟨b, o, y0, y1, e0, _, e1, ⟨hw0, hw1⟩, k0⟩ := hp.at2 hpw hlt
      subst e0
      have k0 := k0 _ hbc
      obtain ⟨p0, p1⟩ := k0
      have E1 := Lib.hid e1
      clear e1
      by_cases h1 : y1 < 0
      · have HX := Lib.hid (show holdsB (⟨parts, chans, len0, win0, len1, win1⟩ : Cfg) 3 = true from scan_hit (f := (fun i => partBad (⟨parts, chans, len0, win0, len1, win1⟩ : Cfg) 3 i)) hlt (show partBad (⟨parts, chans, len0, win0, len1, win1⟩ : Cfg) 3 i = true from (show decide (fld (row parts i) 1 < 0 ∨ 64 < fld (row parts i) 1) = true by rw [row_at E1.out]; exact (show decide (y1 < 0 ∨ 64 < y1) = true from decide_eq_true (by omega)))))
        go_wp2
        go_ret
        exact ⟨by rw [HX.out]; rfl, HB.out.trans ((hbc.alloc hbc.size _).mono HB.out.size)⟩
      · have h1d : decide (y1 < 0) = false := decide_eq_false h1
        by_cases h2 : 64 < y1
        · have HX := Lib.hid (show holdsB (⟨parts, chans, len0, win0, len1, win1⟩ : Cfg) 3 = true from scan_hit (f := (fun i => partBad (⟨parts, chans, len0, win0, len1, win1⟩ : Cfg) 3 i)) hlt (show partBad (⟨parts, chans, len0, win0, len1, win1⟩ : Cfg) 3 i = true from (show decide (fld (row parts i) 1 < 0 ∨ 64 < fld (row parts i) 1) = true by rw [row_at E1.out]; exact (show decide (y1 < 0 ∨ 64 < y1) = true from decide_eq_true (by omega)))))
          go_wp2
          go_ret
          exact ⟨by rw [HX.out]; rfl, HB.out.trans ((hbc.alloc hbc.size _).mono HB.out.size)⟩
        · have h2d : decide (64 < y1) = false := decide_eq_false h2
          have HX := Lib.hid (show scan (i + 1) (fun i => partBad (⟨parts, chans, len0, win0, len1, win1⟩ : Cfg) 3 i) = false from scan_next HT.out (show partBad (⟨parts, chans, len0, win0, len1, win1⟩ : Cfg) 3 i = false from (show decide (fld (row parts i) 1 < 0 ∨ 64 < fld (row parts i) 1) = false by rw [row_at E1.out]; exact (show decide (y1 < 0 ∨ 64 < y1) = false from decide_eq_false (by omega)))))
          go_wp2
          go_roundw
          case rel => exact ⟨i + 1, by omega, by go_num, HX.out, (hbc.alloc hbc.size _)⟩
          case measure => simp [intOf]; omega
    · have HS := Lib.hid (show holdsB (⟨parts, chans, len0, win0, len1, win1⟩ : Cfg) 3 = false by have h := HT.out; rw [show i = parts.length by omega] at h; exact h)
      clear HT
      go_wp2
      go_ret
      exact ⟨by rw [HS.out]; rfl, HB.out.trans (hbc.mono HB.out.size)⟩

set_option maxRecDepth 100000 in
set_option maxHeartbeats 8000000 in
theorem rholds4 (parts chans : List (List Int)) (len0 : Int) (win0 : List (List Int)) (len1 : Int) (win1 : List (List Int)) (pa : Option Addr) (pc : Nat) (ca : Option Addr) (cc : Nat) (aa : Option Addr) (ac : Nat) (ba : Option Addr) (bc : Nat) (w : World) (hp : RowN [.i64, .i64] w w.heap.size pa parts) (hpw : wfR [.i64, .i64] parts) (hpl : parts.length ≤ 1000000) (hc : RowN [.i64, .i64, .i64, .i64, .i64, .i64, .u32] w w.heap.size ca chans) (hcw : wfR [.i64, .i64, .i64, .i64, .i64, .i64, .u32] chans) (hcl : chans.length ≤ 1000000) (h0 : RowN [.i64, .i64, .i64] w w.heap.size aa win0) (h0w : wfR [.i64, .i64, .i64] win0) (h0l : win0.length ≤ 1000000) (h1 : RowN [.i64, .i64, .i64] w w.heap.size ba win1) (h1w : wfR [.i64, .i64, .i64] win1) (h1l : win1.length ≤ 1000000) (hl0 : (Lit.int .i64 len0).wf = true) (hl1 : (Lit.int .i64 len1).wf = true) : Calls Try.prog 23 #[.agg #[.slice pa parts.length pc, .slice ca chans.length cc, .int .i64 len0, .slice aa win0.length ac, .int .i64 len1, .slice ba win1.length bc], .int .i64 4] w fun e w' => e = .returned (.bool (holdsB (⟨parts, chans, len0, win0, len1, win1⟩ : Cfg) 4)) ∧ Below w.heap.size w w' := by
  by_cases h1 : (8 : Int) < (chans.length : Int)
  · have HX := Lib.hid (show holdsB (⟨parts, chans, len0, win0, len1, win1⟩ : Cfg) 4 = true from (show decide (8 < chans.length) = true from decide_eq_true (by omega)))
    go_enter Try.func23, Try.ntmps23
    go_wp2
    go_ret
    exact ⟨by rw [HX.out]; rfl, (Below.refl _ _).alloc (Nat.le_refl _) _⟩
  · have h1d : decide ((8 : Int) < (chans.length : Int)) = false := decide_eq_false h1
    have HX := Lib.hid (show holdsB (⟨parts, chans, len0, win0, len1, win1⟩ : Cfg) 4 = false from (show decide (8 < chans.length) = false from decide_eq_false (by omega)))
    go_enter Try.func23, Try.ntmps23
    go_wp2
    go_ret
    exact ⟨by rw [HX.out]; rfl, (Below.refl _ _).alloc (Nat.le_refl _) _⟩

set_option maxRecDepth 100000 in
set_option maxHeartbeats 8000000 in
theorem rholds5 (parts chans : List (List Int)) (len0 : Int) (win0 : List (List Int)) (len1 : Int) (win1 : List (List Int)) (pa : Option Addr) (pc : Nat) (ca : Option Addr) (cc : Nat) (aa : Option Addr) (ac : Nat) (ba : Option Addr) (bc : Nat) (w : World) (hp : RowN [.i64, .i64] w w.heap.size pa parts) (hpw : wfR [.i64, .i64] parts) (hpl : parts.length ≤ 1000000) (hc : RowN [.i64, .i64, .i64, .i64, .i64, .i64, .u32] w w.heap.size ca chans) (hcw : wfR [.i64, .i64, .i64, .i64, .i64, .i64, .u32] chans) (hcl : chans.length ≤ 1000000) (h0 : RowN [.i64, .i64, .i64] w w.heap.size aa win0) (h0w : wfR [.i64, .i64, .i64] win0) (h0l : win0.length ≤ 1000000) (h1 : RowN [.i64, .i64, .i64] w w.heap.size ba win1) (h1w : wfR [.i64, .i64, .i64] win1) (h1l : win1.length ≤ 1000000) (hl0 : (Lit.int .i64 len0).wf = true) (hl1 : (Lit.int .i64 len1).wf = true) : Calls Try.prog 23 #[.agg #[.slice pa parts.length pc, .slice ca chans.length cc, .int .i64 len0, .slice aa win0.length ac, .int .i64 len1, .slice ba win1.length bc], .int .i64 5] w fun e w' => e = .returned (.bool (holdsB (⟨parts, chans, len0, win0, len1, win1⟩ : Cfg) 5)) ∧ Below w.heap.size w w' := by
  obtain ⟨W, HW, hB, -, bx⟩ := one_cbox w ⟨parts, chans, len0, win0, len1, win1⟩ ⟨pa, pc, ca, cc, aa, ac, ba, bc⟩ 29
  have HB := Lib.hid hB
  have hp := hp.later hB; have hc := hc.later hB; have h0 := h0.later hB; have h1 := h1.later hB
  clear hB
  go_enter Try.func23, Try.ntmps23
  go_wp2_with fail
  rw [← HW.out]
  refine (rchans5 parts chans len0 win0 len1 win1 pa pc ca cc aa ac ba bc _ hp hpw hpl hc hcw hcl h0 h0w h0l h1 h1w h1l).mono ?_
  rintro e w5 ⟨rfl, hb5⟩
  have HX := Lib.hid (show holdsB (⟨parts, chans, len0, win0, len1, win1⟩ : Cfg) 5 = chansB (⟨parts, chans, len0, win0, len1, win1⟩ : Cfg) 5 from rfl)
  go_wp2
  go_ret
  exact ⟨by rw [HX.out]; rfl, HB.out.trans (hb5.mono HB.out.size)⟩

set_option maxRecDepth 100000 in
set_option maxHeartbeats 8000000 in
theorem rholds6 (parts chans : List (List Int)) (len0 : Int) (win0 : List (List Int)) (len1 : Int) (win1 : List (List Int)) (pa : Option Addr) (pc : Nat) (ca : Option Addr) (cc : Nat) (aa : Option Addr) (ac : Nat) (ba : Option Addr) (bc : Nat) (w : World) (hp : RowN [.i64, .i64] w w.heap.size pa parts) (hpw : wfR [.i64, .i64] parts) (hpl : parts.length ≤ 1000000) (hc : RowN [.i64, .i64, .i64, .i64, .i64, .i64, .u32] w w.heap.size ca chans) (hcw : wfR [.i64, .i64, .i64, .i64, .i64, .i64, .u32] chans) (hcl : chans.length ≤ 1000000) (h0 : RowN [.i64, .i64, .i64] w w.heap.size aa win0) (h0w : wfR [.i64, .i64, .i64] win0) (h0l : win0.length ≤ 1000000) (h1 : RowN [.i64, .i64, .i64] w w.heap.size ba win1) (h1w : wfR [.i64, .i64, .i64] win1) (h1l : win1.length ≤ 1000000) (hl0 : (Lit.int .i64 len0).wf = true) (hl1 : (Lit.int .i64 len1).wf = true) : Calls Try.prog 23 #[.agg #[.slice pa parts.length pc, .slice ca chans.length cc, .int .i64 len0, .slice aa win0.length ac, .int .i64 len1, .slice ba win1.length bc], .int .i64 6] w fun e w' => e = .returned (.bool (holdsB (⟨parts, chans, len0, win0, len1, win1⟩ : Cfg) 6)) ∧ Below w.heap.size w w' := by
  obtain ⟨W, HW, hB, -, bx⟩ := one_cbox w ⟨parts, chans, len0, win0, len1, win1⟩ ⟨pa, pc, ca, cc, aa, ac, ba, bc⟩ 29
  have HB := Lib.hid hB
  have hp := hp.later hB; have hc := hc.later hB; have h0 := h0.later hB; have h1 := h1.later hB
  clear hB
  go_enter Try.func23, Try.ntmps23
  go_wp2_with fail
  rw [← HW.out]
  refine (rchans6 parts chans len0 win0 len1 win1 pa pc ca cc aa ac ba bc _ hp hpw hpl hc hcw hcl h0 h0w h0l h1 h1w h1l).mono ?_
  rintro e w5 ⟨rfl, hb5⟩
  have HX := Lib.hid (show holdsB (⟨parts, chans, len0, win0, len1, win1⟩ : Cfg) 6 = chansB (⟨parts, chans, len0, win0, len1, win1⟩ : Cfg) 6 from rfl)
  go_wp2
  go_ret
  exact ⟨by rw [HX.out]; rfl, HB.out.trans (hb5.mono HB.out.size)⟩

set_option maxRecDepth 100000 in
set_option maxHeartbeats 8000000 in
theorem rholds7 (parts chans : List (List Int)) (len0 : Int) (win0 : List (List Int)) (len1 : Int) (win1 : List (List Int)) (pa : Option Addr) (pc : Nat) (ca : Option Addr) (cc : Nat) (aa : Option Addr) (ac : Nat) (ba : Option Addr) (bc : Nat) (w : World) (hp : RowN [.i64, .i64] w w.heap.size pa parts) (hpw : wfR [.i64, .i64] parts) (hpl : parts.length ≤ 1000000) (hc : RowN [.i64, .i64, .i64, .i64, .i64, .i64, .u32] w w.heap.size ca chans) (hcw : wfR [.i64, .i64, .i64, .i64, .i64, .i64, .u32] chans) (hcl : chans.length ≤ 1000000) (h0 : RowN [.i64, .i64, .i64] w w.heap.size aa win0) (h0w : wfR [.i64, .i64, .i64] win0) (h0l : win0.length ≤ 1000000) (h1 : RowN [.i64, .i64, .i64] w w.heap.size ba win1) (h1w : wfR [.i64, .i64, .i64] win1) (h1l : win1.length ≤ 1000000) (hl0 : (Lit.int .i64 len0).wf = true) (hl1 : (Lit.int .i64 len1).wf = true) : Calls Try.prog 23 #[.agg #[.slice pa parts.length pc, .slice ca chans.length cc, .int .i64 len0, .slice aa win0.length ac, .int .i64 len1, .slice ba win1.length bc], .int .i64 7] w fun e w' => e = .returned (.bool (holdsB (⟨parts, chans, len0, win0, len1, win1⟩ : Cfg) 7)) ∧ Below w.heap.size w w' := by
  obtain ⟨W, HW, hB, -, bx⟩ := one_cbox w ⟨parts, chans, len0, win0, len1, win1⟩ ⟨pa, pc, ca, cc, aa, ac, ba, bc⟩ 29
  have HB := Lib.hid hB
  have hp := hp.later hB; have hc := hc.later hB; have h0 := h0.later hB; have h1 := h1.later hB
  clear hB
  go_enter Try.func23, Try.ntmps23
  go_wp2_with fail
  rw [← HW.out]
  refine (rchans7 parts chans len0 win0 len1 win1 pa pc ca cc aa ac ba bc _ hp hpw hpl hc hcw hcl h0 h0w h0l h1 h1w h1l).mono ?_
  rintro e w5 ⟨rfl, hb5⟩
  have HX := Lib.hid (show holdsB (⟨parts, chans, len0, win0, len1, win1⟩ : Cfg) 7 = chansB (⟨parts, chans, len0, win0, len1, win1⟩ : Cfg) 7 from rfl)
  go_wp2
  go_ret
  exact ⟨by rw [HX.out]; rfl, HB.out.trans (hb5.mono HB.out.size)⟩

set_option maxRecDepth 100000 in
set_option maxHeartbeats 8000000 in
theorem rholds8 (parts chans : List (List Int)) (len0 : Int) (win0 : List (List Int)) (len1 : Int) (win1 : List (List Int)) (pa : Option Addr) (pc : Nat) (ca : Option Addr) (cc : Nat) (aa : Option Addr) (ac : Nat) (ba : Option Addr) (bc : Nat) (w : World) (hp : RowN [.i64, .i64] w w.heap.size pa parts) (hpw : wfR [.i64, .i64] parts) (hpl : parts.length ≤ 1000000) (hc : RowN [.i64, .i64, .i64, .i64, .i64, .i64, .u32] w w.heap.size ca chans) (hcw : wfR [.i64, .i64, .i64, .i64, .i64, .i64, .u32] chans) (hcl : chans.length ≤ 1000000) (h0 : RowN [.i64, .i64, .i64] w w.heap.size aa win0) (h0w : wfR [.i64, .i64, .i64] win0) (h0l : win0.length ≤ 1000000) (h1 : RowN [.i64, .i64, .i64] w w.heap.size ba win1) (h1w : wfR [.i64, .i64, .i64] win1) (h1l : win1.length ≤ 1000000) (hl0 : (Lit.int .i64 len0).wf = true) (hl1 : (Lit.int .i64 len1).wf = true) : Calls Try.prog 23 #[.agg #[.slice pa parts.length pc, .slice ca chans.length cc, .int .i64 len0, .slice aa win0.length ac, .int .i64 len1, .slice ba win1.length bc], .int .i64 8] w fun e w' => e = .returned (.bool (holdsB (⟨parts, chans, len0, win0, len1, win1⟩ : Cfg) 8)) ∧ Below w.heap.size w w' := by
  obtain ⟨W, HW, hB, -, bx⟩ := one_cbox w ⟨parts, chans, len0, win0, len1, win1⟩ ⟨pa, pc, ca, cc, aa, ac, ba, bc⟩ 29
  have HB := Lib.hid hB
  have hp := hp.later hB; have hc := hc.later hB; have h0 := h0.later hB; have h1 := h1.later hB
  clear hB
  go_enter Try.func23, Try.ntmps23
  go_wp2_with fail
  rw [← HW.out]
  refine (rchans8 parts chans len0 win0 len1 win1 pa pc ca cc aa ac ba bc _ hp hpw hpl hc hcw hcl h0 h0w h0l h1 h1w h1l).mono ?_
  rintro e w5 ⟨rfl, hb5⟩
  have HX := Lib.hid (show holdsB (⟨parts, chans, len0, win0, len1, win1⟩ : Cfg) 8 = chansB (⟨parts, chans, len0, win0, len1, win1⟩ : Cfg) 8 from rfl)
  go_wp2
  go_ret
  exact ⟨by rw [HX.out]; rfl, HB.out.trans (hb5.mono HB.out.size)⟩

set_option maxRecDepth 100000 in
set_option maxHeartbeats 8000000 in
theorem rholds9 (parts chans : List (List Int)) (len0 : Int) (win0 : List (List Int)) (len1 : Int) (win1 : List (List Int)) (pa : Option Addr) (pc : Nat) (ca : Option Addr) (cc : Nat) (aa : Option Addr) (ac : Nat) (ba : Option Addr) (bc : Nat) (w : World) (hp : RowN [.i64, .i64] w w.heap.size pa parts) (hpw : wfR [.i64, .i64] parts) (hpl : parts.length ≤ 1000000) (hc : RowN [.i64, .i64, .i64, .i64, .i64, .i64, .u32] w w.heap.size ca chans) (hcw : wfR [.i64, .i64, .i64, .i64, .i64, .i64, .u32] chans) (hcl : chans.length ≤ 1000000) (h0 : RowN [.i64, .i64, .i64] w w.heap.size aa win0) (h0w : wfR [.i64, .i64, .i64] win0) (h0l : win0.length ≤ 1000000) (h1 : RowN [.i64, .i64, .i64] w w.heap.size ba win1) (h1w : wfR [.i64, .i64, .i64] win1) (h1l : win1.length ≤ 1000000) (hl0 : (Lit.int .i64 len0).wf = true) (hl1 : (Lit.int .i64 len1).wf = true) : Calls Try.prog 23 #[.agg #[.slice pa parts.length pc, .slice ca chans.length cc, .int .i64 len0, .slice aa win0.length ac, .int .i64 len1, .slice ba win1.length bc], .int .i64 9] w fun e w' => e = .returned (.bool (holdsB (⟨parts, chans, len0, win0, len1, win1⟩ : Cfg) 9)) ∧ Below w.heap.size w w' := by
  obtain ⟨W, HW, hB, -, bx⟩ := one_cbox w ⟨parts, chans, len0, win0, len1, win1⟩ ⟨pa, pc, ca, cc, aa, ac, ba, bc⟩ 29
  have HB := Lib.hid hB
  have hp := hp.later hB; have hc := hc.later hB; have h0 := h0.later hB; have h1 := h1.later hB
  clear hB
  go_enter Try.func23, Try.ntmps23
  go_wp2_with fail
  rw [← HW.out]
  refine (rchans9 parts chans len0 win0 len1 win1 pa pc ca cc aa ac ba bc _ hp hpw hpl hc hcw hcl h0 h0w h0l h1 h1w h1l).mono ?_
  rintro e w5 ⟨rfl, hb5⟩
  have HX := Lib.hid (show holdsB (⟨parts, chans, len0, win0, len1, win1⟩ : Cfg) 9 = chansB (⟨parts, chans, len0, win0, len1, win1⟩ : Cfg) 9 from rfl)
  go_wp2
  go_ret
  exact ⟨by rw [HX.out]; rfl, HB.out.trans (hb5.mono HB.out.size)⟩

set_option maxRecDepth 100000 in
set_option maxHeartbeats 8000000 in
theorem rholds10 (parts chans : List (List Int)) (len0 : Int) (win0 : List (List Int)) (len1 : Int) (win1 : List (List Int)) (pa : Option Addr) (pc : Nat) (ca : Option Addr) (cc : Nat) (aa : Option Addr) (ac : Nat) (ba : Option Addr) (bc : Nat) (w : World) (hp : RowN [.i64, .i64] w w.heap.size pa parts) (hpw : wfR [.i64, .i64] parts) (hpl : parts.length ≤ 1000000) (hc : RowN [.i64, .i64, .i64, .i64, .i64, .i64, .u32] w w.heap.size ca chans) (hcw : wfR [.i64, .i64, .i64, .i64, .i64, .i64, .u32] chans) (hcl : chans.length ≤ 1000000) (h0 : RowN [.i64, .i64, .i64] w w.heap.size aa win0) (h0w : wfR [.i64, .i64, .i64] win0) (h0l : win0.length ≤ 1000000) (h1 : RowN [.i64, .i64, .i64] w w.heap.size ba win1) (h1w : wfR [.i64, .i64, .i64] win1) (h1l : win1.length ≤ 1000000) (hl0 : (Lit.int .i64 len0).wf = true) (hl1 : (Lit.int .i64 len1).wf = true) : Calls Try.prog 23 #[.agg #[.slice pa parts.length pc, .slice ca chans.length cc, .int .i64 len0, .slice aa win0.length ac, .int .i64 len1, .slice ba win1.length bc], .int .i64 10] w fun e w' => e = .returned (.bool (holdsB (⟨parts, chans, len0, win0, len1, win1⟩ : Cfg) 10)) ∧ Below w.heap.size w w' := by
  obtain ⟨W, HW, hB, -, bx⟩ := one_cbox w ⟨parts, chans, len0, win0, len1, win1⟩ ⟨pa, pc, ca, cc, aa, ac, ba, bc⟩ 29
  have HB := Lib.hid hB
  have hp := hp.later hB; have hc := hc.later hB; have h0 := h0.later hB; have h1 := h1.later hB
  clear hB
  go_enter Try.func23, Try.ntmps23
  go_wp2_with fail
  rw [← HW.out]
  refine (rchans10 parts chans len0 win0 len1 win1 pa pc ca cc aa ac ba bc _ hp hpw hpl hc hcw hcl h0 h0w h0l h1 h1w h1l).mono ?_
  rintro e w5 ⟨rfl, hb5⟩
  have HX := Lib.hid (show holdsB (⟨parts, chans, len0, win0, len1, win1⟩ : Cfg) 10 = chansB (⟨parts, chans, len0, win0, len1, win1⟩ : Cfg) 10 from rfl)
  go_wp2
  go_ret
  exact ⟨by rw [HX.out]; rfl, HB.out.trans (hb5.mono HB.out.size)⟩

set_option maxRecDepth 100000 in
set_option maxHeartbeats 8000000 in
theorem rholds11 (parts chans : List (List Int)) (len0 : Int) (win0 : List (List Int)) (len1 : Int) (win1 : List (List Int)) (pa : Option Addr) (pc : Nat) (ca : Option Addr) (cc : Nat) (aa : Option Addr) (ac : Nat) (ba : Option Addr) (bc : Nat) (w : World) (hp : RowN [.i64, .i64] w w.heap.size pa parts) (hpw : wfR [.i64, .i64] parts) (hpl : parts.length ≤ 1000000) (hc : RowN [.i64, .i64, .i64, .i64, .i64, .i64, .u32] w w.heap.size ca chans) (hcw : wfR [.i64, .i64, .i64, .i64, .i64, .i64, .u32] chans) (hcl : chans.length ≤ 1000000) (h0 : RowN [.i64, .i64, .i64] w w.heap.size aa win0) (h0w : wfR [.i64, .i64, .i64] win0) (h0l : win0.length ≤ 1000000) (h1 : RowN [.i64, .i64, .i64] w w.heap.size ba win1) (h1w : wfR [.i64, .i64, .i64] win1) (h1l : win1.length ≤ 1000000) (hl0 : (Lit.int .i64 len0).wf = true) (hl1 : (Lit.int .i64 len1).wf = true) : Calls Try.prog 23 #[.agg #[.slice pa parts.length pc, .slice ca chans.length cc, .int .i64 len0, .slice aa win0.length ac, .int .i64 len1, .slice ba win1.length bc], .int .i64 11] w fun e w' => e = .returned (.bool (holdsB (⟨parts, chans, len0, win0, len1, win1⟩ : Cfg) 11)) ∧ Below w.heap.size w w' := by
  obtain ⟨W, HW, hB, -, bx⟩ := one_cbox w ⟨parts, chans, len0, win0, len1, win1⟩ ⟨pa, pc, ca, cc, aa, ac, ba, bc⟩ 29
  have HB := Lib.hid hB
  have hp := hp.later hB; have hc := hc.later hB; have h0 := h0.later hB; have h1 := h1.later hB
  clear hB
  go_enter Try.func23, Try.ntmps23
  go_wp2_with fail
  rw [← HW.out]
  refine (rchans11 parts chans len0 win0 len1 win1 pa pc ca cc aa ac ba bc _ hp hpw hpl hc hcw hcl h0 h0w h0l h1 h1w h1l).mono ?_
  rintro e w5 ⟨rfl, hb5⟩
  have HX := Lib.hid (show holdsB (⟨parts, chans, len0, win0, len1, win1⟩ : Cfg) 11 = chansB (⟨parts, chans, len0, win0, len1, win1⟩ : Cfg) 11 from rfl)
  go_wp2
  go_ret
  exact ⟨by rw [HX.out]; rfl, HB.out.trans (hb5.mono HB.out.size)⟩

set_option maxRecDepth 100000 in
set_option maxHeartbeats 8000000 in
theorem rholds12 (parts chans : List (List Int)) (len0 : Int) (win0 : List (List Int)) (len1 : Int) (win1 : List (List Int)) (pa : Option Addr) (pc : Nat) (ca : Option Addr) (cc : Nat) (aa : Option Addr) (ac : Nat) (ba : Option Addr) (bc : Nat) (w : World) (hp : RowN [.i64, .i64] w w.heap.size pa parts) (hpw : wfR [.i64, .i64] parts) (hpl : parts.length ≤ 1000000) (hc : RowN [.i64, .i64, .i64, .i64, .i64, .i64, .u32] w w.heap.size ca chans) (hcw : wfR [.i64, .i64, .i64, .i64, .i64, .i64, .u32] chans) (hcl : chans.length ≤ 1000000) (h0 : RowN [.i64, .i64, .i64] w w.heap.size aa win0) (h0w : wfR [.i64, .i64, .i64] win0) (h0l : win0.length ≤ 1000000) (h1 : RowN [.i64, .i64, .i64] w w.heap.size ba win1) (h1w : wfR [.i64, .i64, .i64] win1) (h1l : win1.length ≤ 1000000) (hl0 : (Lit.int .i64 len0).wf = true) (hl1 : (Lit.int .i64 len1).wf = true) : Calls Try.prog 23 #[.agg #[.slice pa parts.length pc, .slice ca chans.length cc, .int .i64 len0, .slice aa win0.length ac, .int .i64 len1, .slice ba win1.length bc], .int .i64 12] w fun e w' => e = .returned (.bool (holdsB (⟨parts, chans, len0, win0, len1, win1⟩ : Cfg) 12)) ∧ Below w.heap.size w w' := by
  obtain ⟨W, HW, hB, -, bx⟩ := one_cbox w ⟨parts, chans, len0, win0, len1, win1⟩ ⟨pa, pc, ca, cc, aa, ac, ba, bc⟩ 29
  have HB := Lib.hid hB
  have hp := hp.later hB; have hc := hc.later hB; have h0 := h0.later hB; have h1 := h1.later hB
  clear hB
  cases hw0' : winsB (⟨parts, chans, len0, win0, len1, win1⟩ : Cfg) 0 len0 win0 12 with
  | true =>
    have HX := Lib.hid (show holdsB (⟨parts, chans, len0, win0, len1, win1⟩ : Cfg) 12 = true from (show (winsB (⟨parts, chans, len0, win0, len1, win1⟩ : Cfg) 0 len0 win0 12 || winsB (⟨parts, chans, len0, win0, len1, win1⟩ : Cfg) 1 len1 win1 12) = true by rw [hw0']; rfl))
    have HC := Lib.hid (rwins0_12 parts chans len0 win0 len1 win1 pa pc ca cc aa ac ba bc W)
    rw [hw0'] at HC
    clear hw0'
    go_enter Try.func23, Try.ntmps23
    go_wp2_with fail
    rw [← HW.out]
    refine HC.out.mono ?_
    rintro e w5 ⟨rfl, hb5⟩
    go_wp2
    go_ret
    exact ⟨by rw [HX.out]; rfl, HB.out.trans (hb5.mono HB.out.size)⟩
  | false =>
    have HX := Lib.hid (show holdsB (⟨parts, chans, len0, win0, len1, win1⟩ : Cfg) 12 = winsB (⟨parts, chans, len0, win0, len1, win1⟩ : Cfg) 1 len1 win1 12 from (show (winsB (⟨parts, chans, len0, win0, len1, win1⟩ : Cfg) 0 len0 win0 12 || winsB (⟨parts, chans, len0, win0, len1, win1⟩ : Cfg) 1 len1 win1 12) = winsB (⟨parts, chans, len0, win0, len1, win1⟩ : Cfg) 1 len1 win1 12 by rw [hw0']; rfl))
    have HC := Lib.hid (rwins0_12 parts chans len0 win0 len1 win1 pa pc ca cc aa ac ba bc W)
    rw [hw0'] at HC
    clear hw0'
    go_enter Try.func23, Try.ntmps23
    go_wp2_with fail
    rw [← HW.out]
    refine HC.out.mono ?_
    rintro e w5 ⟨rfl, hb5⟩
    obtain ⟨c0, c1, c2, c3, c4, c5⟩ := bx _ hb5
    have hbw := hb5
    go_wp2_with fail
    refine (rwins1_12 parts chans len0 win0 len1 win1 pa pc ca cc aa ac ba bc w5).mono ?_
    rintro e w6 ⟨rfl, hb6⟩
    go_wp2
    go_ret
    exact ⟨by rw [HX.out]; rfl, HB.out.trans ((hbw.trans (hb6.mono hbw.size)).mono HB.out.size)⟩

set_option maxRecDepth 100000 in
set_option maxHeartbeats 8000000 in
theorem rholds13 (parts chans : List (List Int)) (len0 : Int) (win0 : List (List Int)) (len1 : Int) (win1 : List (List Int)) (pa : Option Addr) (pc : Nat) (ca : Option Addr) (cc : Nat) (aa : Option Addr) (ac : Nat) (ba : Option Addr) (bc : Nat) (w : World) (hp : RowN [.i64, .i64] w w.heap.size pa parts) (hpw : wfR [.i64, .i64] parts) (hpl : parts.length ≤ 1000000) (hc : RowN [.i64, .i64, .i64, .i64, .i64, .i64, .u32] w w.heap.size ca chans) (hcw : wfR [.i64, .i64, .i64, .i64, .i64, .i64, .u32] chans) (hcl : chans.length ≤ 1000000) (h0 : RowN [.i64, .i64, .i64] w w.heap.size aa win0) (h0w : wfR [.i64, .i64, .i64] win0) (h0l : win0.length ≤ 1000000) (h1 : RowN [.i64, .i64, .i64] w w.heap.size ba win1) (h1w : wfR [.i64, .i64, .i64] win1) (h1l : win1.length ≤ 1000000) (hl0 : (Lit.int .i64 len0).wf = true) (hl1 : (Lit.int .i64 len1).wf = true) : Calls Try.prog 23 #[.agg #[.slice pa parts.length pc, .slice ca chans.length cc, .int .i64 len0, .slice aa win0.length ac, .int .i64 len1, .slice ba win1.length bc], .int .i64 13] w fun e w' => e = .returned (.bool (holdsB (⟨parts, chans, len0, win0, len1, win1⟩ : Cfg) 13)) ∧ Below w.heap.size w w' := by
  obtain ⟨W, HW, hB, -, bx⟩ := one_cbox w ⟨parts, chans, len0, win0, len1, win1⟩ ⟨pa, pc, ca, cc, aa, ac, ba, bc⟩ 29
  have HB := Lib.hid hB
  have hp := hp.later hB; have hc := hc.later hB; have h0 := h0.later hB; have h1 := h1.later hB
  clear hB
  cases hw0' : winsB (⟨parts, chans, len0, win0, len1, win1⟩ : Cfg) 0 len0 win0 13 with
  | true =>
    have HX := Lib.hid (show holdsB (⟨parts, chans, len0, win0, len1, win1⟩ : Cfg) 13 = true from (show (winsB (⟨parts, chans, len0, win0, len1, win1⟩ : Cfg) 0 len0 win0 13 || winsB (⟨parts, chans, len0, win0, len1, win1⟩ : Cfg) 1 len1 win1 13) = true by rw [hw0']; rfl))
    have HC := Lib.hid (rwins0_13 parts chans len0 win0 len1 win1 pa pc ca cc aa ac ba bc W)
    rw [hw0'] at HC
    clear hw0'
    go_enter Try.func23, Try.ntmps23
    go_wp2_with fail
    rw [← HW.out]
    refine HC.out.mono ?_
    rintro e w5 ⟨rfl, hb5⟩
    go_wp2
    go_ret
    exact ⟨by rw [HX.out]; rfl, HB.out.trans (hb5.mono HB.out.size)⟩
  | false =>
    have HX := Lib.hid (show holdsB (⟨parts, chans, len0, win0, len1, win1⟩ : Cfg) 13 = winsB (⟨parts, chans, len0, win0, len1, win1⟩ : Cfg) 1 len1 win1 13 from (show (winsB (⟨parts, chans, len0, win0, len1, win1⟩ : Cfg) 0 len0 win0 13 || winsB (⟨parts, chans, len0, win0, len1, win1⟩ : Cfg) 1 len1 win1 13) = winsB (⟨parts, chans, len0, win0, len1, win1⟩ : Cfg) 1 len1 win1 13 by rw [hw0']; rfl))
    have HC := Lib.hid (rwins0_13 parts chans len0 win0 len1 win1 pa pc ca cc aa ac ba bc W)
    rw [hw0'] at HC
    clear hw0'
    go_enter Try.func23, Try.ntmps23
    go_wp2_with fail
    rw [← HW.out]
    refine HC.out.mono ?_
    rintro e w5 ⟨rfl, hb5⟩
    obtain ⟨c0, c1, c2, c3, c4, c5⟩ := bx _ hb5
    have hbw := hb5
    go_wp2_with fail
    refine (rwins1_13 parts chans len0 win0 len1 win1 pa pc ca cc aa ac ba bc w5).mono ?_
    rintro e w6 ⟨rfl, hb6⟩
    go_wp2
    go_ret
    exact ⟨by rw [HX.out]; rfl, HB.out.trans ((hbw.trans (hb6.mono hbw.size)).mono HB.out.size)⟩

set_option maxRecDepth 100000 in
set_option maxHeartbeats 8000000 in
theorem rholds14 (parts chans : List (List Int)) (len0 : Int) (win0 : List (List Int)) (len1 : Int) (win1 : List (List Int)) (pa : Option Addr) (pc : Nat) (ca : Option Addr) (cc : Nat) (aa : Option Addr) (ac : Nat) (ba : Option Addr) (bc : Nat) (w : World) (hp : RowN [.i64, .i64] w w.heap.size pa parts) (hpw : wfR [.i64, .i64] parts) (hpl : parts.length ≤ 1000000) (hc : RowN [.i64, .i64, .i64, .i64, .i64, .i64, .u32] w w.heap.size ca chans) (hcw : wfR [.i64, .i64, .i64, .i64, .i64, .i64, .u32] chans) (hcl : chans.length ≤ 1000000) (h0 : RowN [.i64, .i64, .i64] w w.heap.size aa win0) (h0w : wfR [.i64, .i64, .i64] win0) (h0l : win0.length ≤ 1000000) (h1 : RowN [.i64, .i64, .i64] w w.heap.size ba win1) (h1w : wfR [.i64, .i64, .i64] win1) (h1l : win1.length ≤ 1000000) (hl0 : (Lit.int .i64 len0).wf = true) (hl1 : (Lit.int .i64 len1).wf = true) : Calls Try.prog 23 #[.agg #[.slice pa parts.length pc, .slice ca chans.length cc, .int .i64 len0, .slice aa win0.length ac, .int .i64 len1, .slice ba win1.length bc], .int .i64 14] w fun e w' => e = .returned (.bool (holdsB (⟨parts, chans, len0, win0, len1, win1⟩ : Cfg) 14)) ∧ Below w.heap.size w w' := by
  obtain ⟨W, HW, hB, -, bx⟩ := one_cbox w ⟨parts, chans, len0, win0, len1, win1⟩ ⟨pa, pc, ca, cc, aa, ac, ba, bc⟩ 29
  have HB := Lib.hid hB
  have hp := hp.later hB; have hc := hc.later hB; have h0 := h0.later hB; have h1 := h1.later hB
  clear hB
  cases hw0' : winsB (⟨parts, chans, len0, win0, len1, win1⟩ : Cfg) 0 len0 win0 14 with
  | true =>
    have HX := Lib.hid (show holdsB (⟨parts, chans, len0, win0, len1, win1⟩ : Cfg) 14 = true from (show (winsB (⟨parts, chans, len0, win0, len1, win1⟩ : Cfg) 0 len0 win0 14 || winsB (⟨parts, chans, len0, win0, len1, win1⟩ : Cfg) 1 len1 win1 14) = true by rw [hw0']; rfl))
    have HC := Lib.hid (rwins0_14 parts chans len0 win0 len1 win1 pa pc ca cc aa ac ba bc W hp hpw hpl hc hcw hcl h0 h0w h0l h1 h1w h1l)
    rw [hw0'] at HC
    clear hw0'
    go_enter Try.func23, Try.ntmps23
    go_wp2_with fail
    rw [← HW.out]
    refine HC.out.mono ?_
    rintro e w5 ⟨rfl, hb5⟩
    go_wp2
    go_ret
    exact ⟨by rw [HX.out]; rfl, HB.out.trans (hb5.mono HB.out.size)⟩
  | false =>
    have HX := Lib.hid (show holdsB (⟨parts, chans, len0, win0, len1, win1⟩ : Cfg) 14 = winsB (⟨parts, chans, len0, win0, len1, win1⟩ : Cfg) 1 len1 win1 14 from (show (winsB (⟨parts, chans, len0, win0, len1, win1⟩ : Cfg) 0 len0 win0 14 || winsB (⟨parts, chans, len0, win0, len1, win1⟩ : Cfg) 1 len1 win1 14) = winsB (⟨parts, chans, len0, win0, len1, win1⟩ : Cfg) 1 len1 win1 14 by rw [hw0']; rfl))
    have HC := Lib.hid (rwins0_14 parts chans len0 win0 len1 win1 pa pc ca cc aa ac ba bc W hp hpw hpl hc hcw hcl h0 h0w h0l h1 h1w h1l)
    rw [hw0'] at HC
    clear hw0'
    go_enter Try.func23, Try.ntmps23
    go_wp2_with fail
    rw [← HW.out]
    refine HC.out.mono ?_
    rintro e w5 ⟨rfl, hb5⟩
    obtain ⟨c0, c1, c2, c3, c4, c5⟩ := bx _ hb5
    have hbw := hb5
    go_wp2_with fail
    refine (rwins1_14 parts chans len0 win0 len1 win1 pa pc ca cc aa ac ba bc w5 (hp.later hb5) hpw hpl (hc.later hb5) hcw hcl (h0.later hb5) h0w h0l (h1.later hb5) h1w h1l).mono ?_
    rintro e w6 ⟨rfl, hb6⟩
    go_wp2
    go_ret
    exact ⟨by rw [HX.out]; rfl, HB.out.trans ((hbw.trans (hb6.mono hbw.size)).mono HB.out.size)⟩

set_option maxRecDepth 100000 in
set_option maxHeartbeats 8000000 in
theorem rholds15 (parts chans : List (List Int)) (len0 : Int) (win0 : List (List Int)) (len1 : Int) (win1 : List (List Int)) (pa : Option Addr) (pc : Nat) (ca : Option Addr) (cc : Nat) (aa : Option Addr) (ac : Nat) (ba : Option Addr) (bc : Nat) (w : World) (hp : RowN [.i64, .i64] w w.heap.size pa parts) (hpw : wfR [.i64, .i64] parts) (hpl : parts.length ≤ 1000000) (hc : RowN [.i64, .i64, .i64, .i64, .i64, .i64, .u32] w w.heap.size ca chans) (hcw : wfR [.i64, .i64, .i64, .i64, .i64, .i64, .u32] chans) (hcl : chans.length ≤ 1000000) (h0 : RowN [.i64, .i64, .i64] w w.heap.size aa win0) (h0w : wfR [.i64, .i64, .i64] win0) (h0l : win0.length ≤ 1000000) (h1 : RowN [.i64, .i64, .i64] w w.heap.size ba win1) (h1w : wfR [.i64, .i64, .i64] win1) (h1l : win1.length ≤ 1000000) (hl0 : (Lit.int .i64 len0).wf = true) (hl1 : (Lit.int .i64 len1).wf = true) : Calls Try.prog 23 #[.agg #[.slice pa parts.length pc, .slice ca chans.length cc, .int .i64 len0, .slice aa win0.length ac, .int .i64 len1, .slice ba win1.length bc], .int .i64 15] w fun e w' => e = .returned (.bool (holdsB (⟨parts, chans, len0, win0, len1, win1⟩ : Cfg) 15)) ∧ Below w.heap.size w w' := by
  obtain ⟨W, HW, hB, -, bx⟩ := one_cbox w ⟨parts, chans, len0, win0, len1, win1⟩ ⟨pa, pc, ca, cc, aa, ac, ba, bc⟩ 29
  have HB := Lib.hid hB
  have hp := hp.later hB; have hc := hc.later hB; have h0 := h0.later hB; have h1 := h1.later hB
  clear hB
  cases hw0' : winsB (⟨parts, chans, len0, win0, len1, win1⟩ : Cfg) 0 len0 win0 15 with
  | true =>
    have HX := Lib.hid (show holdsB (⟨parts, chans, len0, win0, len1, win1⟩ : Cfg) 15 = true from (show (winsB (⟨parts, chans, len0, win0, len1, win1⟩ : Cfg) 0 len0 win0 15 || winsB (⟨parts, chans, len0, win0, len1, win1⟩ : Cfg) 1 len1 win1 15) = true by rw [hw0']; rfl))
    have HC := Lib.hid (rwins0_15 parts chans len0 win0 len1 win1 pa pc ca cc aa ac ba bc W hp hpw hpl hc hcw hcl h0 h0w h0l h1 h1w h1l hl0)
    rw [hw0'] at HC
    clear hw0'
    go_enter Try.func23, Try.ntmps23
    go_wp2_with fail
    rw [← HW.out]
    refine HC.out.mono ?_
    rintro e w5 ⟨rfl, hb5⟩
    go_wp2
    go_ret
    exact ⟨by rw [HX.out]; rfl, HB.out.trans (hb5.mono HB.out.size)⟩
  | false =>
    have HX := Lib.hid (show holdsB (⟨parts, chans, len0, win0, len1, win1⟩ : Cfg) 15 = winsB (⟨parts, chans, len0, win0, len1, win1⟩ : Cfg) 1 len1 win1 15 from (show (winsB (⟨parts, chans, len0, win0, len1, win1⟩ : Cfg) 0 len0 win0 15 || winsB (⟨parts, chans, len0, win0, len1, win1⟩ : Cfg) 1 len1 win1 15) = winsB (⟨parts, chans, len0, win0, len1, win1⟩ : Cfg) 1 len1 win1 15 by rw [hw0']; rfl))
    have HC := Lib.hid (rwins0_15 parts chans len0 win0 len1 win1 pa pc ca cc aa ac ba bc W hp hpw hpl hc hcw hcl h0 h0w h0l h1 h1w h1l hl0)
    rw [hw0'] at HC
    clear hw0'
    go_enter Try.func23, Try.ntmps23
    go_wp2_with fail
    rw [← HW.out]
    refine HC.out.mono ?_
    rintro e w5 ⟨rfl, hb5⟩
    obtain ⟨c0, c1, c2, c3, c4, c5⟩ := bx _ hb5
    have hbw := hb5
    go_wp2_with fail
    refine (rwins1_15 parts chans len0 win0 len1 win1 pa pc ca cc aa ac ba bc w5 (hp.later hb5) hpw hpl (hc.later hb5) hcw hcl (h0.later hb5) h0w h0l (h1.later hb5) h1w h1l hl1).mono ?_
    rintro e w6 ⟨rfl, hb6⟩
    go_wp2
    go_ret
    exact ⟨by rw [HX.out]; rfl, HB.out.trans ((hbw.trans (hb6.mono hbw.size)).mono HB.out.size)⟩

set_option maxRecDepth 100000 in
set_option maxHeartbeats 8000000 in
theorem rholds16 (parts chans : List (List Int)) (len0 : Int) (win0 : List (List Int)) (len1 : Int) (win1 : List (List Int)) (pa : Option Addr) (pc : Nat) (ca : Option Addr) (cc : Nat) (aa : Option Addr) (ac : Nat) (ba : Option Addr) (bc : Nat) (w : World) (hp : RowN [.i64, .i64] w w.heap.size pa parts) (hpw : wfR [.i64, .i64] parts) (hpl : parts.length ≤ 1000000) (hc : RowN [.i64, .i64, .i64, .i64, .i64, .i64, .u32] w w.heap.size ca chans) (hcw : wfR [.i64, .i64, .i64, .i64, .i64, .i64, .u32] chans) (hcl : chans.length ≤ 1000000) (h0 : RowN [.i64, .i64, .i64] w w.heap.size aa win0) (h0w : wfR [.i64, .i64, .i64] win0) (h0l : win0.length ≤ 1000000) (h1 : RowN [.i64, .i64, .i64] w w.heap.size ba win1) (h1w : wfR [.i64, .i64, .i64] win1) (h1l : win1.length ≤ 1000000) (hl0 : (Lit.int .i64 len0).wf = true) (hl1 : (Lit.int .i64 len1).wf = true) : Calls Try.prog 23 #[.agg #[.slice pa parts.length pc, .slice ca chans.length cc, .int .i64 len0, .slice aa win0.length ac, .int .i64 len1, .slice ba win1.length bc], .int .i64 16] w fun e w' => e = .returned (.bool (holdsB (⟨parts, chans, len0, win0, len1, win1⟩ : Cfg) 16)) ∧ Below w.heap.size w w' := by
  obtain ⟨W, HW, hB, -, bx⟩ := one_cbox w ⟨parts, chans, len0, win0, len1, win1⟩ ⟨pa, pc, ca, cc, aa, ac, ba, bc⟩ 29
  have HB := Lib.hid hB
  have hp := hp.later hB; have hc := hc.later hB; have h0 := h0.later hB; have h1 := h1.later hB
  clear hB
  cases hw0' : winsB (⟨parts, chans, len0, win0, len1, win1⟩ : Cfg) 0 len0 win0 16 with
  | true =>
    have HX := Lib.hid (show holdsB (⟨parts, chans, len0, win0, len1, win1⟩ : Cfg) 16 = true from (show (winsB (⟨parts, chans, len0, win0, len1, win1⟩ : Cfg) 0 len0 win0 16 || winsB (⟨parts, chans, len0, win0, len1, win1⟩ : Cfg) 1 len1 win1 16) = true by rw [hw0']; rfl))
    have HC := Lib.hid (rwins0_16 parts chans len0 win0 len1 win1 pa pc ca cc aa ac ba bc W hp hpw hpl hc hcw hcl h0 h0w h0l h1 h1w h1l)
    rw [hw0'] at HC
    clear hw0'
    go_enter Try.func23, Try.ntmps23
    go_wp2_with fail
    rw [← HW.out]
    refine HC.out.mono ?_
    rintro e w5 ⟨rfl, hb5⟩
    go_wp2
    go_ret
    exact ⟨by rw [HX.out]; rfl, HB.out.trans (hb5.mono HB.out.size)⟩
  | false =>
    have HX := Lib.hid (show holdsB (⟨parts, chans, len0, win0, len1, win1⟩ : Cfg) 16 = winsB (⟨parts, chans, len0, win0, len1, win1⟩ : Cfg) 1 len1 win1 16 from (show (winsB (⟨parts, chans, len0, win0, len1, win1⟩ : Cfg) 0 len0 win0 16 || winsB (⟨parts, chans, len0, win0, len1, win1⟩ : Cfg) 1 len1 win1 16) = winsB (⟨parts, chans, len0, win0, len1, win1⟩ : Cfg) 1 len1 win1 16 by rw [hw0']; rfl))
    have HC := Lib.hid (rwins0_16 parts chans len0 win0 len1 win1 pa pc ca cc aa ac ba bc W hp hpw hpl hc hcw hcl h0 h0w h0l h1 h1w h1l)
    rw [hw0'] at HC
    clear hw0'
    go_enter Try.func23, Try.ntmps23
    go_wp2_with fail
    rw [← HW.out]
    refine HC.out.mono ?_
    rintro e w5 ⟨rfl, hb5⟩
    obtain ⟨c0, c1, c2, c3, c4, c5⟩ := bx _ hb5
    have hbw := hb5
    go_wp2_with fail
    refine (rwins1_16 parts chans len0 win0 len1 win1 pa pc ca cc aa ac ba bc w5 (hp.later hb5) hpw hpl (hc.later hb5) hcw hcl (h0.later hb5) h0w h0l (h1.later hb5) h1w h1l).mono ?_
    rintro e w6 ⟨rfl, hb6⟩
    go_wp2
    go_ret
    exact ⟨by rw [HX.out]; rfl, HB.out.trans ((hbw.trans (hb6.mono hbw.size)).mono HB.out.size)⟩

set_option maxRecDepth 100000 in
set_option maxHeartbeats 8000000 in
theorem rholds17 (parts chans : List (List Int)) (len0 : Int) (win0 : List (List Int)) (len1 : Int) (win1 : List (List Int)) (pa : Option Addr) (pc : Nat) (ca : Option Addr) (cc : Nat) (aa : Option Addr) (ac : Nat) (ba : Option Addr) (bc : Nat) (w : World) (hp : RowN [.i64, .i64] w w.heap.size pa parts) (hpw : wfR [.i64, .i64] parts) (hpl : parts.length ≤ 1000000) (hc : RowN [.i64, .i64, .i64, .i64, .i64, .i64, .u32] w w.heap.size ca chans) (hcw : wfR [.i64, .i64, .i64, .i64, .i64, .i64, .u32] chans) (hcl : chans.length ≤ 1000000) (h0 : RowN [.i64, .i64, .i64] w w.heap.size aa win0) (h0w : wfR [.i64, .i64, .i64] win0) (h0l : win0.length ≤ 1000000) (h1 : RowN [.i64, .i64, .i64] w w.heap.size ba win1) (h1w : wfR [.i64, .i64, .i64] win1) (h1l : win1.length ≤ 1000000) (hl0 : (Lit.int .i64 len0).wf = true) (hl1 : (Lit.int .i64 len1).wf = true) : Calls Try.prog 23 #[.agg #[.slice pa parts.length pc, .slice ca chans.length cc, .int .i64 len0, .slice aa win0.length ac, .int .i64 len1, .slice ba win1.length bc], .int .i64 17] w fun e w' => e = .returned (.bool (holdsB (⟨parts, chans, len0, win0, len1, win1⟩ : Cfg) 17)) ∧ Below w.heap.size w w' := by
  obtain ⟨W, HW, hB, -, bx⟩ := one_cbox w ⟨parts, chans, len0, win0, len1, win1⟩ ⟨pa, pc, ca, cc, aa, ac, ba, bc⟩ 29
  have HB := Lib.hid hB
  have hp := hp.later hB; have hc := hc.later hB; have h0 := h0.later hB; have h1 := h1.later hB
  clear hB
  go_enter Try.func23, Try.ntmps23
  go_wp2
  go_loopw [5] (fun ix wr => ∃ i : Nat, i ≤ parts.length ∧ ix = .int .i64 i ∧ scan i (fun i => partBad (⟨parts, chans, len0, win0, len1, win1⟩ : Cfg) 17 i) = false ∧ Below W.heap.size W wr) (fun ix _ => parts.length - (intOf ix).toNat)
  case atStart => exact ⟨0, Nat.zero_le _, rfl, rfl, (by rw [← HW.out]; exact Below.refl _ _)⟩
  case round =>
    obtain ⟨i, hi, rfl, ht, hbc⟩ := hrel
    have HT := Lib.hid ht
    obtain ⟨c0, c1, c2, c3, c4, c5⟩ := bx _ hbc
    clear ht
    by_cases hlt : i < parts.length
    · obtain ⟨b, o, y0, y1, e0, _, e1, ⟨hw0, hw1⟩, k0⟩ := hp.at2 hpw hlt
      subst e0
      have k0 := k0 _ hbc
      obtain ⟨p0, p1⟩ := k0
      have E1 := Lib.hid e1
      clear e1
      obtain ⟨wa, hwa⟩ : ∃ u, Hid (u = wr.alloc (.cells #[.int .i64 y0, .int .i64 y1] 45)) := ⟨_, rfl⟩
      have hba : Below wr.heap.size wr wa := by rw [hwa.out]; exact (Below.refl _ _).alloc (Nat.le_refl _) _
      have hxa : wa.heap[wr.heap.size]? = some (.cells #[.int .i64 y0, .int .i64 y1] 45 (0, 0)) := by rw [hwa.out]; exact heap_alloc_new _ _
      have hwb := hbc.trans (hba.mono hbc.size)
      have hla : wr.heap.size < wa.heap.size := (Array.getElem?_eq_some_iff.1 hxa).1
      obtain ⟨a0, a1, a2, a3, a4, a5⟩ := bx _ hwb
      have HWB := Lib.hid hwb
      clear hwb hba hxa
      cases hwi : windowB (⟨parts, chans, len0, win0, len1, win1⟩ : Cfg) i with
      | true =>
        have HWI := Lib.hid hwi
        clear hwi
        go_wp2_with (rw [← hwa.out])
        refine (window_is parts chans len0 win0 len1 win1 (some ⟨b, o, none⟩) pc ca cc aa ac ba bc i true _ (hp.later HWB.out) hpw hpl (hc.later HWB.out) hcw hcl (h0.later HWB.out) h0w h0l (h1.later HWB.out) h1w h1l hlt HWI.out).mono ?_
        rintro e w5 ⟨rfl, hb5⟩
        have hwc := HWB.out.trans (hb5.mono HWB.out.size)
        have HX := Lib.hid (show scan (i + 1) (fun i => partBad (⟨parts, chans, len0, win0, len1, win1⟩ : Cfg) 17 i) = false from scan_next HT.out (show partBad (⟨parts, chans, len0, win0, len1, win1⟩ : Cfg) 17 i = false from (show (!windowB (⟨parts, chans, len0, win0, len1, win1⟩ : Cfg) i) = false by rw [HWI.out]; rfl)))
        go_wp2
        go_roundw
        case rel => exact ⟨i + 1, by omega, by go_num, HX.out, hwc⟩
        case measure => simp [intOf]; omega
      | false =>
        have HWI := Lib.hid hwi
        clear hwi
        go_wp2_with (rw [← hwa.out])
        refine (window_is parts chans len0 win0 len1 win1 (some ⟨b, o, none⟩) pc ca cc aa ac ba bc i false _ (hp.later HWB.out) hpw hpl (hc.later HWB.out) hcw hcl (h0.later HWB.out) h0w h0l (h1.later HWB.out) h1w h1l hlt HWI.out).mono ?_
        rintro e w5 ⟨rfl, hb5⟩
        have hwc := HWB.out.trans (hb5.mono HWB.out.size)
        have HX := Lib.hid (show holdsB (⟨parts, chans, len0, win0, len1, win1⟩ : Cfg) 17 = true from scan_hit (f := (fun i => partBad (⟨parts, chans, len0, win0, len1, win1⟩ : Cfg) 17 i)) hlt (show partBad (⟨parts, chans, len0, win0, len1, win1⟩ : Cfg) 17 i = true from (show (!windowB (⟨parts, chans, len0, win0, len1, win1⟩ : Cfg) i) = true by rw [HWI.out]; rfl)))
        go_wp2
        go_ret
        exact ⟨by rw [HX.out]; rfl, HB.out.trans (hwc.mono HB.out.size)⟩
    · have HS := Lib.hid (show holdsB (⟨parts, chans, len0, win0, len1, win1⟩ : Cfg) 17 = false by have h := HT.out; rw [show i = parts.length by omega] at h; exact h)
      clear HT
      go_wp2
      go_ret
      exact ⟨by rw [HS.out]; rfl, HB.out.trans (hbc.mono HB.out.size)⟩

theorem rholds_lo (parts chans : List (List Int)) (len0 : Int) (win0 : List (List Int)) (len1 : Int) (win1 : List (List Int)) (pa : Option Addr) (pc : Nat) (ca : Option Addr) (cc : Nat) (aa : Option Addr) (ac : Nat) (ba : Option Addr) (bc : Nat) (k : Int) (w : World) (hk : k < 1) : Calls Try.prog 23 #[.agg #[.slice pa parts.length pc, .slice ca chans.length cc, .int .i64 len0, .slice aa win0.length ac, .int .i64 len1, .slice ba win1.length bc], .int .i64 k] w fun e w' => e = .returned (.bool (holdsB (⟨parts, chans, len0, win0, len1, win1⟩ : Cfg) k)) ∧ Below w.heap.size w w' := by
  have HX := Lib.hid (show holdsB (⟨parts, chans, len0, win0, len1, win1⟩ : Cfg) k = false by unfold holdsB; rw [if_neg (by omega), if_neg (by omega), if_neg (by omega), if_neg (by omega), if_neg (by omega)])
  have a1 : (k == 1) = false := by simp; omega
  have b1 : (k != 1) = true := by simp; omega
  have a2 : (k == 2) = false := by simp; omega
  have b2 : (k != 2) = true := by simp; omega
  have a3 : (k == 3) = false := by simp; omega
  have b3 : (k != 3) = true := by simp; omega
  have a4 : (k == 4) = false := by simp; omega
  have b4 : (k != 4) = true := by simp; omega
  have a17 : (k == 17) = false := by simp; omega
  have b17 : (k != 17) = true := by simp; omega
  have u1 : ¬ (5 ≤ k) := by omega
  have u1d : decide (5 ≤ k) = false := decide_eq_false u1
  have u2 : ¬ (12 ≤ k) := by omega
  have u2d : decide (12 ≤ k) = false := decide_eq_false u2
  go_enter Try.func23, Try.ntmps23
  go_wp2
  go_ret
  exact ⟨by rw [HX.out]; rfl, (Below.refl _ _).alloc (Nat.le_refl _) _⟩

theorem rholds_hi (parts chans : List (List Int)) (len0 : Int) (win0 : List (List Int)) (len1 : Int) (win1 : List (List Int)) (pa : Option Addr) (pc : Nat) (ca : Option Addr) (cc : Nat) (aa : Option Addr) (ac : Nat) (ba : Option Addr) (bc : Nat) (k : Int) (w : World) (hk : 17 < k) : Calls Try.prog 23 #[.agg #[.slice pa parts.length pc, .slice ca chans.length cc, .int .i64 len0, .slice aa win0.length ac, .int .i64 len1, .slice ba win1.length bc], .int .i64 k] w fun e w' => e = .returned (.bool (holdsB (⟨parts, chans, len0, win0, len1, win1⟩ : Cfg) k)) ∧ Below w.heap.size w w' := by
  have HX := Lib.hid (show holdsB (⟨parts, chans, len0, win0, len1, win1⟩ : Cfg) k = false by unfold holdsB; rw [if_neg (by omega), if_neg (by omega), if_neg (by omega), if_neg (by omega), if_neg (by omega)])
  have a1 : (k == 1) = false := by simp; omega
  have b1 : (k != 1) = true := by simp; omega
  have a2 : (k == 2) = false := by simp; omega
  have b2 : (k != 2) = true := by simp; omega
  have a3 : (k == 3) = false := by simp; omega
  have b3 : (k != 3) = true := by simp; omega
  have a4 : (k == 4) = false := by simp; omega
  have b4 : (k != 4) = true := by simp; omega
  have a17 : (k == 17) = false := by simp; omega
  have b17 : (k != 17) = true := by simp; omega
  have u1 : 5 ≤ k := by omega
  have u3 : ¬ (k ≤ 11) := by omega
  have u3d : decide (k ≤ 11) = false := decide_eq_false u3
  have u2 : 12 ≤ k := by omega
  have u4 : ¬ (k ≤ 16) := by omega
  have u4d : decide (k ≤ 16) = false := decide_eq_false u4
  go_enter Try.func23, Try.ntmps23
  go_wp2
  go_ret
  exact ⟨by rw [HX.out]; rfl, (Below.refl _ _).alloc (Nat.le_refl _) _⟩

theorem rholds_b (c : Cfg) (x : CfgAt) (k : Int) (w : World) (hx : CfgIn w w.heap.size c x) (wx : CfgWf c) (lx : c.parts.length ≤ 1000000 ∧ c.chans.length ≤ 1000000 ∧ c.win0.length ≤ 1000000 ∧ c.win1.length ≤ 1000000) : Calls Try.prog 23 #[.agg (cfgCells c x), .int .i64 k] w fun e w' => e = .returned (.bool (holdsB c k)) ∧ Below w.heap.size w w' := by
  obtain ⟨parts, chans, len0, win0, len1, win1⟩ := c
  obtain ⟨pa, pc, ca, cc, aa, ac, ba, bc⟩ := x
  by_cases hlo : k < 1
  · exact rholds_lo parts chans len0 win0 len1 win1 pa pc ca cc aa ac ba bc k w hlo
  by_cases hhi : 17 < k
  · exact rholds_hi parts chans len0 win0 len1 win1 pa pc ca cc aa ac ba bc k w hhi
  have hk : k = 1 ∨ k = 2 ∨ k = 3 ∨ k = 4 ∨ k = 5 ∨ k = 6 ∨ k = 7 ∨ k = 8 ∨ k = 9 ∨ k = 10 ∨ k = 11 ∨ k = 12 ∨ k = 13 ∨ k = 14 ∨ k = 15 ∨ k = 16 ∨ k = 17 := by omega
  rcases hk with rfl | rfl | rfl | rfl | rfl | rfl | rfl | rfl | rfl | rfl | rfl | rfl | rfl | rfl | rfl | rfl | rfl
  · exact rholds1 parts chans len0 win0 len1 win1 pa pc ca cc aa ac ba bc w hx.rp wx.wp lx.1 hx.rc wx.wc lx.2.1 hx.ra wx.wa lx.2.2.1 hx.rb wx.wb lx.2.2.2 wx.w0 wx.w1
  · exact rholds2 parts chans len0 win0 len1 win1 pa pc ca cc aa ac ba bc w hx.rp wx.wp lx.1 hx.rc wx.wc lx.2.1 hx.ra wx.wa lx.2.2.1 hx.rb wx.wb lx.2.2.2 wx.w0 wx.w1
  · exact rholds3 parts chans len0 win0 len1 win1 pa pc ca cc aa ac ba bc w hx.rp wx.wp lx.1 hx.rc wx.wc lx.2.1 hx.ra wx.wa lx.2.2.1 hx.rb wx.wb lx.2.2.2 wx.w0 wx.w1
  · exact rholds4 parts chans len0 win0 len1 win1 pa pc ca cc aa ac ba bc w hx.rp wx.wp lx.1 hx.rc wx.wc lx.2.1 hx.ra wx.wa lx.2.2.1 hx.rb wx.wb lx.2.2.2 wx.w0 wx.w1
  · exact rholds5 parts chans len0 win0 len1 win1 pa pc ca cc aa ac ba bc w hx.rp wx.wp lx.1 hx.rc wx.wc lx.2.1 hx.ra wx.wa lx.2.2.1 hx.rb wx.wb lx.2.2.2 wx.w0 wx.w1
  · exact rholds6 parts chans len0 win0 len1 win1 pa pc ca cc aa ac ba bc w hx.rp wx.wp lx.1 hx.rc wx.wc lx.2.1 hx.ra wx.wa lx.2.2.1 hx.rb wx.wb lx.2.2.2 wx.w0 wx.w1
  · exact rholds7 parts chans len0 win0 len1 win1 pa pc ca cc aa ac ba bc w hx.rp wx.wp lx.1 hx.rc wx.wc lx.2.1 hx.ra wx.wa lx.2.2.1 hx.rb wx.wb lx.2.2.2 wx.w0 wx.w1
  · exact rholds8 parts chans len0 win0 len1 win1 pa pc ca cc aa ac ba bc w hx.rp wx.wp lx.1 hx.rc wx.wc lx.2.1 hx.ra wx.wa lx.2.2.1 hx.rb wx.wb lx.2.2.2 wx.w0 wx.w1
  · exact rholds9 parts chans len0 win0 len1 win1 pa pc ca cc aa ac ba bc w hx.rp wx.wp lx.1 hx.rc wx.wc lx.2.1 hx.ra wx.wa lx.2.2.1 hx.rb wx.wb lx.2.2.2 wx.w0 wx.w1
  · exact rholds10 parts chans len0 win0 len1 win1 pa pc ca cc aa ac ba bc w hx.rp wx.wp lx.1 hx.rc wx.wc lx.2.1 hx.ra wx.wa lx.2.2.1 hx.rb wx.wb lx.2.2.2 wx.w0 wx.w1
  · exact rholds11 parts chans len0 win0 len1 win1 pa pc ca cc aa ac ba bc w hx.rp wx.wp lx.1 hx.rc wx.wc lx.2.1 hx.ra wx.wa lx.2.2.1 hx.rb wx.wb lx.2.2.2 wx.w0 wx.w1
  · exact rholds12 parts chans len0 win0 len1 win1 pa pc ca cc aa ac ba bc w hx.rp wx.wp lx.1 hx.rc wx.wc lx.2.1 hx.ra wx.wa lx.2.2.1 hx.rb wx.wb lx.2.2.2 wx.w0 wx.w1
  · exact rholds13 parts chans len0 win0 len1 win1 pa pc ca cc aa ac ba bc w hx.rp wx.wp lx.1 hx.rc wx.wc lx.2.1 hx.ra wx.wa lx.2.2.1 hx.rb wx.wb lx.2.2.2 wx.w0 wx.w1
  · exact rholds14 parts chans len0 win0 len1 win1 pa pc ca cc aa ac ba bc w hx.rp wx.wp lx.1 hx.rc wx.wc lx.2.1 hx.ra wx.wa lx.2.2.1 hx.rb wx.wb lx.2.2.2 wx.w0 wx.w1
  · exact rholds15 parts chans len0 win0 len1 win1 pa pc ca cc aa ac ba bc w hx.rp wx.wp lx.1 hx.rc wx.wc lx.2.1 hx.ra wx.wa lx.2.2.1 hx.rb wx.wb lx.2.2.2 wx.w0 wx.w1
  · exact rholds16 parts chans len0 win0 len1 win1 pa pc ca cc aa ac ba bc w hx.rp wx.wp lx.1 hx.rc wx.wc lx.2.1 hx.ra wx.wa lx.2.2.1 hx.rb wx.wb lx.2.2.2 wx.w0 wx.w1
  · exact rholds17 parts chans len0 win0 len1 win1 pa pc ca cc aa ac ba bc w hx.rp wx.wp lx.1 hx.rc wx.wc lx.2.1 hx.ra wx.wa lx.2.2.1 hx.rb wx.wb lx.2.2.2 wx.w0 wx.w1
end Go.Proofs.Ytfpcldkgcifciaa
