/- The functions of the rows 12, 13, 15, 16 of the table, as contracts. No condition but those in the statements. -/
import Derived.Test.YtmhpcgcloojfbaaGreatDoorFrame16
import Derived.BigQuiet
namespace Go.Proofs.YtmhpcgcloojfbaaGreatDoor
open Go.RowKit Go.Sort Go.ChangeShapes Go.WideShapes
set_option linter.unusedVariables false
set_option linter.unusedSimpArgs false

theorem frame12_is (len : Int) (win : List (List Int)) (A : Option Addr) (c : Nat) (q : Bool) (w : World) (hr : RowN [.i64, .i64, .i64] w w.heap.size A win) (wl : wfR [.i64, .i64, .i64] win) (hl : win.length ≤ 1000000) (hlen : (Lit.int .i64 len).wf = true) (h : frameB 12 len win = q) : Calls Tryz.prog 169 #[.agg #[.int .i64 len, .slice A win.length c]] w fun e w' => e = .returned (.bool q) ∧ Below w.heap.size w w' := by subst h; exact frame12_b len win A c w hr wl hl hlen
set_option maxRecDepth 100000 in
set_option maxHeartbeats 4000000 in
theorem row12_b (parts chans : List (List Int)) (len0 : Int) (win0 : List (List Int)) (len1 : Int) (win1 : List (List Int)) (pa : Option Addr) (pc : Nat) (ca : Option Addr) (cc : Nat) (aa : Option Addr) (ac : Nat) (ba : Option Addr) (bc : Nat) (B : Nat) (w : World) (hp : RowN [.i64, .i64] w w.heap.size pa parts) (hpw : wfR [.i64, .i64] parts) (hpl : parts.length ≤ 1000000) (hc : RowN [.i64, .i64, .i64, .i64, .i64, .i64, .u32] w w.heap.size ca chans) (hcw : wfR [.i64, .i64, .i64, .i64, .i64, .i64, .u32] chans) (hcl : chans.length ≤ 1000000) (h0 : RowN [.i64, .i64, .i64] w w.heap.size aa win0) (h0w : wfR [.i64, .i64, .i64] win0) (h0l : win0.length ≤ 1000000) (h1 : RowN [.i64, .i64, .i64] w w.heap.size ba win1) (h1w : wfR [.i64, .i64, .i64] win1) (h1l : win1.length ≤ 1000000) (hl0 : (Lit.int .i64 len0).wf = true) (hl1 : (Lit.int .i64 len1).wf = true) (hB : w.cell? ⟨B, 0, none⟩ = some (.func (.func 169) #[] #[])) :
    Calls Tryz.prog 184 #[.agg #[.slice pa parts.length pc, .slice ca chans.length cc, .int .i64 len0, .slice aa win0.length ac, .int .i64 len1, .slice ba win1.length bc], .pointer (some ⟨B, 0, none⟩)] w fun e w' => e = .returned (.bool (holdsP (⟨parts, chans, len0, win0, len1, win1⟩ : Cfg) 12)) ∧ Below w.heap.size w w' := by
  have hBw : B < w.heap.size := World.block_lt_of_cell? w _ hB
  have hval : holdsP (⟨parts, chans, len0, win0, len1, win1⟩ : Cfg) 12 = (frameB 12 len0 win0 || frameB 12 len1 win1) := by simp [holdsP, holdsB, winsB, frameB]
  obtain ⟨W, HW, hB_, -, bx⟩ := one_cbox w ⟨parts, chans, len0, win0, len1, win1⟩ ⟨pa, pc, ca, cc, aa, ac, ba, bc⟩ 29
  have HBx := hB_
  have hp := hp.later hB_; have hc := hc.later hB_; have h0 := h0.later hB_; have h1 := h1.later hB_
  have HB := Lib.hid hB_
  have cB : W.cell? ⟨B, 0, none⟩ = some (.func (.func 169) #[] #[]) := (hB_.cell (p := ⟨B, 0, none⟩) hBw).trans hB
  have hBW : B < W.heap.size := Nat.lt_of_lt_of_le hBw hB_.size
  obtain ⟨c0, c1, c2, c3, c4, c5⟩ := bx _ (Below.refl _ _)
  clear hB_ HBx
  cases hq : frameB 12 len0 win0 with
  | true =>
    have HX := Lib.hid (show holdsP (⟨parts, chans, len0, win0, len1, win1⟩ : Cfg) 12 = true by rw [hval, hq]; rfl)
    have HQ := Lib.hid hq
    clear hval hq
    go_enter Tryz.func184, Tryz.ntmps184
    go_wp2_with (rw [← HW.out])
    refine (frame12_is len0 win0 aa ac true W h0 h0w h0l hl0 HQ.out).mono ?_
    rintro e w5 ⟨rfl, hb5⟩
    go_wp2
    go_ret
    exact ⟨by rw [HX.out]; rfl, HB.out.trans (hb5.mono HB.out.size)⟩
  | false =>
    cases hq1 : frameB 12 len1 win1 with
    | true =>
      have HX := Lib.hid (show holdsP (⟨parts, chans, len0, win0, len1, win1⟩ : Cfg) 12 = true by rw [hval, hq, hq1]; rfl)
      have HQ := Lib.hid hq; have HQ1 := Lib.hid hq1
      clear hval hq hq1
      go_enter Tryz.func184, Tryz.ntmps184
      go_wp2_with (rw [← HW.out])
      refine (frame12_is len0 win0 aa ac false W h0 h0w h0l hl0 HQ.out).mono ?_
      rintro e w5 ⟨rfl, hb5⟩
      have h1 := h1.later hb5
      have cB := (hb5.cell (p := ⟨B, 0, none⟩) hBW).trans cB
      obtain ⟨d0, d1, d2, d3, d4, d5⟩ := bx _ hb5
      clear c0 c1 c2 c3 c4 c5
      go_wp2_with fail
      refine (frame12_is len1 win1 ba bc true w5 h1 h1w h1l hl1 HQ1.out).mono ?_
      rintro e w6 ⟨rfl, hb6⟩
      go_wp2
      go_ret
      exact ⟨by rw [HX.out]; rfl, HB.out.trans ((hb5.trans (hb6.mono hb5.size)).mono HB.out.size)⟩
    | false =>
      have HX := Lib.hid (show holdsP (⟨parts, chans, len0, win0, len1, win1⟩ : Cfg) 12 = false by rw [hval, hq, hq1]; rfl)
      have HQ := Lib.hid hq; have HQ1 := Lib.hid hq1
      clear hval hq hq1
      go_enter Tryz.func184, Tryz.ntmps184
      go_wp2_with (rw [← HW.out])
      refine (frame12_is len0 win0 aa ac false W h0 h0w h0l hl0 HQ.out).mono ?_
      rintro e w5 ⟨rfl, hb5⟩
      have h1 := h1.later hb5
      have cB := (hb5.cell (p := ⟨B, 0, none⟩) hBW).trans cB
      obtain ⟨d0, d1, d2, d3, d4, d5⟩ := bx _ hb5
      clear c0 c1 c2 c3 c4 c5
      go_wp2_with fail
      refine (frame12_is len1 win1 ba bc false w5 h1 h1w h1l hl1 HQ1.out).mono ?_
      rintro e w6 ⟨rfl, hb6⟩
      go_wp2
      go_ret
      exact ⟨by rw [HX.out]; rfl, HB.out.trans ((hb5.trans (hb6.mono hb5.size)).mono HB.out.size)⟩

theorem frame13_is (len : Int) (win : List (List Int)) (A : Option Addr) (c : Nat) (q : Bool) (w : World) (hr : RowN [.i64, .i64, .i64] w w.heap.size A win) (wl : wfR [.i64, .i64, .i64] win) (hl : win.length ≤ 1000000) (hlen : (Lit.int .i64 len).wf = true) (h : frameB 13 len win = q) : Calls Tryz.prog 170 #[.agg #[.int .i64 len, .slice A win.length c]] w fun e w' => e = .returned (.bool q) ∧ Below w.heap.size w w' := by subst h; exact frame13_b len win A c w hr wl hl hlen
set_option maxRecDepth 100000 in
set_option maxHeartbeats 4000000 in
theorem row13_b (parts chans : List (List Int)) (len0 : Int) (win0 : List (List Int)) (len1 : Int) (win1 : List (List Int)) (pa : Option Addr) (pc : Nat) (ca : Option Addr) (cc : Nat) (aa : Option Addr) (ac : Nat) (ba : Option Addr) (bc : Nat) (B : Nat) (w : World) (hp : RowN [.i64, .i64] w w.heap.size pa parts) (hpw : wfR [.i64, .i64] parts) (hpl : parts.length ≤ 1000000) (hc : RowN [.i64, .i64, .i64, .i64, .i64, .i64, .u32] w w.heap.size ca chans) (hcw : wfR [.i64, .i64, .i64, .i64, .i64, .i64, .u32] chans) (hcl : chans.length ≤ 1000000) (h0 : RowN [.i64, .i64, .i64] w w.heap.size aa win0) (h0w : wfR [.i64, .i64, .i64] win0) (h0l : win0.length ≤ 1000000) (h1 : RowN [.i64, .i64, .i64] w w.heap.size ba win1) (h1w : wfR [.i64, .i64, .i64] win1) (h1l : win1.length ≤ 1000000) (hl0 : (Lit.int .i64 len0).wf = true) (hl1 : (Lit.int .i64 len1).wf = true) (hB : w.cell? ⟨B, 0, none⟩ = some (.func (.func 170) #[] #[])) :
    Calls Tryz.prog 184 #[.agg #[.slice pa parts.length pc, .slice ca chans.length cc, .int .i64 len0, .slice aa win0.length ac, .int .i64 len1, .slice ba win1.length bc], .pointer (some ⟨B, 0, none⟩)] w fun e w' => e = .returned (.bool (holdsP (⟨parts, chans, len0, win0, len1, win1⟩ : Cfg) 13)) ∧ Below w.heap.size w w' := by
  have hBw : B < w.heap.size := World.block_lt_of_cell? w _ hB
  have hval : holdsP (⟨parts, chans, len0, win0, len1, win1⟩ : Cfg) 13 = (frameB 13 len0 win0 || frameB 13 len1 win1) := by simp [holdsP, holdsB, winsB, frameB]
  obtain ⟨W, HW, hB_, -, bx⟩ := one_cbox w ⟨parts, chans, len0, win0, len1, win1⟩ ⟨pa, pc, ca, cc, aa, ac, ba, bc⟩ 29
  have HBx := hB_
  have hp := hp.later hB_; have hc := hc.later hB_; have h0 := h0.later hB_; have h1 := h1.later hB_
  have HB := Lib.hid hB_
  have cB : W.cell? ⟨B, 0, none⟩ = some (.func (.func 170) #[] #[]) := (hB_.cell (p := ⟨B, 0, none⟩) hBw).trans hB
  have hBW : B < W.heap.size := Nat.lt_of_lt_of_le hBw hB_.size
  obtain ⟨c0, c1, c2, c3, c4, c5⟩ := bx _ (Below.refl _ _)
  clear hB_ HBx
  cases hq : frameB 13 len0 win0 with
  | true =>
    have HX := Lib.hid (show holdsP (⟨parts, chans, len0, win0, len1, win1⟩ : Cfg) 13 = true by rw [hval, hq]; rfl)
    have HQ := Lib.hid hq
    clear hval hq
    go_enter Tryz.func184, Tryz.ntmps184
    go_wp2_with (rw [← HW.out])
    refine (frame13_is len0 win0 aa ac true W h0 h0w h0l hl0 HQ.out).mono ?_
    rintro e w5 ⟨rfl, hb5⟩
    go_wp2
    go_ret
    exact ⟨by rw [HX.out]; rfl, HB.out.trans (hb5.mono HB.out.size)⟩
  | false =>
    cases hq1 : frameB 13 len1 win1 with
    | true =>
      have HX := Lib.hid (show holdsP (⟨parts, chans, len0, win0, len1, win1⟩ : Cfg) 13 = true by rw [hval, hq, hq1]; rfl)
      have HQ := Lib.hid hq; have HQ1 := Lib.hid hq1
      clear hval hq hq1
      go_enter Tryz.func184, Tryz.ntmps184
      go_wp2_with (rw [← HW.out])
      refine (frame13_is len0 win0 aa ac false W h0 h0w h0l hl0 HQ.out).mono ?_
      rintro e w5 ⟨rfl, hb5⟩
      have h1 := h1.later hb5
      have cB := (hb5.cell (p := ⟨B, 0, none⟩) hBW).trans cB
      obtain ⟨d0, d1, d2, d3, d4, d5⟩ := bx _ hb5
      clear c0 c1 c2 c3 c4 c5
      go_wp2_with fail
      refine (frame13_is len1 win1 ba bc true w5 h1 h1w h1l hl1 HQ1.out).mono ?_
      rintro e w6 ⟨rfl, hb6⟩
      go_wp2
      go_ret
      exact ⟨by rw [HX.out]; rfl, HB.out.trans ((hb5.trans (hb6.mono hb5.size)).mono HB.out.size)⟩
    | false =>
      have HX := Lib.hid (show holdsP (⟨parts, chans, len0, win0, len1, win1⟩ : Cfg) 13 = false by rw [hval, hq, hq1]; rfl)
      have HQ := Lib.hid hq; have HQ1 := Lib.hid hq1
      clear hval hq hq1
      go_enter Tryz.func184, Tryz.ntmps184
      go_wp2_with (rw [← HW.out])
      refine (frame13_is len0 win0 aa ac false W h0 h0w h0l hl0 HQ.out).mono ?_
      rintro e w5 ⟨rfl, hb5⟩
      have h1 := h1.later hb5
      have cB := (hb5.cell (p := ⟨B, 0, none⟩) hBW).trans cB
      obtain ⟨d0, d1, d2, d3, d4, d5⟩ := bx _ hb5
      clear c0 c1 c2 c3 c4 c5
      go_wp2_with fail
      refine (frame13_is len1 win1 ba bc false w5 h1 h1w h1l hl1 HQ1.out).mono ?_
      rintro e w6 ⟨rfl, hb6⟩
      go_wp2
      go_ret
      exact ⟨by rw [HX.out]; rfl, HB.out.trans ((hb5.trans (hb6.mono hb5.size)).mono HB.out.size)⟩

theorem frame15_is (len : Int) (win : List (List Int)) (A : Option Addr) (c : Nat) (q : Bool) (w : World) (hr : RowN [.i64, .i64, .i64] w w.heap.size A win) (wl : wfR [.i64, .i64, .i64] win) (hl : win.length ≤ 1000000) (hlen : (Lit.int .i64 len).wf = true) (h : frameB 15 len win = q) : Calls Tryz.prog 172 #[.agg #[.int .i64 len, .slice A win.length c]] w fun e w' => e = .returned (.bool q) ∧ Below w.heap.size w w' := by subst h; exact frame15_b len win A c w hr wl hl hlen
set_option maxRecDepth 100000 in
set_option maxHeartbeats 4000000 in
theorem row15_b (parts chans : List (List Int)) (len0 : Int) (win0 : List (List Int)) (len1 : Int) (win1 : List (List Int)) (pa : Option Addr) (pc : Nat) (ca : Option Addr) (cc : Nat) (aa : Option Addr) (ac : Nat) (ba : Option Addr) (bc : Nat) (B : Nat) (w : World) (hp : RowN [.i64, .i64] w w.heap.size pa parts) (hpw : wfR [.i64, .i64] parts) (hpl : parts.length ≤ 1000000) (hc : RowN [.i64, .i64, .i64, .i64, .i64, .i64, .u32] w w.heap.size ca chans) (hcw : wfR [.i64, .i64, .i64, .i64, .i64, .i64, .u32] chans) (hcl : chans.length ≤ 1000000) (h0 : RowN [.i64, .i64, .i64] w w.heap.size aa win0) (h0w : wfR [.i64, .i64, .i64] win0) (h0l : win0.length ≤ 1000000) (h1 : RowN [.i64, .i64, .i64] w w.heap.size ba win1) (h1w : wfR [.i64, .i64, .i64] win1) (h1l : win1.length ≤ 1000000) (hl0 : (Lit.int .i64 len0).wf = true) (hl1 : (Lit.int .i64 len1).wf = true) (hB : w.cell? ⟨B, 0, none⟩ = some (.func (.func 172) #[] #[])) :
    Calls Tryz.prog 184 #[.agg #[.slice pa parts.length pc, .slice ca chans.length cc, .int .i64 len0, .slice aa win0.length ac, .int .i64 len1, .slice ba win1.length bc], .pointer (some ⟨B, 0, none⟩)] w fun e w' => e = .returned (.bool (holdsP (⟨parts, chans, len0, win0, len1, win1⟩ : Cfg) 15)) ∧ Below w.heap.size w w' := by
  have hBw : B < w.heap.size := World.block_lt_of_cell? w _ hB
  have hval : holdsP (⟨parts, chans, len0, win0, len1, win1⟩ : Cfg) 15 = (frameB 15 len0 win0 || frameB 15 len1 win1) := by simp [holdsP, holdsB, winsB, frameB]
  obtain ⟨W, HW, hB_, -, bx⟩ := one_cbox w ⟨parts, chans, len0, win0, len1, win1⟩ ⟨pa, pc, ca, cc, aa, ac, ba, bc⟩ 29
  have HBx := hB_
  have hp := hp.later hB_; have hc := hc.later hB_; have h0 := h0.later hB_; have h1 := h1.later hB_
  have HB := Lib.hid hB_
  have cB : W.cell? ⟨B, 0, none⟩ = some (.func (.func 172) #[] #[]) := (hB_.cell (p := ⟨B, 0, none⟩) hBw).trans hB
  have hBW : B < W.heap.size := Nat.lt_of_lt_of_le hBw hB_.size
  obtain ⟨c0, c1, c2, c3, c4, c5⟩ := bx _ (Below.refl _ _)
  clear hB_ HBx
  cases hq : frameB 15 len0 win0 with
  | true =>
    have HX := Lib.hid (show holdsP (⟨parts, chans, len0, win0, len1, win1⟩ : Cfg) 15 = true by rw [hval, hq]; rfl)
    have HQ := Lib.hid hq
    clear hval hq
    go_enter Tryz.func184, Tryz.ntmps184
    go_wp2_with (rw [← HW.out])
    refine (frame15_is len0 win0 aa ac true W h0 h0w h0l hl0 HQ.out).mono ?_
    rintro e w5 ⟨rfl, hb5⟩
    go_wp2
    go_ret
    exact ⟨by rw [HX.out]; rfl, HB.out.trans (hb5.mono HB.out.size)⟩
  | false =>
    cases hq1 : frameB 15 len1 win1 with
    | true =>
      have HX := Lib.hid (show holdsP (⟨parts, chans, len0, win0, len1, win1⟩ : Cfg) 15 = true by rw [hval, hq, hq1]; rfl)
      have HQ := Lib.hid hq; have HQ1 := Lib.hid hq1
      clear hval hq hq1
      go_enter Tryz.func184, Tryz.ntmps184
      go_wp2_with (rw [← HW.out])
      refine (frame15_is len0 win0 aa ac false W h0 h0w h0l hl0 HQ.out).mono ?_
      rintro e w5 ⟨rfl, hb5⟩
      have h1 := h1.later hb5
      have cB := (hb5.cell (p := ⟨B, 0, none⟩) hBW).trans cB
      obtain ⟨d0, d1, d2, d3, d4, d5⟩ := bx _ hb5
      clear c0 c1 c2 c3 c4 c5
      go_wp2_with fail
      refine (frame15_is len1 win1 ba bc true w5 h1 h1w h1l hl1 HQ1.out).mono ?_
      rintro e w6 ⟨rfl, hb6⟩
      go_wp2
      go_ret
      exact ⟨by rw [HX.out]; rfl, HB.out.trans ((hb5.trans (hb6.mono hb5.size)).mono HB.out.size)⟩
    | false =>
      have HX := Lib.hid (show holdsP (⟨parts, chans, len0, win0, len1, win1⟩ : Cfg) 15 = false by rw [hval, hq, hq1]; rfl)
      have HQ := Lib.hid hq; have HQ1 := Lib.hid hq1
      clear hval hq hq1
      go_enter Tryz.func184, Tryz.ntmps184
      go_wp2_with (rw [← HW.out])
      refine (frame15_is len0 win0 aa ac false W h0 h0w h0l hl0 HQ.out).mono ?_
      rintro e w5 ⟨rfl, hb5⟩
      have h1 := h1.later hb5
      have cB := (hb5.cell (p := ⟨B, 0, none⟩) hBW).trans cB
      obtain ⟨d0, d1, d2, d3, d4, d5⟩ := bx _ hb5
      clear c0 c1 c2 c3 c4 c5
      go_wp2_with fail
      refine (frame15_is len1 win1 ba bc false w5 h1 h1w h1l hl1 HQ1.out).mono ?_
      rintro e w6 ⟨rfl, hb6⟩
      go_wp2
      go_ret
      exact ⟨by rw [HX.out]; rfl, HB.out.trans ((hb5.trans (hb6.mono hb5.size)).mono HB.out.size)⟩

theorem frame16_is (len : Int) (win : List (List Int)) (A : Option Addr) (c : Nat) (q : Bool) (w : World) (hr : RowN [.i64, .i64, .i64] w w.heap.size A win) (wl : wfR [.i64, .i64, .i64] win) (hl : win.length ≤ 1000000) (hlen : (Lit.int .i64 len).wf = true) (h : frameB 16 len win = q) : Calls Tryz.prog 173 #[.agg #[.int .i64 len, .slice A win.length c]] w fun e w' => e = .returned (.bool q) ∧ Below w.heap.size w w' := by subst h; exact frame16_b len win A c w hr wl hl hlen
set_option maxRecDepth 100000 in
set_option maxHeartbeats 4000000 in
theorem row16_b (parts chans : List (List Int)) (len0 : Int) (win0 : List (List Int)) (len1 : Int) (win1 : List (List Int)) (pa : Option Addr) (pc : Nat) (ca : Option Addr) (cc : Nat) (aa : Option Addr) (ac : Nat) (ba : Option Addr) (bc : Nat) (B : Nat) (w : World) (hp : RowN [.i64, .i64] w w.heap.size pa parts) (hpw : wfR [.i64, .i64] parts) (hpl : parts.length ≤ 1000000) (hc : RowN [.i64, .i64, .i64, .i64, .i64, .i64, .u32] w w.heap.size ca chans) (hcw : wfR [.i64, .i64, .i64, .i64, .i64, .i64, .u32] chans) (hcl : chans.length ≤ 1000000) (h0 : RowN [.i64, .i64, .i64] w w.heap.size aa win0) (h0w : wfR [.i64, .i64, .i64] win0) (h0l : win0.length ≤ 1000000) (h1 : RowN [.i64, .i64, .i64] w w.heap.size ba win1) (h1w : wfR [.i64, .i64, .i64] win1) (h1l : win1.length ≤ 1000000) (hl0 : (Lit.int .i64 len0).wf = true) (hl1 : (Lit.int .i64 len1).wf = true) (hB : w.cell? ⟨B, 0, none⟩ = some (.func (.func 173) #[] #[])) :
    Calls Tryz.prog 184 #[.agg #[.slice pa parts.length pc, .slice ca chans.length cc, .int .i64 len0, .slice aa win0.length ac, .int .i64 len1, .slice ba win1.length bc], .pointer (some ⟨B, 0, none⟩)] w fun e w' => e = .returned (.bool (holdsP (⟨parts, chans, len0, win0, len1, win1⟩ : Cfg) 16)) ∧ Below w.heap.size w w' := by
  have hBw : B < w.heap.size := World.block_lt_of_cell? w _ hB
  have hval : holdsP (⟨parts, chans, len0, win0, len1, win1⟩ : Cfg) 16 = (frameB 16 len0 win0 || frameB 16 len1 win1) := by simp [holdsP, holdsB, winsB, frameB]
  obtain ⟨W, HW, hB_, -, bx⟩ := one_cbox w ⟨parts, chans, len0, win0, len1, win1⟩ ⟨pa, pc, ca, cc, aa, ac, ba, bc⟩ 29
  have HBx := hB_
  have hp := hp.later hB_; have hc := hc.later hB_; have h0 := h0.later hB_; have h1 := h1.later hB_
  have HB := Lib.hid hB_
  have cB : W.cell? ⟨B, 0, none⟩ = some (.func (.func 173) #[] #[]) := (hB_.cell (p := ⟨B, 0, none⟩) hBw).trans hB
  have hBW : B < W.heap.size := Nat.lt_of_lt_of_le hBw hB_.size
  obtain ⟨c0, c1, c2, c3, c4, c5⟩ := bx _ (Below.refl _ _)
  clear hB_ HBx
  cases hq : frameB 16 len0 win0 with
  | true =>
    have HX := Lib.hid (show holdsP (⟨parts, chans, len0, win0, len1, win1⟩ : Cfg) 16 = true by rw [hval, hq]; rfl)
    have HQ := Lib.hid hq
    clear hval hq
    go_enter Tryz.func184, Tryz.ntmps184
    go_wp2_with (rw [← HW.out])
    refine (frame16_is len0 win0 aa ac true W h0 h0w h0l hl0 HQ.out).mono ?_
    rintro e w5 ⟨rfl, hb5⟩
    go_wp2
    go_ret
    exact ⟨by rw [HX.out]; rfl, HB.out.trans (hb5.mono HB.out.size)⟩
  | false =>
    cases hq1 : frameB 16 len1 win1 with
    | true =>
      have HX := Lib.hid (show holdsP (⟨parts, chans, len0, win0, len1, win1⟩ : Cfg) 16 = true by rw [hval, hq, hq1]; rfl)
      have HQ := Lib.hid hq; have HQ1 := Lib.hid hq1
      clear hval hq hq1
      go_enter Tryz.func184, Tryz.ntmps184
      go_wp2_with (rw [← HW.out])
      refine (frame16_is len0 win0 aa ac false W h0 h0w h0l hl0 HQ.out).mono ?_
      rintro e w5 ⟨rfl, hb5⟩
      have h1 := h1.later hb5
      have cB := (hb5.cell (p := ⟨B, 0, none⟩) hBW).trans cB
      obtain ⟨d0, d1, d2, d3, d4, d5⟩ := bx _ hb5
      clear c0 c1 c2 c3 c4 c5
      go_wp2_with fail
      refine (frame16_is len1 win1 ba bc true w5 h1 h1w h1l hl1 HQ1.out).mono ?_
      rintro e w6 ⟨rfl, hb6⟩
      go_wp2
      go_ret
      exact ⟨by rw [HX.out]; rfl, HB.out.trans ((hb5.trans (hb6.mono hb5.size)).mono HB.out.size)⟩
    | false =>
      have HX := Lib.hid (show holdsP (⟨parts, chans, len0, win0, len1, win1⟩ : Cfg) 16 = false by rw [hval, hq, hq1]; rfl)
      have HQ := Lib.hid hq; have HQ1 := Lib.hid hq1
      clear hval hq hq1
      go_enter Tryz.func184, Tryz.ntmps184
      go_wp2_with (rw [← HW.out])
      refine (frame16_is len0 win0 aa ac false W h0 h0w h0l hl0 HQ.out).mono ?_
      rintro e w5 ⟨rfl, hb5⟩
      have h1 := h1.later hb5
      have cB := (hb5.cell (p := ⟨B, 0, none⟩) hBW).trans cB
      obtain ⟨d0, d1, d2, d3, d4, d5⟩ := bx _ hb5
      clear c0 c1 c2 c3 c4 c5
      go_wp2_with fail
      refine (frame16_is len1 win1 ba bc false w5 h1 h1w h1l hl1 HQ1.out).mono ?_
      rintro e w6 ⟨rfl, hb6⟩
      go_wp2
      go_ret
      exact ⟨by rw [HX.out]; rfl, HB.out.trans ((hb5.trans (hb6.mono hb5.size)).mono HB.out.size)⟩
end Go.Proofs.YtmhpcgcloojfbaaGreatDoor
