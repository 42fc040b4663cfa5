/- The document's Buffer and Cell, as contracts. No condition but those in the statements. The document's Buffer, as a contract. No condition but those in the statements. -/
import Derived.Test.YtjnmgofkdimdaaaRSrc
import Derived.BigQuiet
import Derived.IntWalk
namespace Go.Proofs.Ytjnmgofkdimdaaa
open Go.RowKit Go.Sort Go.ChangeShapes Go.WideShapes
set_option linter.unusedVariables false
set_option linter.unusedSimpArgs false

/-- A cell, From and Size; noughts, if there is none. -/
def cellSpan (c : Cfg) (k i : Int) : Int × Int := if chanB c k = true ∧ (fld (row c.chans k.toNat) 0 = 2 ∧ 0 ≤ i ∧ i < fld (row c.chans k.toNat) 4) then (beforeN c k.toNat + 1 + i * (fld (row c.chans k.toNat) 3 + 1), fld (row c.chans k.toNat) 3 + 1) else (0, 0)

set_option maxRecDepth 100000 in
set_option maxHeartbeats 8000000 in
theorem rcell_b (c : Cfg) (x : CfgAt) (k : Int) (i : Int) (w : World) (hx : CfgIn w w.heap.size c x) (wx : CfgWf c) (lx : CfgFew c) : Calls Try.prog 24 #[.agg (cfgCells c x), .int .i64 k, .int .i64 i] w fun e w' => e = .returned (.agg #[.int .i64 (cellSpan c k i).1, .int .i64 (cellSpan c k i).2]) ∧ Below w.heap.size w w' := by
  obtain ⟨Wc, HWc, hBc, hWs, bx⟩ := one_cbox w c x 29
  obtain ⟨pa, pc, ca, cc, aa, ac, ba, bc⟩ := x
  obtain ⟨W, HW⟩ : ∃ u, Hid (u = Wc.alloc (.cells #[.int .i64 0, .int .i64 0] 36)) := ⟨_, rfl⟩
  obtain ⟨r, hr⟩ : ∃ r, r = Wc.heap.size := ⟨_, rfl⟩
  have hrr : Wc.heap.size ≤ r := by omega
  have hR : W.heap[r]? = some (.cells #[.int .i64 0, .int .i64 0] 36 (0, 0)) := by rw [HW.out, hr]; exact heap_alloc_new _ _
  have hBW : Below Wc.heap.size Wc W := by rw [HW.out]; exact (Below.refl _ _).alloc (Nat.le_refl _) _
  have hxW := hx.later (hBc.trans (hBW.mono hBc.size))
  obtain ⟨c0, c1, c2, c3, c4, c5⟩ := bx _ hBW
  have HB := Lib.hid hBc; have HR0 := Lib.hid hR; have HBW := Lib.hid hBW; have HXW := Lib.hid hxW; have HXC := Lib.hid (hx.later hBc); have HRR := Lib.hid hr
  simp only [cfgCells] at HWc ⊢
  clear hBc hR hBW hxW hx hr hWs
  cases hq : chanB c k with
  | false =>
    have HX := Lib.hid (show cellSpan c k i = (0, 0) from if_neg (fun h => by rw [hq] at h; cases h.1))
    have HC := Lib.hid (rchan_is c ⟨pa, pc, ca, cc, aa, ac, ba, bc⟩ k false W HXW.out wx lx hq)
    clear hq
    go_enter Try.func24, Try.ntmps24
    go_wp2_with (first | (rw [← HWc.out]) | (rw [← HW.out]))
    refine HC.out.mono ?_
    rintro e w5 ⟨rfl, hb5⟩
    have hR5 := (hb5.block r (Array.getElem?_eq_some_iff.1 HR0.out).1).trans HR0.out
    have z0 := cell_blk hR5 (i := 0) rfl
    have z1 := cell_blk hR5 (i := 1) rfl
    have f0 : w5.frozen? ⟨r, 0, none⟩ = false := by simp [World.frozen?, hR5]
    have f1 : w5.frozen? ⟨r, 1, none⟩ = false := by simp [World.frozen?, hR5]
    have HR5 := Lib.hid hR5
    have HF := Lib.hid (HB.out.trans ((HBW.out.trans (hb5.mono HBW.out.size)).mono HB.out.size))
    obtain ⟨g0, g1, g2, g3, g4, g5⟩ := bx _ (HBW.out.trans (hb5.mono HBW.out.size))
    clear hb5 hR5 c0 c1 c2 c3 c4 c5
    simp only [← HRR.out]
    go_wp2
    have hRz : ((w5.setCell ⟨r, 0, none⟩ (.int .i64 0)).setCell ⟨r, 1, none⟩ (.int .i64 0)).heap[r]? = some (.cells #[.int .i64 0, .int .i64 0] 36 (0, 0)) := by simp [World.setCell, Array.getElem?_modify, HR5.out]
    refine bodyPost_ret (results_cell_span rfl _ _ r 0 0 rfl (cell_blk hRz (i := 0) rfl) (cell_blk hRz (i := 1) rfl)) rfl ⟨by rw [HX.out], (HF.out.setCell (p := ⟨r, 0, none⟩) ?_ _).setCell (p := ⟨r, 1, none⟩) ?_ _⟩ <;> (have := HB.out.size; show w.heap.size ≤ r; omega)
  | true =>
    have hq2 : (0 ≤ k ∧ k < (c.chans.length : Int)) ∧ acceptsB c = true := by
      unfold chanB at hq
      rw [Bool.and_eq_true] at hq
      exact ⟨of_decide_eq_true hq.1, hq.2⟩
    have HA := Lib.hid (accd_of hq2.2)
    obtain ⟨⟨k0, k1⟩, -⟩ := hq2
    obtain ⟨n, rfl⟩ := Int.eq_ofNat_of_zero_le k0
    have HQ := Lib.hid hq
    have HC := Lib.hid (rchan_is c ⟨pa, pc, ca, cc, aa, ac, ba, bc⟩ (n : Int) true W HXW.out wx lx hq)
    have hn : n < c.chans.length := by omega
    obtain ⟨b, o, x0, x1, x2, x3, x4, x5, x6, e0, _, e1, -, hrow⟩ := HXC.out.rc.at7 wx.wc hn
    obtain ⟨a1, a2, a3, a4, a5, _⟩ := HA.out.chan n hn
    rw [row_at e1] at a1 a2 a3 a4 a5
    have b2 : 1 ≤ x3 := a2
    have b3 : x3 ≤ 16 := a3
    have b4 : 0 ≤ x4 := a4
    have b5 : x4 ≤ 8 := a5
    have b1 : x0 = 1 ∨ x0 = 2 := a1
    have hbn := beforeN_in HA.out (k := n) (by omega)
    have HB1 := Lib.hid (show ∀ W', Below Wc.heap.size Wc W' → Calls Try.prog 33 #[.agg (cfgCells c ⟨pa, pc, ca, cc, aa, ac, ba, bc⟩), .int .i64 (n : Int)] W' (fun e w' => e = .returned (.int .i64 (beforeN c n)) ∧ Below W'.heap.size W' w') from fun W' hb => rbefore_is c ⟨pa, pc, ca, cc, aa, ac, ba, bc⟩ n W' (HXC.out.later hb) wx lx HA.out (by omega))
    simp only [cfgCells] at HB1
    obtain ⟨p, hp⟩ : ∃ p, beforeN c n = p := ⟨_, rfl⟩
    rw [hp] at HB1 hbn
    have HP := Lib.hid hp
    have E1 := Lib.hid e1
    have s0 : (0 : Int) ≤ (n : Int) := by omega
    have s1 : (n : Int) < (c.chans.length : Int) := by omega
    clear hp hq a1 a2 a3 a4 a5 e1
    subst e0
    have B1 := Lib.hid b1
    clear b1
    by_cases h1 : x0 = 2
    · have h1a : ((x0 : Int) == 2) = true := by simp [h1]
      have h1b : ((x0 : Int) != 2) = false := by simp [h1]
      by_cases h2 : i < 0
      · have HX := Lib.hid (show cellSpan c (n : Int) i = (0, 0) from if_neg (fun h => by have h2 := h.2; rw [show ((n : Int)).toNat = n by simp, row_at E1.out] at h2; have h3 := (show x0 = 2 ∧ 0 ≤ i ∧ i < x4 from h2); omega))
        go_enter Try.func24, Try.ntmps24
        go_wp2_with (first | (rw [← HWc.out]) | (rw [← HW.out]))
        refine HC.out.mono ?_
        rintro e w5 ⟨rfl, hb5⟩
        have hB5 := HBW.out.trans (hb5.mono HBW.out.size)
        obtain ⟨q0, q1, q2, q3, q4, q5, q6⟩ := hrow _ hB5
        clear hB5 hrow
        have hR5 := (hb5.block r (Array.getElem?_eq_some_iff.1 HR0.out).1).trans HR0.out
        have z0 := cell_blk hR5 (i := 0) rfl
        have z1 := cell_blk hR5 (i := 1) rfl
        have f0 : w5.frozen? ⟨r, 0, none⟩ = false := by simp [World.frozen?, hR5]
        have f1 : w5.frozen? ⟨r, 1, none⟩ = false := by simp [World.frozen?, hR5]
        have HR5 := Lib.hid hR5
        have HF := Lib.hid (HB.out.trans ((HBW.out.trans (hb5.mono HBW.out.size)).mono HB.out.size))
        obtain ⟨g0, g1, g2, g3, g4, g5⟩ := bx _ (HBW.out.trans (hb5.mono HBW.out.size))
        clear hb5 hR5 c0 c1 c2 c3 c4 c5
        simp only [← HRR.out]
        go_wp2
        have hRz : ((w5.setCell ⟨r, 0, none⟩ (.int .i64 0)).setCell ⟨r, 1, none⟩ (.int .i64 0)).heap[r]? = some (.cells #[.int .i64 0, .int .i64 0] 36 (0, 0)) := by simp [World.setCell, Array.getElem?_modify, HR5.out]
        refine bodyPost_ret (results_cell_span rfl _ _ r 0 0 rfl (cell_blk hRz (i := 0) rfl) (cell_blk hRz (i := 1) rfl)) rfl ⟨by rw [HX.out], (HF.out.setCell (p := ⟨r, 0, none⟩) ?_ _).setCell (p := ⟨r, 1, none⟩) ?_ _⟩ <;> (have := HB.out.size; show w.heap.size ≤ r; omega)
      · have h2d : decide (i < 0) = false := decide_eq_false h2
        by_cases h3 : x4 ≤ i
        · have HX := Lib.hid (show cellSpan c (n : Int) i = (0, 0) from if_neg (fun h => by have h2 := h.2; rw [show ((n : Int)).toNat = n by simp, row_at E1.out] at h2; have h3 := (show x0 = 2 ∧ 0 ≤ i ∧ i < x4 from h2); omega))
          go_enter Try.func24, Try.ntmps24
          go_wp2_with (first | (rw [← HWc.out]) | (rw [← HW.out]))
          refine HC.out.mono ?_
          rintro e w5 ⟨rfl, hb5⟩
          have hB5 := HBW.out.trans (hb5.mono HBW.out.size)
          obtain ⟨q0, q1, q2, q3, q4, q5, q6⟩ := hrow _ hB5
          clear hB5 hrow
          have hR5 := (hb5.block r (Array.getElem?_eq_some_iff.1 HR0.out).1).trans HR0.out
          have z0 := cell_blk hR5 (i := 0) rfl
          have z1 := cell_blk hR5 (i := 1) rfl
          have f0 : w5.frozen? ⟨r, 0, none⟩ = false := by simp [World.frozen?, hR5]
          have f1 : w5.frozen? ⟨r, 1, none⟩ = false := by simp [World.frozen?, hR5]
          have HR5 := Lib.hid hR5
          have HF := Lib.hid (HB.out.trans ((HBW.out.trans (hb5.mono HBW.out.size)).mono HB.out.size))
          obtain ⟨g0, g1, g2, g3, g4, g5⟩ := bx _ (HBW.out.trans (hb5.mono HBW.out.size))
          clear hb5 hR5 c0 c1 c2 c3 c4 c5
          simp only [← HRR.out]
          go_wp2
          have hRz : ((w5.setCell ⟨r, 0, none⟩ (.int .i64 0)).setCell ⟨r, 1, none⟩ (.int .i64 0)).heap[r]? = some (.cells #[.int .i64 0, .int .i64 0] 36 (0, 0)) := by simp [World.setCell, Array.getElem?_modify, HR5.out]
          refine bodyPost_ret (results_cell_span rfl _ _ r 0 0 rfl (cell_blk hRz (i := 0) rfl) (cell_blk hRz (i := 1) rfl)) rfl ⟨by rw [HX.out], (HF.out.setCell (p := ⟨r, 0, none⟩) ?_ _).setCell (p := ⟨r, 1, none⟩) ?_ _⟩ <;> (have := HB.out.size; show w.heap.size ≤ r; omega)
        · have h3d : decide (x4 ≤ i) = false := decide_eq_false h3
          have HX := Lib.hid (show cellSpan c (n : Int) i = (p + 1 + i * (x3 + 1), x3 + 1) by
            refine (if_pos ⟨HQ.out, ?_⟩).trans ?_
            · rw [show ((n : Int)).toNat = n by simp, row_at E1.out, HP.out]; rfl
            · rw [show ((n : Int)).toNat = n by simp, row_at E1.out]; exact (show x0 = 2 ∧ 0 ≤ i ∧ i < x4 by omega))
          go_enter Try.func24, Try.ntmps24
          go_wp2_with (first | (rw [← HWc.out]) | (rw [← HW.out]))
          refine HC.out.mono ?_
          rintro e w5 ⟨rfl, hb5⟩
          have hR := (hb5.block r (Array.getElem?_eq_some_iff.1 HR0.out).1).trans HR0.out
          have hB := HBW.out.trans (hb5.mono HBW.out.size)
          obtain ⟨g0, g1, g2, g3, g4, g5⟩ := bx _ hB
          obtain ⟨q0, q1, q2, q3, q4, q5, q6⟩ := hrow _ hB
          have HR5 := Lib.hid hR; have HB5 := Lib.hid hB
          clear hb5 hR hB c0 c1 c2 c3 c4 c5
          simp only [← HRR.out]
          go_wp2_with fail
          refine (HB1.out _ HB5.out).mono ?_
          rintro e w6 ⟨rfl, hl⟩
          have hR6 := (hl.block r (Array.getElem?_eq_some_iff.1 HR5.out).1).trans HR5.out
          have z0 := cell_blk hR6 (i := 0) rfl
          have z1 := cell_blk hR6 (i := 1) rfl
          have f0 : w6.frozen? ⟨r, 0, none⟩ = false := by simp [World.frozen?, hR6]
          have f1 : w6.frozen? ⟨r, 1, none⟩ = false := by simp [World.frozen?, hR6]
          have HR6 := Lib.hid hR6
          have HB6 := Lib.hid (HB5.out.trans (hl.mono HB5.out.size))
          have m1 : 0 ≤ i * (x3 + 1) := Int.mul_nonneg (by omega) (by omega)
          have m2 : i * (x3 + 1) ≤ 8 * 17 := Int.mul_le_mul (by omega) (by omega) (by omega) (by omega)
          have v0 := IntWalk.i64_in (i * (x3 + 1)) (by omega)
          have v1 := IntWalk.i64_in (p + 1) (by omega)
          have v2 := IntWalk.i64_in (p + 1 + i * (x3 + 1)) (by omega)
          clear hl hR6 g0 g1 g2 g3 g4 g5 q0 q1 q2 q3 q4 q5 q6
          go_wp2
          have hRz : ((w6.setCell ⟨r, 0, none⟩ (.int .i64 (p + 1 + i * (x3 + 1)))).setCell ⟨r, 1, none⟩ (.int .i64 (x3 + 1))).heap[r]? = some (.cells #[.int .i64 (p + 1 + i * (x3 + 1)), .int .i64 (x3 + 1)] 36 (0, 0)) := by simp [World.setCell, Array.getElem?_modify, HR6.out]
          exact bodyPost_ret (results_cell_span rfl _ _ r _ _ rfl (cell_blk hRz (i := 0) rfl) (cell_blk hRz (i := 1) rfl)) rfl ⟨by rw [HX.out], HB.out.trans ((((HB6.out.setCell (p := ⟨r, 0, none⟩) hrr _).setCell (p := ⟨r, 1, none⟩) hrr _)).mono HB.out.size)⟩
    · have h1a : ((x0 : Int) == 2) = false := by simp [h1]
      have h1b : ((x0 : Int) != 2) = true := by simp [h1]
      have HX := Lib.hid (show cellSpan c (n : Int) i = (0, 0) from if_neg (fun h => by have h2 := h.2; rw [show ((n : Int)).toNat = n by simp, row_at E1.out] at h2; have h3 := (show x0 = 2 ∧ 0 ≤ i ∧ i < x4 from h2); omega))
      go_enter Try.func24, Try.ntmps24
      go_wp2_with (first | (rw [← HWc.out]) | (rw [← HW.out]))
      refine HC.out.mono ?_
      rintro e w5 ⟨rfl, hb5⟩
      have hB5 := HBW.out.trans (hb5.mono HBW.out.size)
      obtain ⟨q0, q1, q2, q3, q4, q5, q6⟩ := hrow _ hB5
      clear hB5 hrow
      have hR5 := (hb5.block r (Array.getElem?_eq_some_iff.1 HR0.out).1).trans HR0.out
      have z0 := cell_blk hR5 (i := 0) rfl
      have z1 := cell_blk hR5 (i := 1) rfl
      have f0 : w5.frozen? ⟨r, 0, none⟩ = false := by simp [World.frozen?, hR5]
      have f1 : w5.frozen? ⟨r, 1, none⟩ = false := by simp [World.frozen?, hR5]
      have HR5 := Lib.hid hR5
      have HF := Lib.hid (HB.out.trans ((HBW.out.trans (hb5.mono HBW.out.size)).mono HB.out.size))
      obtain ⟨g0, g1, g2, g3, g4, g5⟩ := bx _ (HBW.out.trans (hb5.mono HBW.out.size))
      clear hb5 hR5 c0 c1 c2 c3 c4 c5
      simp only [← HRR.out]
      go_wp2
      have hRz : ((w5.setCell ⟨r, 0, none⟩ (.int .i64 0)).setCell ⟨r, 1, none⟩ (.int .i64 0)).heap[r]? = some (.cells #[.int .i64 0, .int .i64 0] 36 (0, 0)) := by simp [World.setCell, Array.getElem?_modify, HR5.out]
      refine bodyPost_ret (results_cell_span rfl _ _ r 0 0 rfl (cell_blk hRz (i := 0) rfl) (cell_blk hRz (i := 1) rfl)) rfl ⟨by rw [HX.out], (HF.out.setCell (p := ⟨r, 0, none⟩) ?_ _).setCell (p := ⟨r, 1, none⟩) ?_ _⟩ <;> (have := HB.out.size; show w.heap.size ≤ r; omega)
end Go.Proofs.Ytjnmgofkdimdaaa

namespace Go.Proofs.Ytjnmgofkdimdaaa
open Go.RowKit Go.Sort Go.ChangeShapes Go.WideShapes
set_option linter.unusedVariables false
set_option linter.unusedSimpArgs false

/-- A buffer, From and Size; noughts, if there is none. -/
def bufSpan (c : Cfg) (k pr ix : Int) : Int × Int := if chanB c k = true ∧ (fld (row c.chans k.toNat) 0 = 1 ∧ 0 ≤ pr ∧ pr ≤ 1 ∧ 0 ≤ ix ∧ ix ≤ 1) then (beforeN c k.toNat + 3 + pr * 2 * (fld (row c.chans k.toNat) 3 + 2) + ix * (fld (row c.chans k.toNat) 3 + 2), fld (row c.chans k.toNat) 3 + 2) else (0, 0)

set_option maxRecDepth 100000 in
set_option maxHeartbeats 8000000 in
theorem rbuffer_b (c : Cfg) (x : CfgAt) (k : Int) (pr : Int) (ix : Int) (w : World) (hx : CfgIn w w.heap.size c x) (wx : CfgWf c) (lx : CfgFew c) : Calls Try.prog 22 #[.agg (cfgCells c x), .int .i64 k, .int .i64 pr, .int .i64 ix] w fun e w' => e = .returned (.agg #[.int .i64 (bufSpan c k pr ix).1, .int .i64 (bufSpan c k pr ix).2]) ∧ Below w.heap.size w w' := by
  obtain ⟨Wc, HWc, hBc, hWs, bx⟩ := one_cbox w c x 29
  obtain ⟨pa, pc, ca, cc, aa, ac, ba, bc⟩ := x
  obtain ⟨W, HW⟩ : ∃ u, Hid (u = Wc.alloc (.cells #[.int .i64 0, .int .i64 0] 36)) := ⟨_, rfl⟩
  obtain ⟨r, hr⟩ : ∃ r, r = Wc.heap.size := ⟨_, rfl⟩
  have hrr : Wc.heap.size ≤ r := by omega
  have hR : W.heap[r]? = some (.cells #[.int .i64 0, .int .i64 0] 36 (0, 0)) := by rw [HW.out, hr]; exact heap_alloc_new _ _
  have hBW : Below Wc.heap.size Wc W := by rw [HW.out]; exact (Below.refl _ _).alloc (Nat.le_refl _) _
  have hxW := hx.later (hBc.trans (hBW.mono hBc.size))
  obtain ⟨c0, c1, c2, c3, c4, c5⟩ := bx _ hBW
  have HB := Lib.hid hBc; have HR0 := Lib.hid hR; have HBW := Lib.hid hBW; have HXW := Lib.hid hxW; have HXC := Lib.hid (hx.later hBc); have HRR := Lib.hid hr
  simp only [cfgCells] at HWc ⊢
  clear hBc hR hBW hxW hx hr hWs
  cases hq : chanB c k with
  | false =>
    have HX := Lib.hid (show bufSpan c k pr ix = (0, 0) from if_neg (fun h => by rw [hq] at h; cases h.1))
    have HC := Lib.hid (rchan_is c ⟨pa, pc, ca, cc, aa, ac, ba, bc⟩ k false W HXW.out wx lx hq)
    clear hq
    go_enter Try.func22, Try.ntmps22
    go_wp2_with (first | (rw [← HWc.out]) | (rw [← HW.out]))
    refine HC.out.mono ?_
    rintro e w5 ⟨rfl, hb5⟩
    have hR5 := (hb5.block r (Array.getElem?_eq_some_iff.1 HR0.out).1).trans HR0.out
    have z0 := cell_blk hR5 (i := 0) rfl
    have z1 := cell_blk hR5 (i := 1) rfl
    have f0 : w5.frozen? ⟨r, 0, none⟩ = false := by simp [World.frozen?, hR5]
    have f1 : w5.frozen? ⟨r, 1, none⟩ = false := by simp [World.frozen?, hR5]
    have HR5 := Lib.hid hR5
    have HF := Lib.hid (HB.out.trans ((HBW.out.trans (hb5.mono HBW.out.size)).mono HB.out.size))
    obtain ⟨g0, g1, g2, g3, g4, g5⟩ := bx _ (HBW.out.trans (hb5.mono HBW.out.size))
    clear hb5 hR5 c0 c1 c2 c3 c4 c5
    simp only [← HRR.out]
    go_wp2
    have hRz : ((w5.setCell ⟨r, 0, none⟩ (.int .i64 0)).setCell ⟨r, 1, none⟩ (.int .i64 0)).heap[r]? = some (.cells #[.int .i64 0, .int .i64 0] 36 (0, 0)) := by simp [World.setCell, Array.getElem?_modify, HR5.out]
    refine bodyPost_ret (results_cell_span rfl _ _ r 0 0 rfl (cell_blk hRz (i := 0) rfl) (cell_blk hRz (i := 1) rfl)) rfl ⟨by rw [HX.out], (HF.out.setCell (p := ⟨r, 0, none⟩) ?_ _).setCell (p := ⟨r, 1, none⟩) ?_ _⟩ <;> (have := HB.out.size; show w.heap.size ≤ r; omega)
  | true =>
    have hq2 : (0 ≤ k ∧ k < (c.chans.length : Int)) ∧ acceptsB c = true := by
      unfold chanB at hq
      rw [Bool.and_eq_true] at hq
      exact ⟨of_decide_eq_true hq.1, hq.2⟩
    have HA := Lib.hid (accd_of hq2.2)
    obtain ⟨⟨k0, k1⟩, -⟩ := hq2
    obtain ⟨n, rfl⟩ := Int.eq_ofNat_of_zero_le k0
    have HQ := Lib.hid hq
    have HC := Lib.hid (rchan_is c ⟨pa, pc, ca, cc, aa, ac, ba, bc⟩ (n : Int) true W HXW.out wx lx hq)
    have hn : n < c.chans.length := by omega
    obtain ⟨b, o, x0, x1, x2, x3, x4, x5, x6, e0, _, e1, -, hrow⟩ := HXC.out.rc.at7 wx.wc hn
    obtain ⟨a1, a2, a3, a4, a5, _⟩ := HA.out.chan n hn
    rw [row_at e1] at a1 a2 a3 a4 a5
    have b2 : 1 ≤ x3 := a2
    have b3 : x3 ≤ 16 := a3
    have b4 : 0 ≤ x4 := a4
    have b5 : x4 ≤ 8 := a5
    have b1 : x0 = 1 ∨ x0 = 2 := a1
    have hbn := beforeN_in HA.out (k := n) (by omega)
    have HB1 := Lib.hid (show ∀ W', Below Wc.heap.size Wc W' → Calls Try.prog 33 #[.agg (cfgCells c ⟨pa, pc, ca, cc, aa, ac, ba, bc⟩), .int .i64 (n : Int)] W' (fun e w' => e = .returned (.int .i64 (beforeN c n)) ∧ Below W'.heap.size W' w') from fun W' hb => rbefore_is c ⟨pa, pc, ca, cc, aa, ac, ba, bc⟩ n W' (HXC.out.later hb) wx lx HA.out (by omega))
    simp only [cfgCells] at HB1
    obtain ⟨p, hp⟩ : ∃ p, beforeN c n = p := ⟨_, rfl⟩
    rw [hp] at HB1 hbn
    have HP := Lib.hid hp
    have E1 := Lib.hid e1
    have s0 : (0 : Int) ≤ (n : Int) := by omega
    have s1 : (n : Int) < (c.chans.length : Int) := by omega
    clear hp hq a1 a2 a3 a4 a5 e1
    subst e0
    have B1 := Lib.hid b1
    clear b1
    by_cases h1 : x0 = 1
    · have h1a : ((x0 : Int) == 1) = true := by simp [h1]
      have h1b : ((x0 : Int) != 1) = false := by simp [h1]
      by_cases h2 : pr < 0
      · have HX := Lib.hid (show bufSpan c (n : Int) pr ix = (0, 0) from if_neg (fun h => by have h2 := h.2; rw [show ((n : Int)).toNat = n by simp, row_at E1.out] at h2; have h3 := (show x0 = 1 ∧ 0 ≤ pr ∧ pr ≤ 1 ∧ 0 ≤ ix ∧ ix ≤ 1 from h2); omega))
        go_enter Try.func22, Try.ntmps22
        go_wp2_with (first | (rw [← HWc.out]) | (rw [← HW.out]))
        refine HC.out.mono ?_
        rintro e w5 ⟨rfl, hb5⟩
        have hB5 := HBW.out.trans (hb5.mono HBW.out.size)
        obtain ⟨q0, q1, q2, q3, q4, q5, q6⟩ := hrow _ hB5
        clear hB5 hrow
        have hR5 := (hb5.block r (Array.getElem?_eq_some_iff.1 HR0.out).1).trans HR0.out
        have z0 := cell_blk hR5 (i := 0) rfl
        have z1 := cell_blk hR5 (i := 1) rfl
        have f0 : w5.frozen? ⟨r, 0, none⟩ = false := by simp [World.frozen?, hR5]
        have f1 : w5.frozen? ⟨r, 1, none⟩ = false := by simp [World.frozen?, hR5]
        have HR5 := Lib.hid hR5
        have HF := Lib.hid (HB.out.trans ((HBW.out.trans (hb5.mono HBW.out.size)).mono HB.out.size))
        obtain ⟨g0, g1, g2, g3, g4, g5⟩ := bx _ (HBW.out.trans (hb5.mono HBW.out.size))
        clear hb5 hR5 c0 c1 c2 c3 c4 c5
        simp only [← HRR.out]
        go_wp2
        have hRz : ((w5.setCell ⟨r, 0, none⟩ (.int .i64 0)).setCell ⟨r, 1, none⟩ (.int .i64 0)).heap[r]? = some (.cells #[.int .i64 0, .int .i64 0] 36 (0, 0)) := by simp [World.setCell, Array.getElem?_modify, HR5.out]
        refine bodyPost_ret (results_cell_span rfl _ _ r 0 0 rfl (cell_blk hRz (i := 0) rfl) (cell_blk hRz (i := 1) rfl)) rfl ⟨by rw [HX.out], (HF.out.setCell (p := ⟨r, 0, none⟩) ?_ _).setCell (p := ⟨r, 1, none⟩) ?_ _⟩ <;> (have := HB.out.size; show w.heap.size ≤ r; omega)
      · have h2d : decide (pr < 0) = false := decide_eq_false h2
        by_cases h3 : 1 < pr
        · have HX := Lib.hid (show bufSpan c (n : Int) pr ix = (0, 0) from if_neg (fun h => by have h2 := h.2; rw [show ((n : Int)).toNat = n by simp, row_at E1.out] at h2; have h3 := (show x0 = 1 ∧ 0 ≤ pr ∧ pr ≤ 1 ∧ 0 ≤ ix ∧ ix ≤ 1 from h2); omega))
          go_enter Try.func22, Try.ntmps22
          go_wp2_with (first | (rw [← HWc.out]) | (rw [← HW.out]))
          refine HC.out.mono ?_
          rintro e w5 ⟨rfl, hb5⟩
          have hB5 := HBW.out.trans (hb5.mono HBW.out.size)
          obtain ⟨q0, q1, q2, q3, q4, q5, q6⟩ := hrow _ hB5
          clear hB5 hrow
          have hR5 := (hb5.block r (Array.getElem?_eq_some_iff.1 HR0.out).1).trans HR0.out
          have z0 := cell_blk hR5 (i := 0) rfl
          have z1 := cell_blk hR5 (i := 1) rfl
          have f0 : w5.frozen? ⟨r, 0, none⟩ = false := by simp [World.frozen?, hR5]
          have f1 : w5.frozen? ⟨r, 1, none⟩ = false := by simp [World.frozen?, hR5]
          have HR5 := Lib.hid hR5
          have HF := Lib.hid (HB.out.trans ((HBW.out.trans (hb5.mono HBW.out.size)).mono HB.out.size))
          obtain ⟨g0, g1, g2, g3, g4, g5⟩ := bx _ (HBW.out.trans (hb5.mono HBW.out.size))
          clear hb5 hR5 c0 c1 c2 c3 c4 c5
          simp only [← HRR.out]
          go_wp2
          have hRz : ((w5.setCell ⟨r, 0, none⟩ (.int .i64 0)).setCell ⟨r, 1, none⟩ (.int .i64 0)).heap[r]? = some (.cells #[.int .i64 0, .int .i64 0] 36 (0, 0)) := by simp [World.setCell, Array.getElem?_modify, HR5.out]
          refine bodyPost_ret (results_cell_span rfl _ _ r 0 0 rfl (cell_blk hRz (i := 0) rfl) (cell_blk hRz (i := 1) rfl)) rfl ⟨by rw [HX.out], (HF.out.setCell (p := ⟨r, 0, none⟩) ?_ _).setCell (p := ⟨r, 1, none⟩) ?_ _⟩ <;> (have := HB.out.size; show w.heap.size ≤ r; omega)
        · have h3d : decide (1 < pr) = false := decide_eq_false h3
          by_cases h4 : ix < 0
          · have HX := Lib.hid (show bufSpan c (n : Int) pr ix = (0, 0) from if_neg (fun h => by have h2 := h.2; rw [show ((n : Int)).toNat = n by simp, row_at E1.out] at h2; have h3 := (show x0 = 1 ∧ 0 ≤ pr ∧ pr ≤ 1 ∧ 0 ≤ ix ∧ ix ≤ 1 from h2); omega))
            go_enter Try.func22, Try.ntmps22
            go_wp2_with (first | (rw [← HWc.out]) | (rw [← HW.out]))
            refine HC.out.mono ?_
            rintro e w5 ⟨rfl, hb5⟩
            have hB5 := HBW.out.trans (hb5.mono HBW.out.size)
            obtain ⟨q0, q1, q2, q3, q4, q5, q6⟩ := hrow _ hB5
            clear hB5 hrow
            have hR5 := (hb5.block r (Array.getElem?_eq_some_iff.1 HR0.out).1).trans HR0.out
            have z0 := cell_blk hR5 (i := 0) rfl
            have z1 := cell_blk hR5 (i := 1) rfl
            have f0 : w5.frozen? ⟨r, 0, none⟩ = false := by simp [World.frozen?, hR5]
            have f1 : w5.frozen? ⟨r, 1, none⟩ = false := by simp [World.frozen?, hR5]
            have HR5 := Lib.hid hR5
            have HF := Lib.hid (HB.out.trans ((HBW.out.trans (hb5.mono HBW.out.size)).mono HB.out.size))
            obtain ⟨g0, g1, g2, g3, g4, g5⟩ := bx _ (HBW.out.trans (hb5.mono HBW.out.size))
            clear hb5 hR5 c0 c1 c2 c3 c4 c5
            simp only [← HRR.out]
            go_wp2
            have hRz : ((w5.setCell ⟨r, 0, none⟩ (.int .i64 0)).setCell ⟨r, 1, none⟩ (.int .i64 0)).heap[r]? = some (.cells #[.int .i64 0, .int .i64 0] 36 (0, 0)) := by simp [World.setCell, Array.getElem?_modify, HR5.out]
            refine bodyPost_ret (results_cell_span rfl _ _ r 0 0 rfl (cell_blk hRz (i := 0) rfl) (cell_blk hRz (i := 1) rfl)) rfl ⟨by rw [HX.out], (HF.out.setCell (p := ⟨r, 0, none⟩) ?_ _).setCell (p := ⟨r, 1, none⟩) ?_ _⟩ <;> (have := HB.out.size; show w.heap.size ≤ r; omega)
          · have h4d : decide (ix < 0) = false := decide_eq_false h4
            by_cases h5 : 1 < ix
            · have HX := Lib.hid (show bufSpan c (n : Int) pr ix = (0, 0) from if_neg (fun h => by have h2 := h.2; rw [show ((n : Int)).toNat = n by simp, row_at E1.out] at h2; have h3 := (show x0 = 1 ∧ 0 ≤ pr ∧ pr ≤ 1 ∧ 0 ≤ ix ∧ ix ≤ 1 from h2); omega))
              go_enter Try.func22, Try.ntmps22
              go_wp2_with (first | (rw [← HWc.out]) | (rw [← HW.out]))
              refine HC.out.mono ?_
              rintro e w5 ⟨rfl, hb5⟩
              have hB5 := HBW.out.trans (hb5.mono HBW.out.size)
              obtain ⟨q0, q1, q2, q3, q4, q5, q6⟩ := hrow _ hB5
              clear hB5 hrow
              have hR5 := (hb5.block r (Array.getElem?_eq_some_iff.1 HR0.out).1).trans HR0.out
              have z0 := cell_blk hR5 (i := 0) rfl
              have z1 := cell_blk hR5 (i := 1) rfl
              have f0 : w5.frozen? ⟨r, 0, none⟩ = false := by simp [World.frozen?, hR5]
              have f1 : w5.frozen? ⟨r, 1, none⟩ = false := by simp [World.frozen?, hR5]
              have HR5 := Lib.hid hR5
              have HF := Lib.hid (HB.out.trans ((HBW.out.trans (hb5.mono HBW.out.size)).mono HB.out.size))
              obtain ⟨g0, g1, g2, g3, g4, g5⟩ := bx _ (HBW.out.trans (hb5.mono HBW.out.size))
              clear hb5 hR5 c0 c1 c2 c3 c4 c5
              simp only [← HRR.out]
              go_wp2
              have hRz : ((w5.setCell ⟨r, 0, none⟩ (.int .i64 0)).setCell ⟨r, 1, none⟩ (.int .i64 0)).heap[r]? = some (.cells #[.int .i64 0, .int .i64 0] 36 (0, 0)) := by simp [World.setCell, Array.getElem?_modify, HR5.out]
              refine bodyPost_ret (results_cell_span rfl _ _ r 0 0 rfl (cell_blk hRz (i := 0) rfl) (cell_blk hRz (i := 1) rfl)) rfl ⟨by rw [HX.out], (HF.out.setCell (p := ⟨r, 0, none⟩) ?_ _).setCell (p := ⟨r, 1, none⟩) ?_ _⟩ <;> (have := HB.out.size; show w.heap.size ≤ r; omega)
            · have h5d : decide (1 < ix) = false := decide_eq_false h5
              have HX := Lib.hid (show bufSpan c (n : Int) pr ix = (p + 3 + pr * 2 * (x3 + 2) + ix * (x3 + 2), x3 + 2) by
                refine (if_pos ⟨HQ.out, ?_⟩).trans ?_
                · rw [show ((n : Int)).toNat = n by simp, row_at E1.out, HP.out]; rfl
                · rw [show ((n : Int)).toNat = n by simp, row_at E1.out]; exact (show x0 = 1 ∧ 0 ≤ pr ∧ pr ≤ 1 ∧ 0 ≤ ix ∧ ix ≤ 1 by omega))
              go_enter Try.func22, Try.ntmps22
              go_wp2_with (first | (rw [← HWc.out]) | (rw [← HW.out]))
              refine HC.out.mono ?_
              rintro e w5 ⟨rfl, hb5⟩
              have hR := (hb5.block r (Array.getElem?_eq_some_iff.1 HR0.out).1).trans HR0.out
              have hB := HBW.out.trans (hb5.mono HBW.out.size)
              obtain ⟨g0, g1, g2, g3, g4, g5⟩ := bx _ hB
              obtain ⟨q0, q1, q2, q3, q4, q5, q6⟩ := hrow _ hB
              have HR5 := Lib.hid hR; have HB5 := Lib.hid hB
              clear hb5 hR hB c0 c1 c2 c3 c4 c5
              simp only [← HRR.out]
              go_wp2_with fail
              refine (HB1.out _ HB5.out).mono ?_
              rintro e w6 ⟨rfl, hl⟩
              have hR6 := (hl.block r (Array.getElem?_eq_some_iff.1 HR5.out).1).trans HR5.out
              have z0 := cell_blk hR6 (i := 0) rfl
              have z1 := cell_blk hR6 (i := 1) rfl
              have f0 : w6.frozen? ⟨r, 0, none⟩ = false := by simp [World.frozen?, hR6]
              have f1 : w6.frozen? ⟨r, 1, none⟩ = false := by simp [World.frozen?, hR6]
              have HR6 := Lib.hid hR6
              have HB6 := Lib.hid (HB5.out.trans (hl.mono HB5.out.size))
              have m1 : 0 ≤ pr * 2 * (x3 + 2) := Int.mul_nonneg (by omega) (by omega)
              have m2 : pr * 2 * (x3 + 2) ≤ 2 * 18 := Int.mul_le_mul (by omega) (by omega) (by omega) (by omega)
              have m3 : 0 ≤ ix * (x3 + 2) := Int.mul_nonneg (by omega) (by omega)
              have m4 : ix * (x3 + 2) ≤ 1 * 18 := Int.mul_le_mul (by omega) (by omega) (by omega) (by omega)
              have v0 := IntWalk.i64_in (ix * (x3 + 2)) (by omega)
              have v1 := IntWalk.i64_in (pr * 2 * (x3 + 2)) (by omega)
              have v2 := IntWalk.i64_in (p + 3) (by omega)
              have v3 := IntWalk.i64_in (p + 3 + pr * 2 * (x3 + 2)) (by omega)
              have v4 := IntWalk.i64_in (p + 3 + pr * 2 * (x3 + 2) + ix * (x3 + 2)) (by omega)
              clear hl hR6 g0 g1 g2 g3 g4 g5 q0 q1 q2 q3 q4 q5 q6
              go_wp2
              have hRz : ((w6.setCell ⟨r, 0, none⟩ (.int .i64 (p + 3 + pr * 2 * (x3 + 2) + ix * (x3 + 2)))).setCell ⟨r, 1, none⟩ (.int .i64 (x3 + 2))).heap[r]? = some (.cells #[.int .i64 (p + 3 + pr * 2 * (x3 + 2) + ix * (x3 + 2)), .int .i64 (x3 + 2)] 36 (0, 0)) := by simp [World.setCell, Array.getElem?_modify, HR6.out]
              exact bodyPost_ret (results_cell_span rfl _ _ r _ _ rfl (cell_blk hRz (i := 0) rfl) (cell_blk hRz (i := 1) rfl)) rfl ⟨by rw [HX.out], HB.out.trans ((((HB6.out.setCell (p := ⟨r, 0, none⟩) hrr _).setCell (p := ⟨r, 1, none⟩) hrr _)).mono HB.out.size)⟩
    · have h1a : ((x0 : Int) == 1) = false := by simp [h1]
      have h1b : ((x0 : Int) != 1) = true := by simp [h1]
      have HX := Lib.hid (show bufSpan c (n : Int) pr ix = (0, 0) from if_neg (fun h => by have h2 := h.2; rw [show ((n : Int)).toNat = n by simp, row_at E1.out] at h2; have h3 := (show x0 = 1 ∧ 0 ≤ pr ∧ pr ≤ 1 ∧ 0 ≤ ix ∧ ix ≤ 1 from h2); omega))
      go_enter Try.func22, Try.ntmps22
      go_wp2_with (first | (rw [← HWc.out]) | (rw [← HW.out]))
      refine HC.out.mono ?_
      rintro e w5 ⟨rfl, hb5⟩
      have hB5 := HBW.out.trans (hb5.mono HBW.out.size)
      obtain ⟨q0, q1, q2, q3, q4, q5, q6⟩ := hrow _ hB5
      clear hB5 hrow
      have hR5 := (hb5.block r (Array.getElem?_eq_some_iff.1 HR0.out).1).trans HR0.out
      have z0 := cell_blk hR5 (i := 0) rfl
      have z1 := cell_blk hR5 (i := 1) rfl
      have f0 : w5.frozen? ⟨r, 0, none⟩ = false := by simp [World.frozen?, hR5]
      have f1 : w5.frozen? ⟨r, 1, none⟩ = false := by simp [World.frozen?, hR5]
      have HR5 := Lib.hid hR5
      have HF := Lib.hid (HB.out.trans ((HBW.out.trans (hb5.mono HBW.out.size)).mono HB.out.size))
      obtain ⟨g0, g1, g2, g3, g4, g5⟩ := bx _ (HBW.out.trans (hb5.mono HBW.out.size))
      clear hb5 hR5 c0 c1 c2 c3 c4 c5
      simp only [← HRR.out]
      go_wp2
      have hRz : ((w5.setCell ⟨r, 0, none⟩ (.int .i64 0)).setCell ⟨r, 1, none⟩ (.int .i64 0)).heap[r]? = some (.cells #[.int .i64 0, .int .i64 0] 36 (0, 0)) := by simp [World.setCell, Array.getElem?_modify, HR5.out]
      refine bodyPost_ret (results_cell_span rfl _ _ r 0 0 rfl (cell_blk hRz (i := 0) rfl) (cell_blk hRz (i := 1) rfl)) rfl ⟨by rw [HX.out], (HF.out.setCell (p := ⟨r, 0, none⟩) ?_ _).setCell (p := ⟨r, 1, none⟩) ?_ _⟩ <;> (have := HB.out.size; show w.heap.size ≤ r; omega)
end Go.Proofs.Ytjnmgofkdimdaaa
