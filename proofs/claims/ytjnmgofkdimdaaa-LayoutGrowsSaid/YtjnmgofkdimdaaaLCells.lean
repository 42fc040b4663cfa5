/- Buffer and Cell, as contracts. No condition but those in the statements. Cell, as a contract. No condition but those in the statements. -/
import Derived.Test.YtjnmgofkdimdaaaLSrcOf
import Derived.Test.YtjnmgofkdimdaaaRCells
import Derived.BigQuiet
import Derived.IntWalk
namespace Go.Proofs.Ytjnmgofkdimdaaa
open Go.RowKit Go.Sort Go.ChangeShapes Go.WideShapes
set_option linter.unusedVariables false
set_option linter.unusedSimpArgs false

theorem buf_eq (p pr ix s : Int) : p + 3 + (2 * pr + ix) * (2 + s) = p + 3 + pr * 2 * (s + 2) + ix * (s + 2) := by
  rw [Int.add_mul, Int.mul_comm 2 pr, Int.add_comm 2 s]; omega

set_option maxRecDepth 100000 in
set_option maxHeartbeats 8000000 in
theorem buffer_b (c : Cfg) (x : CfgAt) (k : Int) (pr : Int) (ix : Int) (w : World) (hx : CfgIn w w.heap.size c x) (wx : CfgWf c) (lx : CfgFew c) : Calls Try.prog 21 #[.agg (cfgCells c x), .int .i64 k, .int .i64 pr, .int .i64 ix] w fun e w' => e = .returned (.agg #[.int .i64 (bufSpan c k pr ix).1, .int .i64 (bufSpan c k pr ix).2]) ∧ Below w.heap.size w w' := by
  obtain ⟨Wc, HWc, hBc, hWs, bx⟩ := one_cbox w c x 29
  obtain ⟨pa, pc, ca, cc, aa, ac, ba, bc⟩ := x
  obtain ⟨W, HW⟩ : ∃ u, Hid (u = Wc.alloc (.cells #[.int .i64 0, .int .i64 0] 36)) := ⟨_, rfl⟩
  obtain ⟨r, hr⟩ : ∃ r, r = Wc.heap.size := ⟨_, rfl⟩
  have hrr : Wc.heap.size ≤ r := by omega
  have hR : W.heap[r]? = some (.cells #[.int .i64 0, .int .i64 0] 36 (0, 0)) := by rw [HW.out, hr]; exact heap_alloc_new _ _
  have hBW : Below Wc.heap.size Wc W := by rw [HW.out]; exact (Below.refl _ _).alloc (Nat.le_refl _) _
  have hxW := hx.later (hBc.trans (hBW.mono hBc.size))
  obtain ⟨c0, c1, c2, c3, c4, c5⟩ := bx _ hBW
  have HB := Lib.hid hBc; have HR0 := Lib.hid hR; have HBW := Lib.hid hBW; have HXW := Lib.hid hxW; have HXC := Lib.hid (hx.later hBc); have HRR := Lib.hid hr
  simp only [cfgCells] at HWc ⊢
  clear hBc hR hBW hxW hx hr hWs
  have hSO := srcOf_b c ⟨pa, pc, ca, cc, aa, ac, ba, bc⟩ k 1 W HXW.out wx lx
  simp only [cfgCells] at hSO
  by_cases hs : chanB c k = true ∧ fld (row c.chans k.toNat) 0 = 1
  · have hsv : srcOfS c k 1 = (srcSpan c k, true) := if_pos hs
    rw [hsv] at hSO
    obtain ⟨hq, hkd⟩ := hs
    have hsp : srcSpan c k = (beforeN c k.toNat, srcN (row c.chans k.toNat)) := if_pos hq
    rw [hsp] at hSO
    have hq2 : (0 ≤ k ∧ k < (c.chans.length : Int)) ∧ acceptsB c = true := by
      unfold chanB at hq
      rw [Bool.and_eq_true] at hq
      exact ⟨of_decide_eq_true hq.1, hq.2⟩
    have HA := Lib.hid (accd_of hq2.2)
    obtain ⟨⟨k0, k1⟩, -⟩ := hq2
    obtain ⟨n, rfl⟩ := Int.eq_ofNat_of_zero_le k0
    have hn : n < c.chans.length := by omega
    obtain ⟨b, o, x0, x1, x2, x3, x4, x5, x6, e0, _, e1, -, hrw⟩ := HXC.out.rc.at7 wx.wc hn
    obtain ⟨a1, a2, a3, a4, a5, _⟩ := HA.out.chan n hn
    have hbn := beforeN_in HA.out (k := n) (by omega)
    have hsr := srcN_of HA.out hn
    rw [Int.toNat_natCast] at hSO hkd
    rw [row_at e1] at a1 a2 a3 a4 a5 hkd
    have hkd : x0 = 1 := hkd
    have b2 : 1 ≤ x3 := a2
    have b3 : x3 ≤ 16 := a3
    have b4 : 0 ≤ x4 := a4
    have b5 : x4 ≤ 8 := a5
    obtain ⟨p, hp⟩ : ∃ p, beforeN c n = p := ⟨_, rfl⟩
    obtain ⟨s, hsn⟩ : ∃ s, srcN (row c.chans n) = s := ⟨_, rfl⟩
    rw [hp] at hSO hbn
    rw [hsn] at hSO
    have HP := Lib.hid hp; have HQ := Lib.hid hq; have HSO := Lib.hid hSO; have E1 := Lib.hid e1; have HKD := Lib.hid hkd
    have s0 : (0 : Int) ≤ (n : Int) := by omega
    have s1 : (n : Int) < (c.chans.length : Int) := by omega
    have spz : ∀ P : Prop, Decidable P → ∀ v : Int × Int, True := fun _ _ _ => trivial
    clear spz hsv hq hsp a1 a2 a3 a4 a5 hp hsn hsr hSO hkd e1
    subst e0
    by_cases hp : 0 ≤ pr ∧ pr < 2
    · have HBP := Lib.hid (fun w' => below_is pr 2 true w' (decide_eq_true hp))
      by_cases hi : 0 ≤ ix ∧ ix < 2
      · have HBI := Lib.hid (fun w' => below_is ix 2 true w' (decide_eq_true hi))
        have HX := Lib.hid (show bufSpan c (n : Int) pr ix = (p + 3 + (2 * pr + ix) * (2 + x3), 2 + x3) by
          rw [buf_eq]
          refine (if_pos ⟨HQ.out, ?_⟩).trans ?_
          · rw [Int.toNat_natCast, row_at E1.out, HP.out, Int.add_comm 2 x3]; rfl
          · rw [Int.toNat_natCast, row_at E1.out]; exact (show x0 = 1 ∧ 0 ≤ pr ∧ pr ≤ 1 ∧ 0 ≤ ix ∧ ix ≤ 1 by have := HKD.out; omega))
        have HSZ := Lib.hid (fun w' => bufsz_b x0 x1 x2 x3 x4 x5 x6 w' (by omega) b3)
        have m0 : 0 ≤ 2 * pr + ix ∧ 2 * pr + ix ≤ 3 := by omega
        have m1 : 0 ≤ (2 * pr + ix) * (2 + x3) := Int.mul_nonneg m0.1 (by omega)
        have m2 : (2 * pr + ix) * (2 + x3) ≤ 3 * 18 := Int.mul_le_mul m0.2 (by omega) (by omega) (by omega)
        have v0 := IntWalk.i64_in (2 * pr) (by omega)
        have v1 := IntWalk.i64_in (2 * pr + ix) (by omega)
        have v2 := IntWalk.i64_in ((2 * pr + ix) * (2 + x3)) (by omega)
        have v3 := IntWalk.i64_in (p + 3) (by omega)
        have v4 := IntWalk.i64_in (p + 3 + (2 * pr + ix) * (2 + x3)) (by omega)
        clear hp hi m0 m1 m2
        go_enter Try.func21, Try.ntmps21
        go_wp2_with (first | (rw [← HWc.out]) | (rw [← HW.out]))
        refine HSO.out.mono ?_
        rintro e w5 ⟨rfl, hb5⟩
        obtain ⟨w6, hw6⟩ : ∃ u, Hid (u = w5.alloc (.cells #[.int .i64 (p), .int .i64 (s)] 36)) := ⟨_, rfl⟩
        have hb6 : Below w5.heap.size w5 w6 := by rw [hw6.out]; exact (Below.refl _ _).alloc (Nat.le_refl _) _
        have hP6 : w6.heap[w5.heap.size]? = some (.cells #[.int .i64 (p), .int .i64 (s)] 36 (0, 0)) := by rw [hw6.out]; exact heap_alloc_new _ _
        have hR6 := ((hb5.trans (hb6.mono hb5.size)).block r (Array.getElem?_eq_some_iff.1 HR0.out).1).trans HR0.out
        have hB6 := HBW.out.trans ((hb5.trans (hb6.mono hb5.size)).mono HBW.out.size)
        have HP6 := Lib.hid hP6
        have hlt6 : w5.heap.size < w6.heap.size := (Array.getElem?_eq_some_iff.1 hP6).1
        have HR6 := Lib.hid hR6; have HB6 := Lib.hid hB6
        obtain ⟨d0, d1, d2, d3, d4, d5⟩ := bx w6 hB6
        obtain ⟨q0, q1, q2, q3, q4, q5, q6⟩ := hrw w6 hB6
        have HL6 := Lib.hid hlt6
        clear hb5 hb6 hP6 hR6 hB6 hlt6 c0 c1 c2 c3 c4 c5 hrw
        simp only [← HRR.out]
        go_wp2_with (first | (rw [← hw6.out]) | (go_at_call 39; ((first | (with_reducible refine (HBP.out _).mono ?_) | (with_reducible refine (HBI.out _).mono ?_)); rintro e w9 ⟨rfl, rfl⟩)))
        refine (HSZ.out w6).mono ?_
        rintro e w7 ⟨rfl, hb7⟩
        have hP7 := (hb7.block w5.heap.size HL6.out).trans HP6.out
        have hR7 := (hb7.block r (Array.getElem?_eq_some_iff.1 HR6.out).1).trans HR6.out
        have p0 := cell_blk hP7 (i := 0) rfl
        have z0 := cell_blk hR7 (i := 0) rfl
        have z1 := cell_blk hR7 (i := 1) rfl
        have f0 : w7.frozen? ⟨r, 0, none⟩ = false := by simp [World.frozen?, hR7]
        have f1 : w7.frozen? ⟨r, 1, none⟩ = false := by simp [World.frozen?, hR7]
        have HR7 := Lib.hid hR7
        have HF := Lib.hid (HB.out.trans ((HB6.out.trans (hb7.mono HB6.out.size)).mono HB.out.size))
        clear hb7 hP7 hR7 d0 d1 d2 d3 d4 d5 q0 q1 q2 q3 q4 q5 q6
        go_wp2
        have hRz : ((w7.setCell ⟨r, 0, none⟩ (.int .i64 (p + 3 + (2 * pr + ix) * (2 + x3)))).setCell ⟨r, 1, none⟩ (.int .i64 (2 + x3))).heap[r]? = some (.cells #[.int .i64 (p + 3 + (2 * pr + ix) * (2 + x3)), .int .i64 (2 + x3)] 36 (0, 0)) := by simp [World.setCell, Array.getElem?_modify, HR7.out]
        refine bodyPost_ret (results_cell_span rfl _ _ r _ _ rfl (cell_blk hRz (i := 0) rfl) (cell_blk hRz (i := 1) rfl)) rfl ⟨by rw [HX.out], (HF.out.setCell (p := ⟨r, 0, none⟩) ?_ _).setCell (p := ⟨r, 1, none⟩) ?_ _⟩ <;> (have := HB.out.size; show w.heap.size ≤ r; omega)
      · have HBI := Lib.hid (fun w' => below_is ix 2 false w' (decide_eq_false hi))
        have HX := Lib.hid (show bufSpan c (n : Int) pr ix = (0, 0) from if_neg (fun h => by have h2 := h.2; rw [Int.toNat_natCast, row_at E1.out] at h2; have h3 := (show x0 = 1 ∧ 0 ≤ pr ∧ pr ≤ 1 ∧ 0 ≤ ix ∧ ix ≤ 1 from h2); omega))
        clear hp hi
        go_enter Try.func21, Try.ntmps21
        go_wp2_with (first | (rw [← HWc.out]) | (rw [← HW.out]))
        refine HSO.out.mono ?_
        rintro e w5 ⟨rfl, hb5⟩
        obtain ⟨w6, hw6⟩ : ∃ u, Hid (u = w5.alloc (.cells #[.int .i64 (p), .int .i64 (s)] 36)) := ⟨_, rfl⟩
        have hb6 : Below w5.heap.size w5 w6 := by rw [hw6.out]; exact (Below.refl _ _).alloc (Nat.le_refl _) _
        have hP6 : w6.heap[w5.heap.size]? = some (.cells #[.int .i64 (p), .int .i64 (s)] 36 (0, 0)) := by rw [hw6.out]; exact heap_alloc_new _ _
        have hR6 := ((hb5.trans (hb6.mono hb5.size)).block r (Array.getElem?_eq_some_iff.1 HR0.out).1).trans HR0.out
        have hB6 := HBW.out.trans ((hb5.trans (hb6.mono hb5.size)).mono HBW.out.size)
        have p0 := cell_blk hP6 (i := 0) rfl
        have p1 := cell_blk hP6 (i := 1) rfl
        have g0 : w6.frozen? ⟨w5.heap.size, 0, none⟩ = false := by simp [World.frozen?, hP6]
        have g1 : w6.frozen? ⟨w5.heap.size, 1, none⟩ = false := by simp [World.frozen?, hP6]
        have z0 := cell_blk hR6 (i := 0) rfl
        have z1 := cell_blk hR6 (i := 1) rfl
        have f0 : w6.frozen? ⟨r, 0, none⟩ = false := by simp [World.frozen?, hR6]
        have f1 : w6.frozen? ⟨r, 1, none⟩ = false := by simp [World.frozen?, hR6]
        have HR6 := Lib.hid hR6
        have HF := Lib.hid (HB.out.trans (hB6.mono HB.out.size))
        clear hb5 hb6 hP6 hR6 hB6 c0 c1 c2 c3 c4 c5
        simp only [← HRR.out]
        go_wp2_with (first | (rw [← hw6.out]) | (go_at_call 39; ((first | (with_reducible refine (HBP.out _).mono ?_) | (with_reducible refine (HBI.out _).mono ?_)); rintro e w9 ⟨rfl, rfl⟩)))
        have hRz : ((w6.setCell ⟨r, 0, none⟩ (.int .i64 0)).setCell ⟨r, 1, none⟩ (.int .i64 0)).heap[r]? = some (.cells #[.int .i64 0, .int .i64 0] 36 (0, 0)) := by simp [World.setCell, Array.getElem?_modify, HR6.out]
        refine bodyPost_ret (results_cell_span rfl _ _ r 0 0 rfl (cell_blk hRz (i := 0) rfl) (cell_blk hRz (i := 1) rfl)) rfl ⟨by rw [HX.out], (HF.out.setCell (p := ⟨r, 0, none⟩) ?_ _).setCell (p := ⟨r, 1, none⟩) ?_ _⟩ <;> (have := HB.out.size; show w.heap.size ≤ r; omega)
    · have HBP := Lib.hid (fun w' => below_is pr 2 false w' (decide_eq_false hp))
      have HX := Lib.hid (show bufSpan c (n : Int) pr ix = (0, 0) from if_neg (fun h => by have h2 := h.2; rw [Int.toNat_natCast, row_at E1.out] at h2; have h3 := (show x0 = 1 ∧ 0 ≤ pr ∧ pr ≤ 1 ∧ 0 ≤ ix ∧ ix ≤ 1 from h2); omega))
      clear hp
      go_enter Try.func21, Try.ntmps21
      go_wp2_with (first | (rw [← HWc.out]) | (rw [← HW.out]))
      refine HSO.out.mono ?_
      rintro e w5 ⟨rfl, hb5⟩
      obtain ⟨w6, hw6⟩ : ∃ u, Hid (u = w5.alloc (.cells #[.int .i64 (p), .int .i64 (s)] 36)) := ⟨_, rfl⟩
      have hb6 : Below w5.heap.size w5 w6 := by rw [hw6.out]; exact (Below.refl _ _).alloc (Nat.le_refl _) _
      have hP6 : w6.heap[w5.heap.size]? = some (.cells #[.int .i64 (p), .int .i64 (s)] 36 (0, 0)) := by rw [hw6.out]; exact heap_alloc_new _ _
      have hR6 := ((hb5.trans (hb6.mono hb5.size)).block r (Array.getElem?_eq_some_iff.1 HR0.out).1).trans HR0.out
      have hB6 := HBW.out.trans ((hb5.trans (hb6.mono hb5.size)).mono HBW.out.size)
      have p0 := cell_blk hP6 (i := 0) rfl
      have p1 := cell_blk hP6 (i := 1) rfl
      have g0 : w6.frozen? ⟨w5.heap.size, 0, none⟩ = false := by simp [World.frozen?, hP6]
      have g1 : w6.frozen? ⟨w5.heap.size, 1, none⟩ = false := by simp [World.frozen?, hP6]
      have z0 := cell_blk hR6 (i := 0) rfl
      have z1 := cell_blk hR6 (i := 1) rfl
      have f0 : w6.frozen? ⟨r, 0, none⟩ = false := by simp [World.frozen?, hR6]
      have f1 : w6.frozen? ⟨r, 1, none⟩ = false := by simp [World.frozen?, hR6]
      have HR6 := Lib.hid hR6
      have HF := Lib.hid (HB.out.trans (hB6.mono HB.out.size))
      clear hb5 hb6 hP6 hR6 hB6 c0 c1 c2 c3 c4 c5
      simp only [← HRR.out]
      go_wp2_with (first | (rw [← hw6.out]) | (go_at_call 39; ((with_reducible refine (HBP.out _).mono ?_); rintro e w9 ⟨rfl, rfl⟩)) )
      have hRz : ((w6.setCell ⟨r, 0, none⟩ (.int .i64 0)).setCell ⟨r, 1, none⟩ (.int .i64 0)).heap[r]? = some (.cells #[.int .i64 0, .int .i64 0] 36 (0, 0)) := by simp [World.setCell, Array.getElem?_modify, HR6.out]
      refine bodyPost_ret (results_cell_span rfl _ _ r 0 0 rfl (cell_blk hRz (i := 0) rfl) (cell_blk hRz (i := 1) rfl)) rfl ⟨by rw [HX.out], (HF.out.setCell (p := ⟨r, 0, none⟩) ?_ _).setCell (p := ⟨r, 1, none⟩) ?_ _⟩ <;> (have := HB.out.size; show w.heap.size ≤ r; omega)
  · have hsv : srcOfS c k 1 = ((0, 0), false) := if_neg hs
    rw [hsv] at hSO
    have HX := Lib.hid (show bufSpan c k pr ix = (0, 0) from if_neg (fun h => hs ⟨h.1, h.2.1⟩))
    have HSO := Lib.hid hSO
    clear hs hsv hSO
    go_enter Try.func21, Try.ntmps21
    go_wp2_with (first | (rw [← HWc.out]) | (rw [← HW.out]))
    refine HSO.out.mono ?_
    rintro e w5 ⟨rfl, hb5⟩
    obtain ⟨w6, hw6⟩ : ∃ u, Hid (u = w5.alloc (.cells #[.int .i64 (0), .int .i64 (0)] 36)) := ⟨_, rfl⟩
    have hb6 : Below w5.heap.size w5 w6 := by rw [hw6.out]; exact (Below.refl _ _).alloc (Nat.le_refl _) _
    have hP6 : w6.heap[w5.heap.size]? = some (.cells #[.int .i64 (0), .int .i64 (0)] 36 (0, 0)) := by rw [hw6.out]; exact heap_alloc_new _ _
    have hR6 := ((hb5.trans (hb6.mono hb5.size)).block r (Array.getElem?_eq_some_iff.1 HR0.out).1).trans HR0.out
    have hB6 := HBW.out.trans ((hb5.trans (hb6.mono hb5.size)).mono HBW.out.size)
    have z0 := cell_blk hR6 (i := 0) rfl
    have z1 := cell_blk hR6 (i := 1) rfl
    have f0 : w6.frozen? ⟨r, 0, none⟩ = false := by simp [World.frozen?, hR6]
    have f1 : w6.frozen? ⟨r, 1, none⟩ = false := by simp [World.frozen?, hR6]
    have HR6 := Lib.hid hR6
    have HF := Lib.hid (HB.out.trans (hB6.mono HB.out.size))
    rw [hw6.out] at z0 z1 f0 f1
    clear hb5 hb6 hP6 hR6 hB6 c0 c1 c2 c3 c4 c5
    simp only [← HRR.out]
    go_wp2
    rw [← hw6.out]
    have hRz : ((w6.setCell ⟨r, 0, none⟩ (.int .i64 0)).setCell ⟨r, 1, none⟩ (.int .i64 0)).heap[r]? = some (.cells #[.int .i64 0, .int .i64 0] 36 (0, 0)) := by simp [World.setCell, Array.getElem?_modify, HR6.out]
    refine bodyPost_ret (results_cell_span rfl _ _ r 0 0 rfl (cell_blk hRz (i := 0) rfl) (cell_blk hRz (i := 1) rfl)) rfl ⟨by rw [HX.out], (HF.out.setCell (p := ⟨r, 0, none⟩) ?_ _).setCell (p := ⟨r, 1, none⟩) ?_ _⟩ <;> (have := HB.out.size; show w.heap.size ≤ r; omega)
end Go.Proofs.Ytjnmgofkdimdaaa

namespace Go.Proofs.Ytjnmgofkdimdaaa
open Go.RowKit Go.Sort Go.ChangeShapes Go.WideShapes
set_option linter.unusedVariables false
set_option linter.unusedSimpArgs false

set_option maxRecDepth 100000 in
set_option maxHeartbeats 8000000 in
theorem cell_b (c : Cfg) (x : CfgAt) (k : Int) (i : Int) (w : World) (hx : CfgIn w w.heap.size c x) (wx : CfgWf c) (lx : CfgFew c) : Calls Try.prog 23 #[.agg (cfgCells c x), .int .i64 k, .int .i64 i] w fun e w' => e = .returned (.agg #[.int .i64 (cellSpan c k i).1, .int .i64 (cellSpan c k i).2]) ∧ Below w.heap.size w w' := by
  obtain ⟨Wc, HWc, hBc, hWs, bx⟩ := one_cbox w c x 29
  obtain ⟨pa, pc, ca, cc, aa, ac, ba, bc⟩ := x
  obtain ⟨W, HW⟩ : ∃ u, Hid (u = Wc.alloc (.cells #[.int .i64 0, .int .i64 0] 36)) := ⟨_, rfl⟩
  obtain ⟨r, hr⟩ : ∃ r, r = Wc.heap.size := ⟨_, rfl⟩
  have hrr : Wc.heap.size ≤ r := by omega
  have hR : W.heap[r]? = some (.cells #[.int .i64 0, .int .i64 0] 36 (0, 0)) := by rw [HW.out, hr]; exact heap_alloc_new _ _
  have hBW : Below Wc.heap.size Wc W := by rw [HW.out]; exact (Below.refl _ _).alloc (Nat.le_refl _) _
  have hxW := hx.later (hBc.trans (hBW.mono hBc.size))
  obtain ⟨c0, c1, c2, c3, c4, c5⟩ := bx _ hBW
  have HB := Lib.hid hBc; have HR0 := Lib.hid hR; have HBW := Lib.hid hBW; have HXW := Lib.hid hxW; have HXC := Lib.hid (hx.later hBc); have HRR := Lib.hid hr
  simp only [cfgCells] at HWc ⊢
  clear hBc hR hBW hxW hx hr hWs
  have hSO := srcOf_b c ⟨pa, pc, ca, cc, aa, ac, ba, bc⟩ k 2 W HXW.out wx lx
  simp only [cfgCells] at hSO
  by_cases hs : chanB c k = true ∧ fld (row c.chans k.toNat) 0 = 2
  · have hsv : srcOfS c k 2 = (srcSpan c k, true) := if_pos hs
    rw [hsv] at hSO
    obtain ⟨hq, hkd⟩ := hs
    have hsp : srcSpan c k = (beforeN c k.toNat, srcN (row c.chans k.toNat)) := if_pos hq
    rw [hsp] at hSO
    have hq2 : (0 ≤ k ∧ k < (c.chans.length : Int)) ∧ acceptsB c = true := by
      unfold chanB at hq
      rw [Bool.and_eq_true] at hq
      exact ⟨of_decide_eq_true hq.1, hq.2⟩
    have HA := Lib.hid (accd_of hq2.2)
    obtain ⟨⟨k0, k1⟩, -⟩ := hq2
    obtain ⟨n, rfl⟩ := Int.eq_ofNat_of_zero_le k0
    have hn : n < c.chans.length := by omega
    obtain ⟨b, o, x0, x1, x2, x3, x4, x5, x6, e0, _, e1, -, hrw⟩ := HXC.out.rc.at7 wx.wc hn
    obtain ⟨a1, a2, a3, a4, a5, _⟩ := HA.out.chan n hn
    have hbn := beforeN_in HA.out (k := n) (by omega)
    have hsr := srcN_of HA.out hn
    rw [Int.toNat_natCast] at hSO hkd
    rw [row_at e1] at a1 a2 a3 a4 a5 hkd
    have hkd : x0 = 2 := hkd
    have b2 : 1 ≤ x3 := a2
    have b3 : x3 ≤ 16 := a3
    have b4 : 0 ≤ x4 := a4
    have b5 : x4 ≤ 8 := a5
    obtain ⟨p, hp⟩ : ∃ p, beforeN c n = p := ⟨_, rfl⟩
    obtain ⟨s, hsn⟩ : ∃ s, srcN (row c.chans n) = s := ⟨_, rfl⟩
    rw [hp] at hSO hbn
    rw [hsn] at hSO
    have HP := Lib.hid hp; have HQ := Lib.hid hq; have HSO := Lib.hid hSO; have E1 := Lib.hid e1; have HKD := Lib.hid hkd
    have s0 : (0 : Int) ≤ (n : Int) := by omega
    have s1 : (n : Int) < (c.chans.length : Int) := by omega
    have spz : ∀ P : Prop, Decidable P → ∀ v : Int × Int, True := fun _ _ _ => trivial
    clear spz hsv hq hsp a1 a2 a3 a4 a5 hp hsn hsr hSO hkd e1
    subst e0
    by_cases hi : 0 ≤ i ∧ i < x4
    · have HBI := Lib.hid (fun w' => below_is i x4 true w' (decide_eq_true hi))
      have HX := Lib.hid (show cellSpan c (n : Int) i = (p + 1 + i * (1 + x3), 1 + x3) by
        refine (if_pos ⟨HQ.out, ?_⟩).trans ?_
        · rw [Int.toNat_natCast, row_at E1.out, HP.out, Int.add_comm 1 x3]; rfl
        · rw [Int.toNat_natCast, row_at E1.out]; exact (show x0 = 2 ∧ 0 ≤ i ∧ i < x4 by have := HKD.out; omega))
      have HSZ := Lib.hid (fun w' => cellsz_b x0 x1 x2 x3 x4 x5 x6 w' (by omega) b3)
      have m1 : 0 ≤ i * (1 + x3) := Int.mul_nonneg hi.1 (by omega)
      have m2 : i * (1 + x3) ≤ 8 * 17 := Int.mul_le_mul (by omega) (by omega) (by omega) (by omega)
      have v2 := IntWalk.i64_in (i * (1 + x3)) (by omega)
      have v3 := IntWalk.i64_in (p + 1) (by omega)
      have v4 := IntWalk.i64_in (p + 1 + i * (1 + x3)) (by omega)
      clear hi m1 m2
      go_enter Try.func23, Try.ntmps23
      go_wp2_with (first | (rw [← HWc.out]) | (rw [← HW.out]))
      refine HSO.out.mono ?_
      rintro e w5 ⟨rfl, hb5⟩
      obtain ⟨w6, hw6⟩ : ∃ u, Hid (u = w5.alloc (.cells #[.int .i64 (p), .int .i64 (s)] 36)) := ⟨_, rfl⟩
      have hb6 : Below w5.heap.size w5 w6 := by rw [hw6.out]; exact (Below.refl _ _).alloc (Nat.le_refl _) _
      have hP6 : w6.heap[w5.heap.size]? = some (.cells #[.int .i64 (p), .int .i64 (s)] 36 (0, 0)) := by rw [hw6.out]; exact heap_alloc_new _ _
      have hR6 := ((hb5.trans (hb6.mono hb5.size)).block r (Array.getElem?_eq_some_iff.1 HR0.out).1).trans HR0.out
      have hB6 := HBW.out.trans ((hb5.trans (hb6.mono hb5.size)).mono HBW.out.size)
      have HP6 := Lib.hid hP6
      have hlt6 : w5.heap.size < w6.heap.size := (Array.getElem?_eq_some_iff.1 hP6).1
      have HR6 := Lib.hid hR6; have HB6 := Lib.hid hB6
      obtain ⟨d0, d1, d2, d3, d4, d5⟩ := bx w6 hB6
      obtain ⟨q0, q1, q2, q3, q4, q5, q6⟩ := hrw w6 hB6
      have HL6 := Lib.hid hlt6
      clear hb5 hb6 hP6 hR6 hB6 hlt6 c0 c1 c2 c3 c4 c5 hrw
      simp only [← HRR.out]
      go_wp2_with (first | (rw [← hw6.out]) | (go_at_call 39; ((with_reducible refine (HBI.out _).mono ?_); rintro e w9 ⟨rfl, rfl⟩)) )
      refine (HSZ.out w6).mono ?_
      rintro e w7 ⟨rfl, hb7⟩
      have hP7 := (hb7.block w5.heap.size HL6.out).trans HP6.out
      have hR7 := (hb7.block r (Array.getElem?_eq_some_iff.1 HR6.out).1).trans HR6.out
      have p0 := cell_blk hP7 (i := 0) rfl
      have z0 := cell_blk hR7 (i := 0) rfl
      have z1 := cell_blk hR7 (i := 1) rfl
      have f0 : w7.frozen? ⟨r, 0, none⟩ = false := by simp [World.frozen?, hR7]
      have f1 : w7.frozen? ⟨r, 1, none⟩ = false := by simp [World.frozen?, hR7]
      have HR7 := Lib.hid hR7
      have HF := Lib.hid (HB.out.trans ((HB6.out.trans (hb7.mono HB6.out.size)).mono HB.out.size))
      clear hb7 hP7 hR7 d0 d1 d2 d3 d4 d5 q0 q1 q2 q3 q4 q5 q6
      go_wp2
      have hRz : ((w7.setCell ⟨r, 0, none⟩ (.int .i64 (p + 1 + i * (1 + x3)))).setCell ⟨r, 1, none⟩ (.int .i64 (1 + x3))).heap[r]? = some (.cells #[.int .i64 (p + 1 + i * (1 + x3)), .int .i64 (1 + x3)] 36 (0, 0)) := by simp [World.setCell, Array.getElem?_modify, HR7.out]
      refine bodyPost_ret (results_cell_span rfl _ _ r _ _ rfl (cell_blk hRz (i := 0) rfl) (cell_blk hRz (i := 1) rfl)) rfl ⟨by rw [HX.out], (HF.out.setCell (p := ⟨r, 0, none⟩) ?_ _).setCell (p := ⟨r, 1, none⟩) ?_ _⟩ <;> (have := HB.out.size; show w.heap.size ≤ r; omega)
    · have HBI := Lib.hid (fun w' => below_is i x4 false w' (decide_eq_false hi))
      have HX := Lib.hid (show cellSpan c (n : Int) i = (0, 0) from if_neg (fun h => by have h2 := h.2; rw [Int.toNat_natCast, row_at E1.out] at h2; have h3 := (show x0 = 2 ∧ 0 ≤ i ∧ i < x4 from h2); omega))
      clear hi
      go_enter Try.func23, Try.ntmps23
      go_wp2_with (first | (rw [← HWc.out]) | (rw [← HW.out]))
      refine HSO.out.mono ?_
      rintro e w5 ⟨rfl, hb5⟩
      obtain ⟨w6, hw6⟩ : ∃ u, Hid (u = w5.alloc (.cells #[.int .i64 (p), .int .i64 (s)] 36)) := ⟨_, rfl⟩
      have hb6 : Below w5.heap.size w5 w6 := by rw [hw6.out]; exact (Below.refl _ _).alloc (Nat.le_refl _) _
      have hP6 : w6.heap[w5.heap.size]? = some (.cells #[.int .i64 (p), .int .i64 (s)] 36 (0, 0)) := by rw [hw6.out]; exact heap_alloc_new _ _
      have hR6 := ((hb5.trans (hb6.mono hb5.size)).block r (Array.getElem?_eq_some_iff.1 HR0.out).1).trans HR0.out
      have hB6 := HBW.out.trans ((hb5.trans (hb6.mono hb5.size)).mono HBW.out.size)
      obtain ⟨d0, d1, d2, d3, d4, d5⟩ := bx w6 hB6
      obtain ⟨q0, q1, q2, q3, q4, q5, q6⟩ := hrw w6 hB6
      clear hrw
      have p0 := cell_blk hP6 (i := 0) rfl
      have p1 := cell_blk hP6 (i := 1) rfl
      have g0 : w6.frozen? ⟨w5.heap.size, 0, none⟩ = false := by simp [World.frozen?, hP6]
      have g1 : w6.frozen? ⟨w5.heap.size, 1, none⟩ = false := by simp [World.frozen?, hP6]
      have z0 := cell_blk hR6 (i := 0) rfl
      have z1 := cell_blk hR6 (i := 1) rfl
      have f0 : w6.frozen? ⟨r, 0, none⟩ = false := by simp [World.frozen?, hR6]
      have f1 : w6.frozen? ⟨r, 1, none⟩ = false := by simp [World.frozen?, hR6]
      have HR6 := Lib.hid hR6
      have HF := Lib.hid (HB.out.trans (hB6.mono HB.out.size))
      clear hb5 hb6 hP6 hR6 hB6 c0 c1 c2 c3 c4 c5
      simp only [← HRR.out]
      go_wp2_with (first | (rw [← hw6.out]) | (go_at_call 39; ((with_reducible refine (HBI.out _).mono ?_); rintro e w9 ⟨rfl, rfl⟩)) )
      have hRz : ((w6.setCell ⟨r, 0, none⟩ (.int .i64 0)).setCell ⟨r, 1, none⟩ (.int .i64 0)).heap[r]? = some (.cells #[.int .i64 0, .int .i64 0] 36 (0, 0)) := by simp [World.setCell, Array.getElem?_modify, HR6.out]
      refine bodyPost_ret (results_cell_span rfl _ _ r 0 0 rfl (cell_blk hRz (i := 0) rfl) (cell_blk hRz (i := 1) rfl)) rfl ⟨by rw [HX.out], (HF.out.setCell (p := ⟨r, 0, none⟩) ?_ _).setCell (p := ⟨r, 1, none⟩) ?_ _⟩ <;> (have := HB.out.size; show w.heap.size ≤ r; omega)
  · have hsv : srcOfS c k 2 = ((0, 0), false) := if_neg hs
    rw [hsv] at hSO
    have HX := Lib.hid (show cellSpan c k i = (0, 0) from if_neg (fun h => hs ⟨h.1, h.2.1⟩))
    have HSO := Lib.hid hSO
    clear hs hsv hSO
    go_enter Try.func23, Try.ntmps23
    go_wp2_with (first | (rw [← HWc.out]) | (rw [← HW.out]))
    refine HSO.out.mono ?_
    rintro e w5 ⟨rfl, hb5⟩
    obtain ⟨w6, hw6⟩ : ∃ u, Hid (u = w5.alloc (.cells #[.int .i64 (0), .int .i64 (0)] 36)) := ⟨_, rfl⟩
    have hb6 : Below w5.heap.size w5 w6 := by rw [hw6.out]; exact (Below.refl _ _).alloc (Nat.le_refl _) _
    have hP6 : w6.heap[w5.heap.size]? = some (.cells #[.int .i64 (0), .int .i64 (0)] 36 (0, 0)) := by rw [hw6.out]; exact heap_alloc_new _ _
    have hR6 := ((hb5.trans (hb6.mono hb5.size)).block r (Array.getElem?_eq_some_iff.1 HR0.out).1).trans HR0.out
    have hB6 := HBW.out.trans ((hb5.trans (hb6.mono hb5.size)).mono HBW.out.size)
    have z0 := cell_blk hR6 (i := 0) rfl
    have z1 := cell_blk hR6 (i := 1) rfl
    have f0 : w6.frozen? ⟨r, 0, none⟩ = false := by simp [World.frozen?, hR6]
    have f1 : w6.frozen? ⟨r, 1, none⟩ = false := by simp [World.frozen?, hR6]
    have HR6 := Lib.hid hR6
    have HF := Lib.hid (HB.out.trans (hB6.mono HB.out.size))
    rw [hw6.out] at z0 z1 f0 f1
    clear hb5 hb6 hP6 hR6 hB6 c0 c1 c2 c3 c4 c5
    simp only [← HRR.out]
    go_wp2
    rw [← hw6.out]
    have hRz : ((w6.setCell ⟨r, 0, none⟩ (.int .i64 0)).setCell ⟨r, 1, none⟩ (.int .i64 0)).heap[r]? = some (.cells #[.int .i64 0, .int .i64 0] 36 (0, 0)) := by simp [World.setCell, Array.getElem?_modify, HR6.out]
    refine bodyPost_ret (results_cell_span rfl _ _ r 0 0 rfl (cell_blk hRz (i := 0) rfl) (cell_blk hRz (i := 1) rfl)) rfl ⟨by rw [HX.out], (HF.out.setCell (p := ⟨r, 0, none⟩) ?_ _).setCell (p := ⟨r, 1, none⟩) ?_ _⟩ <;> (have := HB.out.size; show w.heap.size ≤ r; omega)
end Go.Proofs.Ytjnmgofkdimdaaa
