/- sourceOf, as a contract. No condition but those in the statements. -/
import Derived.Test.YtjnmgofkdimdaaaLNt
import Derived.BigQuiet
import Derived.IntWalk
namespace Go.Proofs.Ytjnmgofkdimdaaa
open Go.RowKit Go.Sort Go.ChangeShapes Go.WideShapes
set_option linter.unusedVariables false
set_option linter.unusedSimpArgs false

/-- The source span of channel k, if there is such a channel of that kind. -/
def srcOfS (c : Cfg) (k kind : Int) : (Int × Int) × Bool := if chanB c k = true ∧ fld (row c.chans k.toNat) 0 = kind then (srcSpan c k, true) else ((0, 0), false)
set_option maxRecDepth 100000 in
set_option maxHeartbeats 4000000 in
theorem srcOf_b (c : Cfg) (x : CfgAt) (k kind : Int) (w : World) (hx : CfgIn w w.heap.size c x) (wx : CfgWf c) (lx : CfgFew c) :
    Calls Try.prog 38 #[.agg (cfgCells c x), .int .i64 k, .int .i64 kind] w fun e w' => e = .returned (.tuple #[.agg #[.int .i64 ((srcOfS c k kind).1.1), .int .i64 ((srcOfS c k kind).1.2)], .bool (srcOfS c k kind).2]) ∧ Below w.heap.size w w' := by
  obtain ⟨Wc, HWc, hBc, hWs, bx⟩ := one_cbox w c x 29
  obtain ⟨pa, pc, ca, cc, aa, ac, ba, bc⟩ := x
  obtain ⟨W, HW⟩ : ∃ u, Hid (u = Wc.alloc (.cells #[.int .i64 0, .int .i64 0] 36)) := ⟨_, rfl⟩
  obtain ⟨r, hr⟩ : ∃ r, r = Wc.heap.size := ⟨_, rfl⟩
  have hrr : Wc.heap.size ≤ r := by omega
  have hR : W.heap[r]? = some (.cells #[.int .i64 0, .int .i64 0] 36 (0, 0)) := by rw [HW.out, hr]; exact heap_alloc_new _ _
  have hBW : Below Wc.heap.size Wc W := by rw [HW.out]; exact (Below.refl _ _).alloc (Nat.le_refl _) _
  have hxW := hx.later (hBc.trans (hBW.mono hBc.size))
  obtain ⟨c0, c1, c2, c3, c4, c5⟩ := bx _ hBW
  have HB := Lib.hid hBc; have HR0 := Lib.hid hR; have HBW := Lib.hid hBW; have HXW := Lib.hid hxW; have HXC := Lib.hid (hx.later hBc); have HRR := Lib.hid hr
  simp only [cfgCells] at HWc ⊢
  clear hBc hR hBW hxW hx hr hWs
  have HLY := Lib.hid (lay_b c ⟨pa, pc, ca, cc, aa, ac, ba, bc⟩ W HXW.out wx lx)
  simp only [cfgCells] at HLY
  cases hq : chanB c k with
  | false =>
    have HX := Lib.hid (show srcOfS c k kind = ((0, 0), false) from if_neg (fun h => by rw [hq] at h; cases h.1))
    have HBE := Lib.hid (fun w' => below_is k ((SR c).length : Int) false w' (decide_eq_false (fun h => by
      cases ha : acceptsB c with
      | false => unfold SR at h; rw [ha, if_neg (by decide)] at h; simp at h; omega
      | true => unfold SR at h; rw [if_pos ha, srL_len] at h; rw [(chanB_iff ha k).2 h] at hq; cases hq)))
    clear hq
    go_enter Try.func38, Try.ntmps38
    go_wp2_with (first | (rw [← HWc.out]) | (rw [← HW.out]))
    refine HLY.out.mono ?_
    rintro e w5 ⟨vp, vs, vd, rfl, r1, r2, r3, hb5⟩
    obtain ⟨A2, k2, rfl, _, _, hrow, _, _⟩ := OwnsOff.rowN (ks := [.i64, .i64]) r2 (SR_wf c)
    obtain ⟨A1, k1, rfl, _⟩ := r1.slice
    obtain ⟨A3, k3, rfl, _⟩ := r3.slice
    obtain ⟨w6, hw6⟩ : ∃ u, Hid (u = w5.alloc (.cells #[.slice A1 (PV c).length k1, .slice A2 (SR c).length k2, .slice A3 (DS c).length k3] 60)) := ⟨_, rfl⟩
    have hb6 : Below w5.heap.size w5 w6 := by rw [hw6.out]; exact (Below.refl _ _).alloc (Nat.le_refl _) _
    have hP6 : w6.heap[w5.heap.size]? = some (.cells #[.slice A1 (PV c).length k1, .slice A2 (SR c).length k2, .slice A3 (DS c).length k3] 60 (0, 0)) := by rw [hw6.out]; exact heap_alloc_new _ _
    have hR6 := ((hb5.trans (hb6.mono hb5.size)).block r (Array.getElem?_eq_some_iff.1 HR0.out).1).trans HR0.out
    have hB6 := HBW.out.trans ((hb5.trans (hb6.mono hb5.size)).mono HBW.out.size)
    have p1 := cell_blk hP6 (i := 1) rfl
    have z0 := cell_blk hR6 (i := 0) rfl
    have z1 := cell_blk hR6 (i := 1) rfl
    have f0 : w6.frozen? ⟨r, 0, none⟩ = false := by simp [World.frozen?, hR6]
    have f1 : w6.frozen? ⟨r, 1, none⟩ = false := by simp [World.frozen?, hR6]
    have HR6 := Lib.hid hR6
    have hBE := HBE.out w6
    have HF := Lib.hid (HB.out.trans (hB6.mono HB.out.size))
    clear hb5 hb6 hP6 hR6 hB6 r1 r2 r3 hrow c0 c1 c2 c3 c4 c5
    simp only [← HRR.out]
    go_wp2_with (first | (rw [← hw6.out]) | (go_at_call 39; ((with_reducible refine hBE.mono ?_); rintro e w7 ⟨rfl, rfl⟩)))
    have hRz : ((w6.setCell ⟨r, 0, none⟩ (.int .i64 0)).setCell ⟨r, 1, none⟩ (.int .i64 0)).heap[r]? = some (.cells #[.int .i64 0, .int .i64 0] 36 (0, 0)) := by simp [World.setCell, Array.getElem?_modify, HR6.out]
    have y0 := cell_blk hRz (i := 0) rfl
    have y1 := cell_blk hRz (i := 1) rfl
    refine bodyPost_ret (v := .tuple #[.agg #[.int .i64 (0), .int .i64 (0)], .bool false]) (by simp [results, Try.results38, go_sem, y0, y1]) rfl ⟨by rw [HX.out], (HF.out.setCell (p := ⟨r, 0, none⟩) ?_ _).setCell (p := ⟨r, 1, none⟩) ?_ _⟩ <;> (have := HB.out.size; show w.heap.size ≤ r; omega)
  | true =>
    have hq2 : (0 ≤ k ∧ k < (c.chans.length : Int)) ∧ acceptsB c = true := by
      unfold chanB at hq
      rw [Bool.and_eq_true] at hq
      exact ⟨of_decide_eq_true hq.1, hq.2⟩
    have hS : SR c = srL c c.chans.length := if_pos hq2.2
    have hSL : (SR c).length = c.chans.length := by rw [hS, srL_len]
    have HSW := Lib.hid hS
    have HBE := Lib.hid (fun w' => below_is k ((SR c).length : Int) true w' (decide_eq_true (by rw [hSL]; exact hq2.1)))
    obtain ⟨⟨k0, k1⟩, ha⟩ := hq2
    obtain ⟨n, rfl⟩ := Int.eq_ofNat_of_zero_le k0
    have hn : n < c.chans.length := by omega
    obtain ⟨b, o, x0, x1, x2, x3, x4, x5, x6, e0, _, e1, -, hrw⟩ := HXC.out.rc.at7 wx.wc hn
    have s0 : (0 : Int) ≤ (n : Int) := by omega
    have s1 : (n : Int) < (c.chans.length : Int) := by omega
    have s2 : (n : Int) < ((SR c).length : Int) := by rw [hSL]; exact s1
    have E1 := Lib.hid e1; have HQ := Lib.hid hq; have HSL := Lib.hid hSL; have HN := Lib.hid hn
    clear hq hS hSL e1
    subst e0
    by_cases hk : x0 = kind
    · have hkf : (x0 != kind) = false := by simp [hk]
      have HX := Lib.hid (show srcOfS c (n : Int) kind = (srcSpan c (n : Int), true) from if_pos ⟨HQ.out, by rw [Int.toNat_natCast, row_at E1.out]; exact hk⟩)
      have HY := Lib.hid (show srcSpan c (n : Int) = (beforeN c n, srcN (row c.chans n)) from (if_pos HQ.out).trans (by rw [Int.toNat_natCast]))
      have hat : (SR c)[n]? = some [beforeN c n, srcN (row c.chans n)] := by rw [HSW.out]; exact srL_at c HN.out
      obtain ⟨y0, hy0⟩ : ∃ y0, beforeN c n = y0 := ⟨_, rfl⟩
      obtain ⟨y1, hy1⟩ : ∃ y1, srcN (row c.chans n) = y1 := ⟨_, rfl⟩
      rw [hy0, hy1] at HY hat
      have HAT := Lib.hid hat
      clear hk hat hy0 hy1
      go_enter Try.func38, Try.ntmps38
      go_wp2_with (first | (rw [← HWc.out]) | (rw [← HW.out]))
      refine HLY.out.mono ?_
      rintro e w5 ⟨vp, vs, vd, rfl, r1, r2, r3, hb5⟩
      obtain ⟨A2, k2, rfl, _, _, hrow, _, _⟩ := OwnsOff.rowN (ks := [.i64, .i64]) r2 (SR_wf c)
      obtain ⟨A1, k1, rfl, _⟩ := r1.slice
      obtain ⟨A3, k3, rfl, _⟩ := r3.slice
      obtain ⟨w6, hw6⟩ : ∃ u, Hid (u = w5.alloc (.cells #[.slice A1 (PV c).length k1, .slice A2 (SR c).length k2, .slice A3 (DS c).length k3] 60)) := ⟨_, rfl⟩
      have hb6 : Below w5.heap.size w5 w6 := by rw [hw6.out]; exact (Below.refl _ _).alloc (Nat.le_refl _) _
      have hP6 : w6.heap[w5.heap.size]? = some (.cells #[.slice A1 (PV c).length k1, .slice A2 (SR c).length k2, .slice A3 (DS c).length k3] 60 (0, 0)) := by rw [hw6.out]; exact heap_alloc_new _ _
      have hR6 := ((hb5.trans (hb6.mono hb5.size)).block r (Array.getElem?_eq_some_iff.1 HR0.out).1).trans HR0.out
      have hB6 := HBW.out.trans ((hb5.trans (hb6.mono hb5.size)).mono HBW.out.size)
      have p1 := cell_blk hP6 (i := 1) rfl
      have z0 := cell_blk hR6 (i := 0) rfl
      have z1 := cell_blk hR6 (i := 1) rfl
      have f0 : w6.frozen? ⟨r, 0, none⟩ = false := by simp [World.frozen?, hR6]
      have f1 : w6.frozen? ⟨r, 1, none⟩ = false := by simp [World.frozen?, hR6]
      have HR6 := Lib.hid hR6
      have hBE := HBE.out w6
      have HF := Lib.hid (HB.out.trans (hB6.mono HB.out.size))
      obtain ⟨sb, so, sy0, sy1, rfl, hsb, se1, -, srow⟩ := hrow.at2 (SR_wf c) (i := n) (by have := HSL.out; have := HN.out; omega)
      have hyy := HAT.out
      rw [se1] at hyy
      obtain ⟨rfl, rfl⟩ : sy0 = y0 ∧ sy1 = y1 := by simpa using hyy
      obtain ⟨u0, u1⟩ := srow w6 hb6
      obtain ⟨q0, q1, q2, q3, q4, q5, q6⟩ := hrw w6 hB6
      obtain ⟨d0, d1, d2, d3, d4, d5⟩ := bx w6 hB6
      clear hb5 hb6 hP6 hR6 hB6 r1 r2 r3 hrow c0 c1 c2 c3 c4 c5 hrw srow hyy se1
      simp only [← HRR.out]
      go_wp2_with (first | (rw [← hw6.out]) | (go_at_call 39; ((with_reducible refine hBE.mono ?_); rintro e w7 ⟨rfl, rfl⟩)))
      have hRz : ((w6.setCell ⟨r, 0, none⟩ (.int .i64 sy0)).setCell ⟨r, 1, none⟩ (.int .i64 sy1)).heap[r]? = some (.cells #[.int .i64 sy0, .int .i64 sy1] 36 (0, 0)) := by simp [World.setCell, Array.getElem?_modify, HR6.out]
      have y0 := cell_blk hRz (i := 0) rfl
      have y1 := cell_blk hRz (i := 1) rfl
      refine bodyPost_ret (v := .tuple #[.agg #[.int .i64 (sy0), .int .i64 (sy1)], .bool true]) (by simp [results, Try.results38, go_sem, y0, y1]) rfl ⟨by rw [HX.out, HY.out], (HF.out.setCell (p := ⟨r, 0, none⟩) ?_ _).setCell (p := ⟨r, 1, none⟩) ?_ _⟩ <;> (have := HB.out.size; show w.heap.size ≤ r; omega)
    · have hkf : (x0 != kind) = true := by simp [hk]
      have HX := Lib.hid (show srcOfS c (n : Int) kind = ((0, 0), false) from if_neg (fun h => hk (by have := h.2; rw [Int.toNat_natCast, row_at E1.out] at this; exact this)))
      clear hk
      go_enter Try.func38, Try.ntmps38
      go_wp2_with (first | (rw [← HWc.out]) | (rw [← HW.out]))
      refine HLY.out.mono ?_
      rintro e w5 ⟨vp, vs, vd, rfl, r1, r2, r3, hb5⟩
      obtain ⟨A2, k2, rfl, _, _, hrow, _, _⟩ := OwnsOff.rowN (ks := [.i64, .i64]) r2 (SR_wf c)
      obtain ⟨A1, k1, rfl, _⟩ := r1.slice
      obtain ⟨A3, k3, rfl, _⟩ := r3.slice
      obtain ⟨w6, hw6⟩ : ∃ u, Hid (u = w5.alloc (.cells #[.slice A1 (PV c).length k1, .slice A2 (SR c).length k2, .slice A3 (DS c).length k3] 60)) := ⟨_, rfl⟩
      have hb6 : Below w5.heap.size w5 w6 := by rw [hw6.out]; exact (Below.refl _ _).alloc (Nat.le_refl _) _
      have hP6 : w6.heap[w5.heap.size]? = some (.cells #[.slice A1 (PV c).length k1, .slice A2 (SR c).length k2, .slice A3 (DS c).length k3] 60 (0, 0)) := by rw [hw6.out]; exact heap_alloc_new _ _
      have hR6 := ((hb5.trans (hb6.mono hb5.size)).block r (Array.getElem?_eq_some_iff.1 HR0.out).1).trans HR0.out
      have hB6 := HBW.out.trans ((hb5.trans (hb6.mono hb5.size)).mono HBW.out.size)
      have p1 := cell_blk hP6 (i := 1) rfl
      have z0 := cell_blk hR6 (i := 0) rfl
      have z1 := cell_blk hR6 (i := 1) rfl
      have f0 : w6.frozen? ⟨r, 0, none⟩ = false := by simp [World.frozen?, hR6]
      have f1 : w6.frozen? ⟨r, 1, none⟩ = false := by simp [World.frozen?, hR6]
      have HR6 := Lib.hid hR6
      have hBE := HBE.out w6
      have HF := Lib.hid (HB.out.trans (hB6.mono HB.out.size))
      obtain ⟨q0, q1, q2, q3, q4, q5, q6⟩ := hrw w6 hB6
      obtain ⟨d0, d1, d2, d3, d4, d5⟩ := bx w6 hB6
      clear hb5 hb6 hP6 hR6 hB6 r1 r2 r3 hrow c0 c1 c2 c3 c4 c5 hrw
      simp only [← HRR.out]
      go_wp2_with (first | (rw [← hw6.out]) | (go_at_call 39; ((with_reducible refine hBE.mono ?_); rintro e w7 ⟨rfl, rfl⟩)))
      have hRz : ((w6.setCell ⟨r, 0, none⟩ (.int .i64 0)).setCell ⟨r, 1, none⟩ (.int .i64 0)).heap[r]? = some (.cells #[.int .i64 0, .int .i64 0] 36 (0, 0)) := by simp [World.setCell, Array.getElem?_modify, HR6.out]
      have y0 := cell_blk hRz (i := 0) rfl
      have y1 := cell_blk hRz (i := 1) rfl
      refine bodyPost_ret (v := .tuple #[.agg #[.int .i64 (0), .int .i64 (0)], .bool false]) (by simp [results, Try.results38, go_sem, y0, y1]) rfl ⟨by rw [HX.out], (HF.out.setCell (p := ⟨r, 0, none⟩) ?_ _).setCell (p := ⟨r, 1, none⟩) ?_ _⟩ <;> (have := HB.out.size; show w.heap.size ≤ r; omega)
end Go.Proofs.Ytjnmgofkdimdaaa
