/- The document's Private, as a contract. No condition but those in the statements. -/
import Derived.Test.YtnemabgenaijhaaDoorRSrc
import Derived.BigQuiet
import Derived.IntWalk
namespace Go.Proofs.YtnemabgenaijhaaDoor
open Go.RowKit Go.Sort Go.ChangeShapes Go.WideShapes
set_option linter.unusedVariables false
set_option linter.unusedSimpArgs false

/-- A partition's private span, From and Size; noughts, if there is none. -/
def privSpan (c : Cfg) (p : Int) : Int × Int := if acceptsB c = true ∧ 0 ≤ p ∧ p < (c.parts.length : Int) then (privUp c.parts p.toNat, fld (row c.parts p.toNat) 1) else (0, 0)
set_option maxRecDepth 100000 in
set_option maxHeartbeats 4000000 in
theorem rprivate_b (c : Cfg) (x : CfgAt) (p : Int) (w : World) (hx : CfgIn w w.heap.size c x) (wx : CfgWf c) (lx : CfgFew c) : Calls Tryd.prog 31 #[.agg (cfgCells c x), .int .i64 p] w fun e w' => e = .returned (.agg #[.int .i64 (privSpan c p).1, .int .i64 (privSpan c p).2]) ∧ Below w.heap.size w w' := by
  obtain ⟨Wc, HWc, hBc, hWs, bx⟩ := one_cbox w c x 35
  obtain ⟨pa, pc, ca, cc, aa, ac, ba, bc⟩ := x
  obtain ⟨W, HW⟩ : ∃ u, Hid (u = Wc.alloc (.cells #[.int .i64 0, .int .i64 0] 75)) := ⟨_, rfl⟩
  obtain ⟨r, hr⟩ : ∃ r, r = Wc.heap.size := ⟨_, rfl⟩
  have hrr : Wc.heap.size ≤ r := by omega
  have hR : W.heap[r]? = some (.cells #[.int .i64 0, .int .i64 0] 75 (0, 0)) := by rw [HW.out, hr]; exact heap_alloc_new _ _
  have hBW : Below Wc.heap.size Wc W := by rw [HW.out]; exact (Below.refl _ _).alloc (Nat.le_refl _) _
  have hxW := hx.later (hBc.trans (hBW.mono hBc.size))
  obtain ⟨c0, c1, c2, c3, c4, c5⟩ := bx _ hBW
  have HB := Lib.hid hBc; have HR0 := Lib.hid hR; have HBW := Lib.hid hBW; have HXW := Lib.hid hxW; have HXC := Lib.hid (hx.later hBc); have HRR := Lib.hid hr
  simp only [cfgCells] at HWc ⊢
  clear hBc hR hBW hxW hx hr hWs
  cases hq : acceptsB c with
  | false =>
    have HX := Lib.hid (show privSpan c p = (0, 0) from if_neg (fun h => by rw [hq] at h; cases h.1))
    have HC := Lib.hid (racc_b c ⟨pa, pc, ca, cc, aa, ac, ba, bc⟩ false W HXW.out wx lx hq)
    clear hq
    go_enter Tryd.func31, Tryd.ntmps31
    go_wp2_with (first | (rw [← HWc.out]) | (rw [← HW.out]))
    refine HC.out.mono ?_
    rintro e w5 ⟨rfl, hb5⟩
    have hR5 := (hb5.block r (Array.getElem?_eq_some_iff.1 HR0.out).1).trans HR0.out
    have z0 := cell_blk hR5 (i := 0) rfl
    have z1 := cell_blk hR5 (i := 1) rfl
    have f0 : w5.frozen? ⟨r, 0, none⟩ = false := by simp [World.frozen?, hR5]
    have f1 : w5.frozen? ⟨r, 1, none⟩ = false := by simp [World.frozen?, hR5]
    have HR5 := Lib.hid hR5
    have HF := Lib.hid (HB.out.trans ((HBW.out.trans (hb5.mono HBW.out.size)).mono HB.out.size))
    obtain ⟨g0, g1, g2, g3, g4, g5⟩ := bx _ (HBW.out.trans (hb5.mono HBW.out.size))
    clear hb5 hR5 c0 c1 c2 c3 c4 c5
    simp only [← HRR.out]
    go_wp2
    have hRz : ((w5.setCell ⟨r, 0, none⟩ (.int .i64 0)).setCell ⟨r, 1, none⟩ (.int .i64 0)).heap[r]? = some (.cells #[.int .i64 0, .int .i64 0] 75 (0, 0)) := by simp [World.setCell, Array.getElem?_modify, HR5.out]
    refine bodyPost_ret (results_cell_span rfl _ _ r 0 0 rfl (cell_blk hRz (i := 0) rfl) (cell_blk hRz (i := 1) rfl)) rfl ⟨by rw [HX.out], (HF.out.setCell (p := ⟨r, 0, none⟩) ?_ _).setCell (p := ⟨r, 1, none⟩) ?_ _⟩ <;> (have := HB.out.size; show w.heap.size ≤ r; omega)
  | true =>
    have HC := Lib.hid (racc_b c ⟨pa, pc, ca, cc, aa, ac, ba, bc⟩ true W HXW.out wx lx hq)
    have HA := Lib.hid (accd_of hq)
    by_cases h1 : p < 0
    · have HX := Lib.hid (show privSpan c p = (0, 0) from if_neg (fun h => by omega))
      clear hq
      go_enter Tryd.func31, Tryd.ntmps31
      go_wp2_with (first | (rw [← HWc.out]) | (rw [← HW.out]))
      refine HC.out.mono ?_
      rintro e w5 ⟨rfl, hb5⟩
      have hR5 := (hb5.block r (Array.getElem?_eq_some_iff.1 HR0.out).1).trans HR0.out
      have z0 := cell_blk hR5 (i := 0) rfl
      have z1 := cell_blk hR5 (i := 1) rfl
      have f0 : w5.frozen? ⟨r, 0, none⟩ = false := by simp [World.frozen?, hR5]
      have f1 : w5.frozen? ⟨r, 1, none⟩ = false := by simp [World.frozen?, hR5]
      have HR5 := Lib.hid hR5
      have HF := Lib.hid (HB.out.trans ((HBW.out.trans (hb5.mono HBW.out.size)).mono HB.out.size))
      obtain ⟨g0, g1, g2, g3, g4, g5⟩ := bx _ (HBW.out.trans (hb5.mono HBW.out.size))
      clear hb5 hR5 c0 c1 c2 c3 c4 c5
      simp only [← HRR.out]
      go_wp2
      have hRz : ((w5.setCell ⟨r, 0, none⟩ (.int .i64 0)).setCell ⟨r, 1, none⟩ (.int .i64 0)).heap[r]? = some (.cells #[.int .i64 0, .int .i64 0] 75 (0, 0)) := by simp [World.setCell, Array.getElem?_modify, HR5.out]
      refine bodyPost_ret (results_cell_span rfl _ _ r 0 0 rfl (cell_blk hRz (i := 0) rfl) (cell_blk hRz (i := 1) rfl)) rfl ⟨by rw [HX.out], (HF.out.setCell (p := ⟨r, 0, none⟩) ?_ _).setCell (p := ⟨r, 1, none⟩) ?_ _⟩ <;> (have := HB.out.size; show w.heap.size ≤ r; omega)
    have h1d : decide (p < 0) = false := decide_eq_false h1
    by_cases h2 : (c.parts.length : Int) ≤ p
    · have HX := Lib.hid (show privSpan c p = (0, 0) from if_neg (fun h => by omega))
      clear hq
      go_enter Tryd.func31, Tryd.ntmps31
      go_wp2_with (first | (rw [← HWc.out]) | (rw [← HW.out]))
      refine HC.out.mono ?_
      rintro e w5 ⟨rfl, hb5⟩
      have hR5 := (hb5.block r (Array.getElem?_eq_some_iff.1 HR0.out).1).trans HR0.out
      have z0 := cell_blk hR5 (i := 0) rfl
      have z1 := cell_blk hR5 (i := 1) rfl
      have f0 : w5.frozen? ⟨r, 0, none⟩ = false := by simp [World.frozen?, hR5]
      have f1 : w5.frozen? ⟨r, 1, none⟩ = false := by simp [World.frozen?, hR5]
      have HR5 := Lib.hid hR5
      have HF := Lib.hid (HB.out.trans ((HBW.out.trans (hb5.mono HBW.out.size)).mono HB.out.size))
      obtain ⟨g0, g1, g2, g3, g4, g5⟩ := bx _ (HBW.out.trans (hb5.mono HBW.out.size))
      clear hb5 hR5 c0 c1 c2 c3 c4 c5
      simp only [← HRR.out]
      go_wp2
      have hRz : ((w5.setCell ⟨r, 0, none⟩ (.int .i64 0)).setCell ⟨r, 1, none⟩ (.int .i64 0)).heap[r]? = some (.cells #[.int .i64 0, .int .i64 0] 75 (0, 0)) := by simp [World.setCell, Array.getElem?_modify, HR5.out]
      refine bodyPost_ret (results_cell_span rfl _ _ r 0 0 rfl (cell_blk hRz (i := 0) rfl) (cell_blk hRz (i := 1) rfl)) rfl ⟨by rw [HX.out], (HF.out.setCell (p := ⟨r, 0, none⟩) ?_ _).setCell (p := ⟨r, 1, none⟩) ?_ _⟩ <;> (have := HB.out.size; show w.heap.size ≤ r; omega)
    · have h2d : decide ((c.parts.length : Int) ≤ p) = false := decide_eq_false h2
      have HX := Lib.hid (show privSpan c p = (privUp c.parts p.toNat, fld (row c.parts p.toNat) 1) from if_pos ⟨hq, by omega, by omega⟩)
      obtain ⟨n, rfl⟩ := Int.eq_ofNat_of_zero_le (show 0 ≤ p by omega)
      have hn : n < c.parts.length := by omega
      have hnn : ¬ c.parts.length ≤ n := by omega
      have hnd : decide (c.parts.length ≤ n) = false := decide_eq_false hnn
      have HU := Lib.hid (fun i (hi : i ≤ c.parts.length) => privUp_in HA.out i hi)
      have hp6 : c.parts.length ≤ 6 := HA.out.parts.2
      have HP := Lib.hid HXC.out.rp
      have HPW := Lib.hid wx.wp
      clear hq
      go_enter Tryd.func31, Tryd.ntmps31
      go_wp2_with (first | (rw [← HWc.out]) | (rw [← HW.out]))
      refine HC.out.mono ?_
      rintro e w5 ⟨rfl, hb5⟩
      have hR5 := (hb5.block r (Array.getElem?_eq_some_iff.1 HR0.out).1).trans HR0.out
      have hB5 := HBW.out.trans (hb5.mono HBW.out.size)
      obtain ⟨g0, g1, g2, g3, g4, g5⟩ := bx _ hB5
      have HR5 := Lib.hid hR5; have HB5 := Lib.hid hB5
      clear hb5 hR5 hB5 c0 c1 c2 c3 c4 c5
      simp only [← HRR.out]
      go_wp2
      clear g0 g1 g2 g3 g4 g5
      go_loopw [5, 6] (fun nn ix wr => ∃ i : Nat, i ≤ n ∧ ix = .int .i64 i ∧ nn = .int .i64 (privUp c.parts i) ∧ wr.heap[r]? = some (.cells #[.int .i64 0, .int .i64 0] 75 (0, 0)) ∧ Below Wc.heap.size Wc wr) (fun _ ix _ => n - (intOf ix).toNat)
      case atStart => exact ⟨0, Nat.zero_le _, rfl, rfl, HR5.out, HB5.out⟩
      case round =>
        obtain ⟨i, hi, rfl, rfl, hR, hB⟩ := hrel
        obtain ⟨g0, g1, g2, g3, g4, g5⟩ := bx _ hB
        have hil : i < c.parts.length := by omega
        obtain ⟨b, o, y0, y1, e0, _, e1, _, k0⟩ := HP.out.at2 HPW.out hil
        obtain ⟨p0, p1⟩ := k0 _ hB
        rw [e0] at g0
        have hs := HU.out i (by omega)
        have hs1 := HU.out (i + 1) (by omega)
        have hnx : privUp c.parts (i + 1) = privUp c.parts i + y1 := by show privUp c.parts i + fld (row c.parts i) 1 = _; rw [row_at e1]; rfl
        rw [hnx] at hs1
        have HN := Lib.hid hnx
        have i0 : (0 : Int) ≤ (i : Int) := by omega
        have i1 : (i : Int) < (c.parts.length : Int) := by omega
        obtain ⟨z, hz⟩ : ∃ z, privUp c.parts i = z := ⟨_, rfl⟩
        have HZ := Lib.hid hz
        rw [hz] at hs hs1 HN
        simp only [hz]
        have v0 := IntWalk.i64_in (z + y1) (by omega)
        have HE1 := Lib.hid e1
        clear hnx hz e0 e1 k0 hs hs1
        by_cases hlt : i < n
        · have hR' := Lib.hid hR
          clear hR
          go_wp2
          go_roundw
          case rel => exact ⟨i + 1, by omega, by go_num, by rw [HN.out], hR'.out, hB⟩
          case measure => simp [intOf]; omega
        · have hin : i = n := by omega
          subst hin
          have HX2 := Lib.hid (show privSpan c (i : Int) = (z, y1) by rw [HX.out]; simp only [Int.toNat_natCast, HZ.out, row_at HE1.out]; rfl)
          have z0 := cell_blk hR (i := 0) rfl
          have z1 := cell_blk hR (i := 1) rfl
          have f0 : wr.frozen? ⟨r, 0, none⟩ = false := by simp [World.frozen?, hR]
          have f1 : wr.frozen? ⟨r, 1, none⟩ = false := by simp [World.frozen?, hR]
          have HRR2 := Lib.hid hR; have HBB := Lib.hid hB
          clear hR hB
          go_wp2
          have hRz : ((wr.setCell ⟨r, 0, none⟩ (.int .i64 z)).setCell ⟨r, 1, none⟩ (.int .i64 y1)).heap[r]? = some (.cells #[.int .i64 z, .int .i64 y1] 75 (0, 0)) := by simp [World.setCell, Array.getElem?_modify, HRR2.out]
          exact bodyPost_ret (results_cell_span rfl _ _ r z y1 rfl (cell_blk hRz (i := 0) rfl) (cell_blk hRz (i := 1) rfl)) rfl ⟨by rw [HX2.out], HB.out.trans ((((HBB.out.setCell (p := ⟨r, 0, none⟩) hrr _).setCell (p := ⟨r, 1, none⟩) hrr _)).mono HB.out.size)⟩
end Go.Proofs.YtnemabgenaijhaaDoor
