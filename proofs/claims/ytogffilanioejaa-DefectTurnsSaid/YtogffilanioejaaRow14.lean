/- strayWindow, as a contract. No condition but those in the statements. -/
import Derived.Test.YtogffilanioejaaSmall
import Derived.BigQuiet
namespace Go.Proofs.Ytogffilanioejaa
open Go.RowKit Go.Sort Go.ChangeShapes Go.WideShapes
set_option linter.unusedVariables false
set_option linter.unusedSimpArgs false

theorem Try.infoF : (Try.prog.info? 26).map (fun i => (i.size)) = some 2 := by kernel_rfl
theorem frame_at0 (l0 l1 : Int) (A B : Option Addr) (n m c d : Nat) (w : World) : (Instr.index 27 (.agg #[.int .i64 l0, .slice A n c, .int .i64 l1, .slice B m d]) (.int .i64 0)).run Try.prog w = .ok (.agg #[.int .i64 l0, .slice A n c]) w := by
  obtain ⟨i, hi, hs⟩ : ∃ i, Try.prog.info? 26 = some i ∧ i.size = 2 := by
    have h := Try.infoF
    cases hh : Try.prog.info? 26 with
    | none => rw [hh] at h; cases h
    | some i => rw [hh] at h; exact ⟨i, rfl, by simpa using h⟩
  simp [Instr.index, go_sem, run_underlying Try.underlying27, asIntOf, run_sizeOf w hi, hs]
theorem frame_at1 (l0 l1 : Int) (A B : Option Addr) (n m c d : Nat) (w : World) : (Instr.index 27 (.agg #[.int .i64 l0, .slice A n c, .int .i64 l1, .slice B m d]) (.int .i64 1)).run Try.prog w = .ok (.agg #[.int .i64 l1, .slice B m d]) w := by
  obtain ⟨i, hi, hs⟩ : ∃ i, Try.prog.info? 26 = some i ∧ i.size = 2 := by
    have h := Try.infoF
    cases hh : Try.prog.info? 26 with
    | none => rw [hh] at h; cases h
    | some i => rw [hh] at h; exact ⟨i, rfl, by simpa using h⟩
  simp [Instr.index, go_sem, run_underlying Try.underlying27, asIntOf, run_sizeOf w hi, hs, show Try.prog.cellsOf 26 = 2 from by kernel_rfl]

set_option maxRecDepth 100000 in
set_option maxHeartbeats 8000000 in
theorem row14_b (parts chans : List (List Int)) (len0 : Int) (win0 : List (List Int)) (len1 : Int) (win1 : List (List Int)) (pa : Option Addr) (pc : Nat) (ca : Option Addr) (cc : Nat) (aa : Option Addr) (ac : Nat) (ba : Option Addr) (bc : Nat) (w : World) (hp : RowN [.i64, .i64] w w.heap.size pa parts) (hpw : wfR [.i64, .i64] parts) (hpl : parts.length ≤ 1000000) (hc : RowN [.i64, .i64, .i64, .i64, .i64, .i64, .u32] w w.heap.size ca chans) (hcw : wfR [.i64, .i64, .i64, .i64, .i64, .i64, .u32] chans) (hcl : chans.length ≤ 1000000) (h0 : RowN [.i64, .i64, .i64] w w.heap.size aa win0) (h0w : wfR [.i64, .i64, .i64] win0) (h0l : win0.length ≤ 1000000) (h1 : RowN [.i64, .i64, .i64] w w.heap.size ba win1) (h1w : wfR [.i64, .i64, .i64] win1) (h1l : win1.length ≤ 1000000) : Calls Try.prog 38 #[.agg #[.slice pa parts.length pc, .slice ca chans.length cc, .int .i64 len0, .slice aa win0.length ac, .int .i64 len1, .slice ba win1.length bc]] w fun e w' => e = .returned (.bool (holdsP (⟨parts, chans, len0, win0, len1, win1⟩ : Cfg) 14)) ∧ Below w.heap.size w w' := by
  have hval : holdsP (⟨parts, chans, len0, win0, len1, win1⟩ : Cfg) 14 = (scan win0.length (fun i => win14 (⟨parts, chans, len0, win0, len1, win1⟩ : Cfg) 0 (row win0 i)) || scan win1.length (fun i => win14 (⟨parts, chans, len0, win0, len1, win1⟩ : Cfg) 1 (row win1 i))) := rfl
  have HV0 := Lib.hid (show scan win0.length (fun i => win14 (⟨parts, chans, len0, win0, len1, win1⟩ : Cfg) 0 (row win0 i)) = true → holdsP (⟨parts, chans, len0, win0, len1, win1⟩ : Cfg) 14 = true from fun h => by rw [hval, h]; rfl)
  have HV1 := Lib.hid (show scan win1.length (fun i => win14 (⟨parts, chans, len0, win0, len1, win1⟩ : Cfg) 1 (row win1 i)) = true → holdsP (⟨parts, chans, len0, win0, len1, win1⟩ : Cfg) 14 = true from fun h => by rw [hval, h, Bool.or_true])
  have HV := Lib.hid hval
  clear hval
  obtain ⟨W, HW, hB, -, bx⟩ := one_cbox w ⟨parts, chans, len0, win0, len1, win1⟩ ⟨pa, pc, ca, cc, aa, ac, ba, bc⟩ 29
  have HB := Lib.hid hB
  have hp := hp.later hB; have hc := hc.later hB; have h0 := h0.later hB; have h1 := h1.later hB
  clear hB
  have hix0 := frame_at0 len0 len1 aa ba win0.length win1.length ac bc
  have hix1 := frame_at1 len0 len1 aa ba win0.length win1.length ac bc
  go_enter Try.func38, Try.ntmps38
  go_wp2
  go_loopw [9] (fun ix wr => ∃ k : Int, 0 ≤ k ∧ k ≤ 2 ∧ ix = .int .i64 k ∧ ((0 < k → scan win0.length (fun i => win14 (⟨parts, chans, len0, win0, len1, win1⟩ : Cfg) 0 (row win0 i)) = false) ∧ (1 < k → scan win1.length (fun i => win14 (⟨parts, chans, len0, win0, len1, win1⟩ : Cfg) 1 (row win1 i)) = false)) ∧ Below W.heap.size W wr) (fun ix _ => (2 - intOf ix).toNat)
  case atStart => exact ⟨0, by omega, by omega, rfl, ⟨fun h => by omega, fun h => by omega⟩, (by rw [← HW.out]; exact Below.refl _ _)⟩
  case round =>
    obtain ⟨k, hk0, hk2, rfl, hu, hbc⟩ := hrel
    have HU := Lib.hid hu
    clear hu
    rcases (show k = 0 ∨ k = 1 ∨ k = 2 by omega) with hk | hk | hk
    · subst hk
      have HWF := Lib.hid (hbc.alloc hbc.size (.cells #[.int .i64 len0, .slice aa win0.length ac] 26))
      go_wp2
      go_loopw [16] (fun ix wr => ∃ i : Nat, i ≤ win0.length ∧ ix = .int .i64 i ∧ scan i (fun i => win14 (⟨parts, chans, len0, win0, len1, win1⟩ : Cfg) 0 (row win0 i)) = false ∧ Below W.heap.size W wr) (fun ix _ => win0.length - (intOf ix).toNat)
      case atStart => exact ⟨0, Nat.zero_le _, rfl, rfl, HWF.out⟩
      case round =>
        obtain ⟨i, hi, rfl, ht, hbc⟩ := hrel
        have HT := Lib.hid ht
        obtain ⟨c0, c1, c2, c3, c4, c5⟩ := bx _ hbc
        clear ht
        by_cases hlt : i < win0.length
        · obtain ⟨b, o, x0, x1, x2, e0, _, e1, ⟨hw0, hw1, hw2⟩, k0⟩ := h0.at3 h0w hlt
          subst e0
          have k0 := k0 _ hbc
          obtain ⟨p0, k0⟩ := k0
          obtain ⟨p1, p2⟩ := k0
          have E1 := Lib.hid e1
          clear e1
          obtain ⟨wa, hwa⟩ : ∃ u, Hid (u = wr.alloc (.cells #[.int .i64 x0, .int .i64 x1, .int .i64 x2] 38)) := ⟨_, rfl⟩
          have hba : Below wr.heap.size wr wa := by rw [hwa.out]; exact (Below.refl _ _).alloc (Nat.le_refl _) _
          have hxa : wa.heap[wr.heap.size]? = some (.cells #[.int .i64 x0, .int .i64 x1, .int .i64 x2] 38 (0, 0)) := by rw [hwa.out]; exact heap_alloc_new _ _
          have hwb := hbc.trans (hba.mono hbc.size)
          have hla : wr.heap.size < wa.heap.size := (Array.getElem?_eq_some_iff.1 hxa).1
          obtain ⟨a0, a1, a2, a3, a4, a5⟩ := bx _ hwb
          have q0 := cell_blk hxa (i := 0) rfl
          have HWB := Lib.hid hwb
          clear hwb hba
          by_cases hA : partB (⟨parts, chans, len0, win0, len1, win1⟩ : Cfg) x0 = true
          · have hA' : 0 ≤ x0 ∧ x0 < (parts.length : Int) := of_decide_eq_true hA
            have HA := Lib.hid hA
            clear hA
            obtain ⟨j, rfl⟩ := Int.eq_ofNat_of_zero_le hA'.1
            have hj : j < parts.length := by have := hA'.2; omega
            go_wp2_with (rw [← hwa.out])
            refine (isPart_is parts chans len0 win0 len1 win1 pa pc ca cc (some ⟨b, o, none⟩) ac ba bc (j : Int) true _ hpl HA.out).mono ?_
            rintro e w5 ⟨rfl, hb5⟩
            have hxb := (hb5.block _ hla).trans hxa
            have hw5 := HWB.out.trans (hb5.mono HWB.out.size)
            obtain ⟨b0, b1, b2, b3, b4, b5⟩ := bx _ hw5
            have q2 := cell_blk hxb (i := 0) rfl
            obtain ⟨bp, op, y0, y1, f0, _, f1, _, r0⟩ := hp.at2 hpw hj
            obtain ⟨r1, r2⟩ := r0 _ hw5
            have F1 := Lib.hid f1
            have HW5 := Lib.hid hw5
            have hj1 : (0 : Int) ≤ (j : Int) := by omega
            have hj2 : (j : Int) < (parts.length : Int) := by omega
            clear f1 r0 hw5 hxb hb5 a0 a1 a2 a3 a4 a5 q0 hA'
            subst f0
            by_cases h1 : y0 = 0
            · have h1a : ((y0 : Int) == 0) = true := by simp [h1]
              have h1b : ((y0 : Int) != 0) = false := by simp [h1]
              have HX := Lib.hid (show scan (i + 1) (fun i => win14 (⟨parts, chans, len0, win0, len1, win1⟩ : Cfg) 0 (row win0 i)) = false from scan_next HT.out (show win14 (⟨parts, chans, len0, win0, len1, win1⟩ : Cfg) 0 (row win0 i) = false by rw [row_at E1.out]; rw [win14, show partB (⟨parts, chans, len0, win0, len1, win1⟩ : Cfg) (fld [(j : Int), x1, x2] 0) = true from HA.out, show row (⟨parts, chans, len0, win0, len1, win1⟩ : Cfg).parts (fld [(j : Int), x1, x2] 0).toNat = [y0, y1] from row_at F1.out]; exact (show decide (y0 ≠ 0) = false from decide_eq_false (fun h => h h1))))
              go_wp2
              go_roundw
              case rel => exact ⟨i + 1, by omega, by go_num, HX.out, HW5.out⟩
              case measure => simp [intOf]; omega
            · have h1a : ((y0 : Int) == 0) = false := by simp [h1]
              have h1b : ((y0 : Int) != 0) = true := by simp [h1]
              have HX := Lib.hid (show holdsP (⟨parts, chans, len0, win0, len1, win1⟩ : Cfg) 14 = true from HV0.out (scan_hit (f := (fun i => win14 (⟨parts, chans, len0, win0, len1, win1⟩ : Cfg) 0 (row win0 i))) hlt (show win14 (⟨parts, chans, len0, win0, len1, win1⟩ : Cfg) 0 (row win0 i) = true by rw [row_at E1.out]; rw [win14, show partB (⟨parts, chans, len0, win0, len1, win1⟩ : Cfg) (fld [(j : Int), x1, x2] 0) = true from HA.out, show row (⟨parts, chans, len0, win0, len1, win1⟩ : Cfg).parts (fld [(j : Int), x1, x2] 0).toNat = [y0, y1] from row_at F1.out]; exact (show decide (y0 ≠ 0) = true from decide_eq_true h1))))
              go_wp2
              go_ret
              exact ⟨by rw [HX.out]; rfl, HB.out.trans (HW5.out.mono HB.out.size)⟩
          · have hA : partB (⟨parts, chans, len0, win0, len1, win1⟩ : Cfg) x0 = false := by simpa using hA
            have HA := Lib.hid hA
            clear hA
            go_wp2_with (rw [← hwa.out])
            refine (isPart_is parts chans len0 win0 len1 win1 pa pc ca cc (some ⟨b, o, none⟩) ac ba bc x0 false _ hpl HA.out).mono ?_
            rintro e w5 ⟨rfl, hb5⟩
            have hbc := HWB.out.trans (hb5.mono HWB.out.size)
            have HX := Lib.hid (show holdsP (⟨parts, chans, len0, win0, len1, win1⟩ : Cfg) 14 = true from HV0.out (scan_hit (f := (fun i => win14 (⟨parts, chans, len0, win0, len1, win1⟩ : Cfg) 0 (row win0 i))) hlt (show win14 (⟨parts, chans, len0, win0, len1, win1⟩ : Cfg) 0 (row win0 i) = true by rw [row_at E1.out]; rw [win14, show partB (⟨parts, chans, len0, win0, len1, win1⟩ : Cfg) (fld [x0, x1, x2] 0) = false from HA.out]; rfl)))
            go_wp2
            go_ret
            exact ⟨by rw [HX.out]; rfl, HB.out.trans (hbc.mono HB.out.size)⟩
        · have HS := Lib.hid (show scan win0.length (fun i => win14 (⟨parts, chans, len0, win0, len1, win1⟩ : Cfg) 0 (row win0 i)) = false by have h := HT.out; rw [show i = win0.length by omega] at h; exact h)
          clear HT
          go_wp2
          go_roundw
          case rel => exact ⟨1, by omega, by omega, rfl, ⟨fun _ => HS.out, fun h => by omega⟩, hbc⟩
          case measure => simp [intOf]
    · subst hk
      have HWF := Lib.hid (hbc.alloc hbc.size (.cells #[.int .i64 len1, .slice ba win1.length bc] 26))
      go_wp2
      go_loopw [16] (fun ix wr => ∃ i : Nat, i ≤ win1.length ∧ ix = .int .i64 i ∧ scan i (fun i => win14 (⟨parts, chans, len0, win0, len1, win1⟩ : Cfg) 1 (row win1 i)) = false ∧ Below W.heap.size W wr) (fun ix _ => win1.length - (intOf ix).toNat)
      case atStart => exact ⟨0, Nat.zero_le _, rfl, rfl, HWF.out⟩
      case round =>
        obtain ⟨i, hi, rfl, ht, hbc⟩ := hrel
        have HT := Lib.hid ht
        obtain ⟨c0, c1, c2, c3, c4, c5⟩ := bx _ hbc
        clear ht
        by_cases hlt : i < win1.length
        · obtain ⟨b, o, x0, x1, x2, e0, _, e1, ⟨hw0, hw1, hw2⟩, k0⟩ := h1.at3 h1w hlt
          subst e0
          have k0 := k0 _ hbc
          obtain ⟨p0, k0⟩ := k0
          obtain ⟨p1, p2⟩ := k0
          have E1 := Lib.hid e1
          clear e1
          obtain ⟨wa, hwa⟩ : ∃ u, Hid (u = wr.alloc (.cells #[.int .i64 x0, .int .i64 x1, .int .i64 x2] 38)) := ⟨_, rfl⟩
          have hba : Below wr.heap.size wr wa := by rw [hwa.out]; exact (Below.refl _ _).alloc (Nat.le_refl _) _
          have hxa : wa.heap[wr.heap.size]? = some (.cells #[.int .i64 x0, .int .i64 x1, .int .i64 x2] 38 (0, 0)) := by rw [hwa.out]; exact heap_alloc_new _ _
          have hwb := hbc.trans (hba.mono hbc.size)
          have hla : wr.heap.size < wa.heap.size := (Array.getElem?_eq_some_iff.1 hxa).1
          obtain ⟨a0, a1, a2, a3, a4, a5⟩ := bx _ hwb
          have q0 := cell_blk hxa (i := 0) rfl
          have HWB := Lib.hid hwb
          clear hwb hba
          by_cases hA : partB (⟨parts, chans, len0, win0, len1, win1⟩ : Cfg) x0 = true
          · have hA' : 0 ≤ x0 ∧ x0 < (parts.length : Int) := of_decide_eq_true hA
            have HA := Lib.hid hA
            clear hA
            obtain ⟨j, rfl⟩ := Int.eq_ofNat_of_zero_le hA'.1
            have hj : j < parts.length := by have := hA'.2; omega
            go_wp2_with (rw [← hwa.out])
            refine (isPart_is parts chans len0 win0 len1 win1 pa pc ca cc aa ac (some ⟨b, o, none⟩) bc (j : Int) true _ hpl HA.out).mono ?_
            rintro e w5 ⟨rfl, hb5⟩
            have hxb := (hb5.block _ hla).trans hxa
            have hw5 := HWB.out.trans (hb5.mono HWB.out.size)
            obtain ⟨b0, b1, b2, b3, b4, b5⟩ := bx _ hw5
            have q2 := cell_blk hxb (i := 0) rfl
            obtain ⟨bp, op, y0, y1, f0, _, f1, _, r0⟩ := hp.at2 hpw hj
            obtain ⟨r1, r2⟩ := r0 _ hw5
            have F1 := Lib.hid f1
            have HW5 := Lib.hid hw5
            have hj1 : (0 : Int) ≤ (j : Int) := by omega
            have hj2 : (j : Int) < (parts.length : Int) := by omega
            clear f1 r0 hw5 hxb hb5 a0 a1 a2 a3 a4 a5 q0 hA'
            subst f0
            by_cases h1 : y0 = 1
            · have h1a : ((y0 : Int) == 1) = true := by simp [h1]
              have h1b : ((y0 : Int) != 1) = false := by simp [h1]
              have HX := Lib.hid (show scan (i + 1) (fun i => win14 (⟨parts, chans, len0, win0, len1, win1⟩ : Cfg) 1 (row win1 i)) = false from scan_next HT.out (show win14 (⟨parts, chans, len0, win0, len1, win1⟩ : Cfg) 1 (row win1 i) = false by rw [row_at E1.out]; rw [win14, show partB (⟨parts, chans, len0, win0, len1, win1⟩ : Cfg) (fld [(j : Int), x1, x2] 0) = true from HA.out, show row (⟨parts, chans, len0, win0, len1, win1⟩ : Cfg).parts (fld [(j : Int), x1, x2] 0).toNat = [y0, y1] from row_at F1.out]; exact (show decide (y0 ≠ 1) = false from decide_eq_false (fun h => h h1))))
              go_wp2
              go_roundw
              case rel => exact ⟨i + 1, by omega, by go_num, HX.out, HW5.out⟩
              case measure => simp [intOf]; omega
            · have h1a : ((y0 : Int) == 1) = false := by simp [h1]
              have h1b : ((y0 : Int) != 1) = true := by simp [h1]
              have HX := Lib.hid (show holdsP (⟨parts, chans, len0, win0, len1, win1⟩ : Cfg) 14 = true from HV1.out (scan_hit (f := (fun i => win14 (⟨parts, chans, len0, win0, len1, win1⟩ : Cfg) 1 (row win1 i))) hlt (show win14 (⟨parts, chans, len0, win0, len1, win1⟩ : Cfg) 1 (row win1 i) = true by rw [row_at E1.out]; rw [win14, show partB (⟨parts, chans, len0, win0, len1, win1⟩ : Cfg) (fld [(j : Int), x1, x2] 0) = true from HA.out, show row (⟨parts, chans, len0, win0, len1, win1⟩ : Cfg).parts (fld [(j : Int), x1, x2] 0).toNat = [y0, y1] from row_at F1.out]; exact (show decide (y0 ≠ 1) = true from decide_eq_true h1))))
              go_wp2
              go_ret
              exact ⟨by rw [HX.out]; rfl, HB.out.trans (HW5.out.mono HB.out.size)⟩
          · have hA : partB (⟨parts, chans, len0, win0, len1, win1⟩ : Cfg) x0 = false := by simpa using hA
            have HA := Lib.hid hA
            clear hA
            go_wp2_with (rw [← hwa.out])
            refine (isPart_is parts chans len0 win0 len1 win1 pa pc ca cc aa ac (some ⟨b, o, none⟩) bc x0 false _ hpl HA.out).mono ?_
            rintro e w5 ⟨rfl, hb5⟩
            have hbc := HWB.out.trans (hb5.mono HWB.out.size)
            have HX := Lib.hid (show holdsP (⟨parts, chans, len0, win0, len1, win1⟩ : Cfg) 14 = true from HV1.out (scan_hit (f := (fun i => win14 (⟨parts, chans, len0, win0, len1, win1⟩ : Cfg) 1 (row win1 i))) hlt (show win14 (⟨parts, chans, len0, win0, len1, win1⟩ : Cfg) 1 (row win1 i) = true by rw [row_at E1.out]; rw [win14, show partB (⟨parts, chans, len0, win0, len1, win1⟩ : Cfg) (fld [x0, x1, x2] 0) = false from HA.out]; rfl)))
            go_wp2
            go_ret
            exact ⟨by rw [HX.out]; rfl, HB.out.trans (hbc.mono HB.out.size)⟩
        · have HS := Lib.hid (show scan win1.length (fun i => win14 (⟨parts, chans, len0, win0, len1, win1⟩ : Cfg) 1 (row win1 i)) = false by have h := HT.out; rw [show i = win1.length by omega] at h; exact h)
          clear HT
          go_wp2
          go_roundw
          case rel => exact ⟨2, by omega, by omega, rfl, ⟨fun _ => HU.out.1 (by omega), fun _ => HS.out⟩, hbc⟩
          case measure => simp [intOf]
    · subst hk
      have HX := Lib.hid (show holdsP (⟨parts, chans, len0, win0, len1, win1⟩ : Cfg) 14 = false by rw [HV.out, HU.out.1 (by omega), HU.out.2 (by omega)]; rfl)
      go_wp2
      go_ret
      exact ⟨by rw [HX.out]; rfl, HB.out.trans (hbc.mono HB.out.size)⟩
end Go.Proofs.Ytogffilanioejaa
