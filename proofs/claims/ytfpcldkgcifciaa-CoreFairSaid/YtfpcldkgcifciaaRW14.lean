/- The document's windows at defect 14, as contracts. No condition but those in the statements. -/
import Derived.Test.YtfpcldkgcifciaaRefA
import Derived.BigQuiet
namespace Go.Proofs.Ytfpcldkgcifciaa
open Go.RowKit Go.Sort Go.ChangeShapes Go.WideShapes
set_option linter.unusedVariables false
set_option linter.unusedSimpArgs false

set_option maxRecDepth 100000 in
set_option maxHeartbeats 8000000 in
theorem rwins0_14 (parts chans : List (List Int)) (len0 : Int) (win0 : List (List Int)) (len1 : Int) (win1 : List (List Int)) (pa : Option Addr) (pc : Nat) (ca : Option Addr) (cc : Nat) (aa : Option Addr) (ac : Nat) (ba : Option Addr) (bc : Nat) (w : World) (hp : RowN [.i64, .i64] w w.heap.size pa parts) (hpw : wfR [.i64, .i64] parts) (hpl : parts.length ≤ 1000000) (hc : RowN [.i64, .i64, .i64, .i64, .i64, .i64, .u32] w w.heap.size ca chans) (hcw : wfR [.i64, .i64, .i64, .i64, .i64, .i64, .u32] chans) (hcl : chans.length ≤ 1000000) (h0 : RowN [.i64, .i64, .i64] w w.heap.size aa win0) (h0w : wfR [.i64, .i64, .i64] win0) (h0l : win0.length ≤ 1000000) (h1 : RowN [.i64, .i64, .i64] w w.heap.size ba win1) (h1w : wfR [.i64, .i64, .i64] win1) (h1l : win1.length ≤ 1000000) : Calls Try.prog 31 #[.agg #[.slice pa parts.length pc, .slice ca chans.length cc, .int .i64 len0, .slice aa win0.length ac, .int .i64 len1, .slice ba win1.length bc], .int .i64 0, .int .i64 14] w fun e w' => e = .returned (.bool (winsB (⟨parts, chans, len0, win0, len1, win1⟩ : Cfg) 0 len0 win0 14)) ∧ Below w.heap.size w w' := by
  obtain ⟨W, HW, hB, -, bx⟩ := one_cbox w ⟨parts, chans, len0, win0, len1, win1⟩ ⟨pa, pc, ca, cc, aa, ac, ba, bc⟩ 29
  have HB := Lib.hid hB
  have hp := hp.later hB; have hc := hc.later hB; have h0 := h0.later hB; have h1 := h1.later hB
  clear hB
  go_enter Try.func31, Try.ntmps31
  go_wp2
  go_loopw [8] (fun ix wr => ∃ i : Nat, i ≤ win0.length ∧ ix = .int .i64 i ∧ scan i (fun i => win14 (⟨parts, chans, len0, win0, len1, win1⟩ : Cfg) 0 (row win0 i)) = false ∧ Below W.heap.size W wr) (fun ix _ => win0.length - (intOf ix).toNat)
  case atStart => exact ⟨0, Nat.zero_le _, rfl, rfl, (by rw [← HW.out]; exact Below.refl _ _)⟩
  case round =>
    obtain ⟨i, hi, rfl, ht, hbc⟩ := hrel
    have HT := Lib.hid ht
    obtain ⟨c0, c1, c2, c3, c4, c5⟩ := bx _ hbc
    clear ht
    by_cases hlt : i < win0.length
    · obtain ⟨b, o, x0, x1, x2, e0, _, e1, ⟨hw0, hw1, hw2⟩, k0⟩ := h0.at3 h0w hlt
      subst e0
      have k0 := k0 _ hbc
      obtain ⟨p0, k0⟩ := k0
      obtain ⟨p1, p2⟩ := k0
      have E1 := Lib.hid e1
      clear e1
      obtain ⟨wa, hwa⟩ : ∃ u, Hid (u = wr.alloc (.cells #[.int .i64 x0, .int .i64 x1, .int .i64 x2] 49)) := ⟨_, rfl⟩
      have hba : Below wr.heap.size wr wa := by rw [hwa.out]; exact (Below.refl _ _).alloc (Nat.le_refl _) _
      have hxa : wa.heap[wr.heap.size]? = some (.cells #[.int .i64 x0, .int .i64 x1, .int .i64 x2] 49 (0, 0)) := by rw [hwa.out]; exact heap_alloc_new _ _
      have hwb := hbc.trans (hba.mono hbc.size)
      have hla : wr.heap.size < wa.heap.size := (Array.getElem?_eq_some_iff.1 hxa).1
      obtain ⟨a0, a1, a2, a3, a4, a5⟩ := bx _ hwb
      have q0 := cell_blk hxa (i := 0) rfl
      have HWB := Lib.hid hwb
      clear hwb hba
      by_cases hA : partB (⟨parts, chans, len0, win0, len1, win1⟩ : Cfg) x0 = true
      · have hA' : 0 ≤ x0 ∧ x0 < (parts.length : Int) := of_decide_eq_true hA
        have HA := Lib.hid hA
        clear hA
        obtain ⟨j, rfl⟩ := Int.eq_ofNat_of_zero_le hA'.1
        have hj : j < parts.length := by have := hA'.2; omega
        go_wp2_with (rw [← hwa.out])
        refine (part_is parts chans len0 win0 len1 win1 pa pc ca cc (some ⟨b, o, none⟩) ac ba bc (j : Int) true _ HA.out).mono ?_
        rintro e w5 ⟨rfl, hb5⟩
        have hxb := (hb5.block _ hla).trans hxa
        have hw5 := HWB.out.trans (hb5.mono HWB.out.size)
        obtain ⟨b0, b1, b2, b3, b4, b5⟩ := bx _ hw5
        have q2 := cell_blk hxb (i := 0) rfl
        obtain ⟨bp, op, y0, y1, f0, _, f1, _, r0⟩ := hp.at2 hpw hj
        obtain ⟨r1, r2⟩ := r0 _ hw5
        have F1 := Lib.hid f1
        have HW5 := Lib.hid hw5
        have hj1 : (0 : Int) ≤ (j : Int) := by omega
        have hj2 : (j : Int) < (parts.length : Int) := by omega
        clear f1 r0 hw5 hxb hb5 a0 a1 a2 a3 a4 a5 q0 hA'
        subst f0
        by_cases h1 : y0 = 0
        · have h1a : ((y0 : Int) == 0) = true := by simp [h1]
          have h1b : ((y0 : Int) != 0) = false := by simp [h1]
          have hbq := Below.refl w5.heap.size w5
          go_wp2_with fail
          (with_reducible refine wp_on hbq (by kernel_rfl) (by kernel_rfl) ?_); (repeat (go_big_quiet_step (fail))); (first | with_reducible refine wpQuiet_nil ?_ | refine wpQuiet_nil ?_); intro wq hbq
          go_wp2_with fail
          (with_reducible refine wp_on hbq (by kernel_rfl) (by kernel_rfl) ?_); (repeat (go_big_quiet_step (fail))); (first | with_reducible refine wpQuiet_nil ?_ | refine wpQuiet_nil ?_); intro wq hbq
          have hwc := HW5.out.trans (hbq.mono HW5.out.size)
          have HX := Lib.hid (show scan (i + 1) (fun i => win14 (⟨parts, chans, len0, win0, len1, win1⟩ : Cfg) 0 (row win0 i)) = false from scan_next HT.out (show win14 (⟨parts, chans, len0, win0, len1, win1⟩ : Cfg) 0 (row win0 i) = false by rw [row_at E1.out]; rw [win14, show partB (⟨parts, chans, len0, win0, len1, win1⟩ : Cfg) (fld [(j : Int), x1, x2] 0) = true from HA.out, show row (⟨parts, chans, len0, win0, len1, win1⟩ : Cfg).parts (fld [(j : Int), x1, x2] 0).toNat = [y0, y1] from row_at F1.out]; exact (show decide (y0 ≠ 0) = false from decide_eq_false (fun h => h h1))))
          go_wp2
          go_roundw
          case rel => exact ⟨i + 1, by omega, by go_num, HX.out, hwc⟩
          case measure => simp [intOf]; omega
        · have h1a : ((y0 : Int) == 0) = false := by simp [h1]
          have h1b : ((y0 : Int) != 0) = true := by simp [h1]
          have HX := Lib.hid (show winsB (⟨parts, chans, len0, win0, len1, win1⟩ : Cfg) 0 len0 win0 14 = true from scan_hit (f := (fun i => win14 (⟨parts, chans, len0, win0, len1, win1⟩ : Cfg) 0 (row win0 i))) hlt (show win14 (⟨parts, chans, len0, win0, len1, win1⟩ : Cfg) 0 (row win0 i) = true by rw [row_at E1.out]; rw [win14, show partB (⟨parts, chans, len0, win0, len1, win1⟩ : Cfg) (fld [(j : Int), x1, x2] 0) = true from HA.out, show row (⟨parts, chans, len0, win0, len1, win1⟩ : Cfg).parts (fld [(j : Int), x1, x2] 0).toNat = [y0, y1] from row_at F1.out]; exact (show decide (y0 ≠ 0) = true from decide_eq_true h1)))
          go_wp2
          go_ret
          exact ⟨by rw [HX.out]; rfl, HB.out.trans (HW5.out.mono HB.out.size)⟩
      · have hA : partB (⟨parts, chans, len0, win0, len1, win1⟩ : Cfg) x0 = false := by simpa using hA
        have HA := Lib.hid hA
        clear hA
        go_wp2_with (rw [← hwa.out])
        refine (part_is parts chans len0 win0 len1 win1 pa pc ca cc (some ⟨b, o, none⟩) ac ba bc x0 false _ HA.out).mono ?_
        rintro e w5 ⟨rfl, hb5⟩
        have hbc := HWB.out.trans (hb5.mono HWB.out.size)
        have HX := Lib.hid (show winsB (⟨parts, chans, len0, win0, len1, win1⟩ : Cfg) 0 len0 win0 14 = true from scan_hit (f := (fun i => win14 (⟨parts, chans, len0, win0, len1, win1⟩ : Cfg) 0 (row win0 i))) hlt (show win14 (⟨parts, chans, len0, win0, len1, win1⟩ : Cfg) 0 (row win0 i) = true by rw [row_at E1.out]; rw [win14, show partB (⟨parts, chans, len0, win0, len1, win1⟩ : Cfg) (fld [x0, x1, x2] 0) = false from HA.out]; rfl))
        go_wp2
        go_ret
        exact ⟨by rw [HX.out]; rfl, HB.out.trans (hbc.mono HB.out.size)⟩
    · have HS := Lib.hid (show winsB (⟨parts, chans, len0, win0, len1, win1⟩ : Cfg) 0 len0 win0 14 = false by have h := HT.out; rw [show i = win0.length by omega] at h; exact h)
      clear HT
      go_wp2
      go_ret
      exact ⟨by rw [HS.out]; rfl, HB.out.trans (hbc.mono HB.out.size)⟩

set_option maxRecDepth 100000 in
set_option maxHeartbeats 8000000 in
theorem rwins1_14 (parts chans : List (List Int)) (len0 : Int) (win0 : List (List Int)) (len1 : Int) (win1 : List (List Int)) (pa : Option Addr) (pc : Nat) (ca : Option Addr) (cc : Nat) (aa : Option Addr) (ac : Nat) (ba : Option Addr) (bc : Nat) (w : World) (hp : RowN [.i64, .i64] w w.heap.size pa parts) (hpw : wfR [.i64, .i64] parts) (hpl : parts.length ≤ 1000000) (hc : RowN [.i64, .i64, .i64, .i64, .i64, .i64, .u32] w w.heap.size ca chans) (hcw : wfR [.i64, .i64, .i64, .i64, .i64, .i64, .u32] chans) (hcl : chans.length ≤ 1000000) (h0 : RowN [.i64, .i64, .i64] w w.heap.size aa win0) (h0w : wfR [.i64, .i64, .i64] win0) (h0l : win0.length ≤ 1000000) (h1 : RowN [.i64, .i64, .i64] w w.heap.size ba win1) (h1w : wfR [.i64, .i64, .i64] win1) (h1l : win1.length ≤ 1000000) : Calls Try.prog 31 #[.agg #[.slice pa parts.length pc, .slice ca chans.length cc, .int .i64 len0, .slice aa win0.length ac, .int .i64 len1, .slice ba win1.length bc], .int .i64 1, .int .i64 14] w fun e w' => e = .returned (.bool (winsB (⟨parts, chans, len0, win0, len1, win1⟩ : Cfg) 1 len1 win1 14)) ∧ Below w.heap.size w w' := by
  obtain ⟨W, HW, hB, -, bx⟩ := one_cbox w ⟨parts, chans, len0, win0, len1, win1⟩ ⟨pa, pc, ca, cc, aa, ac, ba, bc⟩ 29
  have HB := Lib.hid hB
  have hp := hp.later hB; have hc := hc.later hB; have h0 := h0.later hB; have h1 := h1.later hB
  clear hB
  go_enter Try.func31, Try.ntmps31
  go_wp2
  go_loopw [8] (fun ix wr => ∃ i : Nat, i ≤ win1.length ∧ ix = .int .i64 i ∧ scan i (fun i => win14 (⟨parts, chans, len0, win0, len1, win1⟩ : Cfg) 1 (row win1 i)) = false ∧ Below W.heap.size W wr) (fun ix _ => win1.length - (intOf ix).toNat)
  case atStart => exact ⟨0, Nat.zero_le _, rfl, rfl, (by rw [← HW.out]; exact Below.refl _ _)⟩
  case round =>
    obtain ⟨i, hi, rfl, ht, hbc⟩ := hrel
    have HT := Lib.hid ht
    obtain ⟨c0, c1, c2, c3, c4, c5⟩ := bx _ hbc
    clear ht
    by_cases hlt : i < win1.length
    · obtain ⟨b, o, x0, x1, x2, e0, _, e1, ⟨hw0, hw1, hw2⟩, k0⟩ := h1.at3 h1w hlt
      subst e0
      have k0 := k0 _ hbc
      obtain ⟨p0, k0⟩ := k0
      obtain ⟨p1, p2⟩ := k0
      have E1 := Lib.hid e1
      clear e1
      obtain ⟨wa, hwa⟩ : ∃ u, Hid (u = wr.alloc (.cells #[.int .i64 x0, .int .i64 x1, .int .i64 x2] 49)) := ⟨_, rfl⟩
      have hba : Below wr.heap.size wr wa := by rw [hwa.out]; exact (Below.refl _ _).alloc (Nat.le_refl _) _
      have hxa : wa.heap[wr.heap.size]? = some (.cells #[.int .i64 x0, .int .i64 x1, .int .i64 x2] 49 (0, 0)) := by rw [hwa.out]; exact heap_alloc_new _ _
      have hwb := hbc.trans (hba.mono hbc.size)
      have hla : wr.heap.size < wa.heap.size := (Array.getElem?_eq_some_iff.1 hxa).1
      obtain ⟨a0, a1, a2, a3, a4, a5⟩ := bx _ hwb
      have q0 := cell_blk hxa (i := 0) rfl
      have HWB := Lib.hid hwb
      clear hwb hba
      by_cases hA : partB (⟨parts, chans, len0, win0, len1, win1⟩ : Cfg) x0 = true
      · have hA' : 0 ≤ x0 ∧ x0 < (parts.length : Int) := of_decide_eq_true hA
        have HA := Lib.hid hA
        clear hA
        obtain ⟨j, rfl⟩ := Int.eq_ofNat_of_zero_le hA'.1
        have hj : j < parts.length := by have := hA'.2; omega
        go_wp2_with (rw [← hwa.out])
        refine (part_is parts chans len0 win0 len1 win1 pa pc ca cc aa ac (some ⟨b, o, none⟩) bc (j : Int) true _ HA.out).mono ?_
        rintro e w5 ⟨rfl, hb5⟩
        have hxb := (hb5.block _ hla).trans hxa
        have hw5 := HWB.out.trans (hb5.mono HWB.out.size)
        obtain ⟨b0, b1, b2, b3, b4, b5⟩ := bx _ hw5
        have q2 := cell_blk hxb (i := 0) rfl
        obtain ⟨bp, op, y0, y1, f0, _, f1, _, r0⟩ := hp.at2 hpw hj
        obtain ⟨r1, r2⟩ := r0 _ hw5
        have F1 := Lib.hid f1
        have HW5 := Lib.hid hw5
        have hj1 : (0 : Int) ≤ (j : Int) := by omega
        have hj2 : (j : Int) < (parts.length : Int) := by omega
        clear f1 r0 hw5 hxb hb5 a0 a1 a2 a3 a4 a5 q0 hA'
        subst f0
        by_cases h1 : y0 = 1
        · have h1a : ((y0 : Int) == 1) = true := by simp [h1]
          have h1b : ((y0 : Int) != 1) = false := by simp [h1]
          have hbq := Below.refl w5.heap.size w5
          go_wp2_with fail
          (with_reducible refine wp_on hbq (by kernel_rfl) (by kernel_rfl) ?_); (repeat (go_big_quiet_step (fail))); (first | with_reducible refine wpQuiet_nil ?_ | refine wpQuiet_nil ?_); intro wq hbq
          go_wp2_with fail
          (with_reducible refine wp_on hbq (by kernel_rfl) (by kernel_rfl) ?_); (repeat (go_big_quiet_step (fail))); (first | with_reducible refine wpQuiet_nil ?_ | refine wpQuiet_nil ?_); intro wq hbq
          have hwc := HW5.out.trans (hbq.mono HW5.out.size)
          have HX := Lib.hid (show scan (i + 1) (fun i => win14 (⟨parts, chans, len0, win0, len1, win1⟩ : Cfg) 1 (row win1 i)) = false from scan_next HT.out (show win14 (⟨parts, chans, len0, win0, len1, win1⟩ : Cfg) 1 (row win1 i) = false by rw [row_at E1.out]; rw [win14, show partB (⟨parts, chans, len0, win0, len1, win1⟩ : Cfg) (fld [(j : Int), x1, x2] 0) = true from HA.out, show row (⟨parts, chans, len0, win0, len1, win1⟩ : Cfg).parts (fld [(j : Int), x1, x2] 0).toNat = [y0, y1] from row_at F1.out]; exact (show decide (y0 ≠ 1) = false from decide_eq_false (fun h => h h1))))
          go_wp2
          go_roundw
          case rel => exact ⟨i + 1, by omega, by go_num, HX.out, hwc⟩
          case measure => simp [intOf]; omega
        · have h1a : ((y0 : Int) == 1) = false := by simp [h1]
          have h1b : ((y0 : Int) != 1) = true := by simp [h1]
          have HX := Lib.hid (show winsB (⟨parts, chans, len0, win0, len1, win1⟩ : Cfg) 1 len1 win1 14 = true from scan_hit (f := (fun i => win14 (⟨parts, chans, len0, win0, len1, win1⟩ : Cfg) 1 (row win1 i))) hlt (show win14 (⟨parts, chans, len0, win0, len1, win1⟩ : Cfg) 1 (row win1 i) = true by rw [row_at E1.out]; rw [win14, show partB (⟨parts, chans, len0, win0, len1, win1⟩ : Cfg) (fld [(j : Int), x1, x2] 0) = true from HA.out, show row (⟨parts, chans, len0, win0, len1, win1⟩ : Cfg).parts (fld [(j : Int), x1, x2] 0).toNat = [y0, y1] from row_at F1.out]; exact (show decide (y0 ≠ 1) = true from decide_eq_true h1)))
          go_wp2
          go_ret
          exact ⟨by rw [HX.out]; rfl, HB.out.trans (HW5.out.mono HB.out.size)⟩
      · have hA : partB (⟨parts, chans, len0, win0, len1, win1⟩ : Cfg) x0 = false := by simpa using hA
        have HA := Lib.hid hA
        clear hA
        go_wp2_with (rw [← hwa.out])
        refine (part_is parts chans len0 win0 len1 win1 pa pc ca cc aa ac (some ⟨b, o, none⟩) bc x0 false _ HA.out).mono ?_
        rintro e w5 ⟨rfl, hb5⟩
        have hbc := HWB.out.trans (hb5.mono HWB.out.size)
        have HX := Lib.hid (show winsB (⟨parts, chans, len0, win0, len1, win1⟩ : Cfg) 1 len1 win1 14 = true from scan_hit (f := (fun i => win14 (⟨parts, chans, len0, win0, len1, win1⟩ : Cfg) 1 (row win1 i))) hlt (show win14 (⟨parts, chans, len0, win0, len1, win1⟩ : Cfg) 1 (row win1 i) = true by rw [row_at E1.out]; rw [win14, show partB (⟨parts, chans, len0, win0, len1, win1⟩ : Cfg) (fld [x0, x1, x2] 0) = false from HA.out]; rfl))
        go_wp2
        go_ret
        exact ⟨by rw [HX.out]; rfl, HB.out.trans (hbc.mono HB.out.size)⟩
    · have HS := Lib.hid (show winsB (⟨parts, chans, len0, win0, len1, win1⟩ : Cfg) 1 len1 win1 14 = false by have h := HT.out; rw [show i = win1.length by omega] at h; exact h)
      clear HT
      go_wp2
      go_ret
      exact ⟨by rw [HS.out]; rfl, HB.out.trans (hbc.mono HB.out.size)⟩
end Go.Proofs.Ytfpcldkgcifciaa
