/- withoutTime, as a contract. No condition but those in the statements. -/
import Derived.Test.YtogffilanioejaaRow14
import Derived.Test.YtogffilanioejaaTimed
import Derived.BigQuiet
namespace Go.Proofs.Ytogffilanioejaa
open Go.RowKit Go.Sort Go.ChangeShapes Go.WideShapes
set_option linter.unusedVariables false
set_option linter.unusedSimpArgs false

set_option maxRecDepth 100000 in
set_option maxHeartbeats 8000000 in
theorem row17_b (parts chans : List (List Int)) (len0 : Int) (win0 : List (List Int)) (len1 : Int) (win1 : List (List Int)) (pa : Option Addr) (pc : Nat) (ca : Option Addr) (cc : Nat) (aa : Option Addr) (ac : Nat) (ba : Option Addr) (bc : Nat) (w : World) (hp : RowN [.i64, .i64] w w.heap.size pa parts) (hpw : wfR [.i64, .i64] parts) (hpl : parts.length ≤ 1000000) (hc : RowN [.i64, .i64, .i64, .i64, .i64, .i64, .u32] w w.heap.size ca chans) (hcw : wfR [.i64, .i64, .i64, .i64, .i64, .i64, .u32] chans) (hcl : chans.length ≤ 1000000) (h0 : RowN [.i64, .i64, .i64] w w.heap.size aa win0) (h0w : wfR [.i64, .i64, .i64] win0) (h0l : win0.length ≤ 1000000) (h1 : RowN [.i64, .i64, .i64] w w.heap.size ba win1) (h1w : wfR [.i64, .i64, .i64] win1) (h1l : win1.length ≤ 1000000) (hl0 : (Lit.int .i64 len0).wf = true) (hl1 : (Lit.int .i64 len1).wf = true) : Calls Try.prog 41 #[.agg #[.slice pa parts.length pc, .slice ca chans.length cc, .int .i64 len0, .slice aa win0.length ac, .int .i64 len1, .slice ba win1.length bc]] w fun e w' => e = .returned (.bool (holdsP (⟨parts, chans, len0, win0, len1, win1⟩ : Cfg) 17)) ∧ Below w.heap.size w w' := by
  obtain ⟨W, HW, hB, -, bx⟩ := one_cbox w ⟨parts, chans, len0, win0, len1, win1⟩ ⟨pa, pc, ca, cc, aa, ac, ba, bc⟩ 29
  have HB := Lib.hid hB
  have hp := hp.later hB; have hc := hc.later hB; have h0 := h0.later hB; have h1 := h1.later hB
  clear hB
  have hix0 := frame_at0 len0 len1 aa ba win0.length win1.length ac bc
  have hix1 := frame_at1 len0 len1 aa ba win0.length win1.length ac bc
  have hat : (W.alloc (.cells #[.slice none 0 0, .slice none 0 0] 65)).heap[W.heap.size]? = some (.cells #[.slice none 0 0, .slice none 0 0] 65 (0, 0)) := heap_alloc_new _ _
  have hab : Below W.heap.size W (W.alloc (.cells #[.slice none 0 0, .slice none 0 0] 65)) := (Below.refl _ _).alloc (Nat.le_refl _) _
  obtain ⟨c0, c1, c2, c3, c4, c5⟩ := bx _ hab
  have HAT := Lib.hid hat; have HAB := Lib.hid hab
  clear hat hab
  go_enter Try.func41, Try.ntmps41
  go_wp2_with (rw [← HW.out])
  clear c0 c1 c2 c3 c4 c5
  go_loopw [11] (fun ix wr => ∃ k : Int, 0 ≤ k ∧ k ≤ 2 ∧ ix = .int .i64 k ∧ ((k = 0 → wr.heap[W.heap.size]? = some (.cells #[.slice none 0 0, .slice none 0 0] 65 (0, 0))) ∧
      (k = 1 → ∃ g0, W.heap.size < g0 ∧ wr.heap[W.heap.size]? = some (.cells #[.slice (some ⟨g0, 0, none⟩) parts.length parts.length, .slice none 0 0] 65 (0, 0)) ∧ BoolsAt wr g0 (timedUp win0 parts.length win0.length)) ∧
      (k = 2 → ∃ g0 g1, W.heap.size < g0 ∧ W.heap.size < g1 ∧ wr.heap[W.heap.size]? = some (.cells #[.slice (some ⟨g0, 0, none⟩) parts.length parts.length, .slice (some ⟨g1, 0, none⟩) parts.length parts.length] 65 (0, 0)) ∧ BoolsAt wr g0 (timedUp win0 parts.length win0.length) ∧ BoolsAt wr g1 (timedUp win1 parts.length win1.length))) ∧ Below W.heap.size W wr) (fun ix _ => (2 - intOf ix).toNat)
  case atStart => exact ⟨0, by omega, by omega, rfl, ⟨fun _ => HAT.out, (fun h => by omega), (fun h => by omega)⟩, HAB.out⟩
  case round =>
    obtain ⟨k, hk0, hk2, rfl, hu, hbc⟩ := hrel
    have HU := Lib.hid hu
    obtain ⟨c0, c1, c2, c3, c4, c5⟩ := bx _ hbc
    clear hu
    rcases (show k = 0 ∨ k = 1 ∨ k = 2 by omega) with hk | hk | hk
    · subst hk
      have hg0b := HU.out.1 rfl
      have hba : Below wr.heap.size wr (wr.alloc (.cells #[.int .i64 len0, .slice aa win0.length ac] 26)) := (Below.refl _ _).alloc (Nat.le_refl _) _
      have hwb := hbc.trans (hba.mono hbc.size)
      have htb : W.heap.size < wr.heap.size := (Array.getElem?_eq_some_iff.1 hg0b).1
      obtain ⟨d0, d1, d2, d3, d4, d5⟩ := bx _ hwb
      have HWB := Lib.hid hwb; have HBA := Lib.hid hba; have HG := Lib.hid hg0b
      clear hba hwb
      go_wp2_with fail
      refine (timedBy_b parts.length hpl len0 win0 aa ac _ (h0.later (hbc.trans ((Below.refl _ _).alloc hbc.size _))) h0w h0l hl0).mono ?_
      rintro e w5 ⟨bb, rfl, hbb, hbs, hb5⟩
      have hlen : (timedUp win0 parts.length win0.length).length = parts.length := timedUp_len _ _ _
      rw [hlen]
      have ht5 : w5.heap[W.heap.size]? = some (.cells #[.slice none 0 0, .slice none 0 0] 65 (0, 0)) := (hb5.block _ (by simp; omega)).trans ((HBA.out.block _ htb).trans HG.out)
      have z0 := cell_blk ht5 (i := 0) rfl
      have z1 : w5.frozen? ⟨W.heap.size, 0, none⟩ = false := by simp [World.frozen?, ht5]
      have hw5 := HWB.out.trans (hb5.mono HWB.out.size)
      have hbb' : W.heap.size < bb := by have := hbb; simp at this; omega
      have ht6 : (w5.setCell ⟨W.heap.size, 0, none⟩ (.slice (some ⟨bb, 0, none⟩) parts.length parts.length)).heap[W.heap.size]? = some (.cells #[.slice (some ⟨bb, 0, none⟩) parts.length parts.length, .slice none 0 0] 65 (0, 0)) := by simp [World.setCell, Array.getElem?_modify, ht5]
      have hbs6 : BoolsAt (w5.setCell ⟨W.heap.size, 0, none⟩ (.slice (some ⟨bb, 0, none⟩) parts.length parts.length)) bb (timedUp win0 parts.length win0.length) := (Below.heap_setCell _ _ _ _ (by simp; omega)).trans hbs

      have hw6 := hw5.setCell (p := ⟨W.heap.size, 0, none⟩) (Nat.le_refl _) (.slice (some ⟨bb, 0, none⟩) parts.length parts.length)
      have H6 := Lib.hid ht6; have HS6 := Lib.hid hbs6; have HW6 := Lib.hid hw6; have HBB := Lib.hid hbb'
      clear ht5 ht6 hbs hbs6 hw5 hw6 hb5 hlen d0 d1 d2 d3 d4 d5 c0 c1 c2 c3 c4 c5 hbb hbb' hg0b hbc htb
      go_wp2
      go_roundw
      case rel => exact ⟨1, by omega, by omega, rfl, ⟨(fun h => by omega), (fun _ => ⟨bb, HBB.out, H6.out, HS6.out⟩), (fun h => by omega)⟩, HW6.out⟩
      case measure => simp [intOf]
    · subst hk
      obtain ⟨g0, hg0, hg0b, hg0s⟩ := HU.out.2.1 rfl
      have hba : Below wr.heap.size wr (wr.alloc (.cells #[.int .i64 len1, .slice ba win1.length bc] 26)) := (Below.refl _ _).alloc (Nat.le_refl _) _
      have hwb := hbc.trans (hba.mono hbc.size)
      have htb : W.heap.size < wr.heap.size := (Array.getElem?_eq_some_iff.1 hg0b).1
      obtain ⟨d0, d1, d2, d3, d4, d5⟩ := bx _ hwb
      have HWB := Lib.hid hwb; have HBA := Lib.hid hba; have HG := Lib.hid hg0b; have HS0 := Lib.hid hg0s
      clear hba hwb
      go_wp2_with fail
      refine (timedBy_b parts.length hpl len1 win1 ba bc _ (h1.later (hbc.trans ((Below.refl _ _).alloc hbc.size _))) h1w h1l hl1).mono ?_
      rintro e w5 ⟨bb, rfl, hbb, hbs, hb5⟩
      have hlen : (timedUp win1 parts.length win1.length).length = parts.length := timedUp_len _ _ _
      rw [hlen]
      have ht5 : w5.heap[W.heap.size]? = some (.cells #[.slice (some ⟨g0, 0, none⟩) parts.length parts.length, .slice none 0 0] 65 (0, 0)) := (hb5.block _ (by simp; omega)).trans ((HBA.out.block _ htb).trans HG.out)
      have z0 := cell_blk ht5 (i := 1) rfl
      have z1 : w5.frozen? ⟨W.heap.size, 1, none⟩ = false := by simp [World.frozen?, ht5]
      have hw5 := HWB.out.trans (hb5.mono HWB.out.size)
      have hbb' : W.heap.size < bb := by have := hbb; simp at this; omega
      have ht6 : (w5.setCell ⟨W.heap.size, 1, none⟩ (.slice (some ⟨bb, 0, none⟩) parts.length parts.length)).heap[W.heap.size]? = some (.cells #[.slice (some ⟨g0, 0, none⟩) parts.length parts.length, .slice (some ⟨bb, 0, none⟩) parts.length parts.length] 65 (0, 0)) := by simp [World.setCell, Array.getElem?_modify, ht5]
      have hbs6 : BoolsAt (w5.setCell ⟨W.heap.size, 1, none⟩ (.slice (some ⟨bb, 0, none⟩) parts.length parts.length)) bb (timedUp win1 parts.length win1.length) := (Below.heap_setCell _ _ _ _ (by simp; omega)).trans hbs
      have hgs6 : BoolsAt (w5.setCell ⟨W.heap.size, 1, none⟩ (.slice (some ⟨bb, 0, none⟩) parts.length parts.length)) g0 (timedUp win0 parts.length win0.length) := (Below.heap_setCell _ _ _ _ (by simp; omega)).trans ((HS0.out.below HBA.out).below hb5)
      have hw6 := hw5.setCell (p := ⟨W.heap.size, 1, none⟩) (Nat.le_refl _) (.slice (some ⟨bb, 0, none⟩) parts.length parts.length)
      have H6 := Lib.hid ht6; have HS6 := Lib.hid hbs6; have HW6 := Lib.hid hw6; have HBB := Lib.hid hbb'; have HG6 := Lib.hid hgs6; have HG0 := Lib.hid hg0
      clear ht5 ht6 hbs hbs6 hw5 hw6 hb5 hlen d0 d1 d2 d3 d4 d5 c0 c1 c2 c3 c4 c5 hbb hbb' hg0b hbc htb hgs6 hg0s hg0
      go_wp2
      go_roundw
      case rel => exact ⟨2, by omega, by omega, rfl, ⟨(fun h => by omega), (fun h => by omega), (fun _ => ⟨g0, bb, HG0.out, HBB.out, H6.out, HG6.out, HS6.out⟩)⟩, HW6.out⟩
      case measure => simp [intOf]
    · subst hk
      obtain ⟨g0, g1, hg0, hg1, hT, hB0, hB1⟩ := HU.out.2.2 rfl
      have HBX := Lib.hid (HB.out.trans (hbc.mono HB.out.size))
      have hpx := hp.later hbc
      have HTX := Lib.hid hT; have HB0 := Lib.hid hB0; have HB1 := Lib.hid hB1
      clear hT hB0 hB1 HU hbc hp hc h0 h1
      obtain ⟨X, hX⟩ : ∃ X, X = wr := ⟨_, rfl⟩
      rw [← hX] at HTX HB0 HB1 HBX hpx
      have HX0 := Lib.hid hX
      clear hX
      go_wp2
      clear c0 c1 c2 c3 c4 c5
      go_loopw [26] (fun ix wv => ∃ i : Nat, i ≤ parts.length ∧ ix = .int .i64 i ∧ scan i (fun i => !windowP (⟨parts, chans, len0, win0, len1, win1⟩ : Cfg) i) = false ∧ Below X.heap.size X wv) (fun ix _ => parts.length - (intOf ix).toNat)
      case atStart => exact ⟨0, Nat.zero_le _, rfl, rfl, by rw [HX0.out]; exact Below.refl _ _⟩
      case round =>
        obtain ⟨i, hi, rfl, ht, hbc⟩ := hrel
        have HT := Lib.hid ht
        clear ht
        by_cases hlt : i < parts.length
        · obtain ⟨b, o, y0, y1, e0, _, e1, ⟨hw0, hw1⟩, k0⟩ := hpx.at2 hpw hlt
          subst e0
          obtain ⟨p0, p1⟩ := k0 _ hbc
          have E1 := Lib.hid e1
          have hba : Below X.heap.size X (wr.alloc (.cells #[.int .i64 y0, .int .i64 y1] 40)) := hbc.alloc hbc.size _
          have HR := Lib.hid hba
          have hTX := (hba.block _ (Array.getElem?_eq_some_iff.1 HTX.out).1).trans HTX.out
          have z0 := cell_blk hTX (i := 0) rfl
          have z1 := cell_blk hTX (i := 1) rfl
          have s0 := (HB0.out.below hba).cell (timedUp_at win0 hlt)
          have s1 := (HB1.out.below hba).cell (timedUp_at win1 hlt)
          have hi1 : (0 : Int) ≤ (i : Int) := by omega
          have hi2 : (i : Int) < (parts.length : Int) := by omega
          clear e1 k0 hba hTX
          by_cases n0 : y0 = 0
          · subst n0
            have hic : decide ((0 : Int) = 0 ∨ (0 : Int) = 1) = true := by decide
            cases hq0 : hasWin win0 i with
            | true =>
              rw [hq0] at s0
              have HQ0 := Lib.hid hq0
              clear hq0
              cases hq1 : hasWin win1 i with
              | true =>
                rw [hq1] at s1
                have HQ1 := Lib.hid hq1
                clear hq1
                have HX := Lib.hid (show scan (i + 1) (fun i => !windowP (⟨parts, chans, len0, win0, len1, win1⟩ : Cfg) i) = false from scan_next HT.out (by rw [show windowP (⟨parts, chans, len0, win0, len1, win1⟩ : Cfg) i = true by unfold windowP; rw [show fld (row (⟨parts, chans, len0, win0, len1, win1⟩ : Cfg).parts i) 0 = 0 by rw [show row (⟨parts, chans, len0, win0, len1, win1⟩ : Cfg).parts i = [0, y1] from row_at E1.out]; rfl, if_pos rfl]; show hasWin win0 i = _; rw [HQ0.out]]; rfl))
                go_wp2_with (go_at_call 24; ((with_reducible refine (isCore_is _ _ _ (by assumption)).mono ?_); rintro e w5 ⟨rfl, rfl⟩))
                go_roundw
                case rel => exact ⟨i + 1, by omega, by go_num, HX.out, HR.out⟩
                case measure => simp [intOf]; omega
              | false =>
                rw [hq1] at s1
                have HQ1 := Lib.hid hq1
                clear hq1
                have HX := Lib.hid (show scan (i + 1) (fun i => !windowP (⟨parts, chans, len0, win0, len1, win1⟩ : Cfg) i) = false from scan_next HT.out (by rw [show windowP (⟨parts, chans, len0, win0, len1, win1⟩ : Cfg) i = true by unfold windowP; rw [show fld (row (⟨parts, chans, len0, win0, len1, win1⟩ : Cfg).parts i) 0 = 0 by rw [show row (⟨parts, chans, len0, win0, len1, win1⟩ : Cfg).parts i = [0, y1] from row_at E1.out]; rfl, if_pos rfl]; show hasWin win0 i = _; rw [HQ0.out]]; rfl))
                go_wp2_with (go_at_call 24; ((with_reducible refine (isCore_is _ _ _ (by assumption)).mono ?_); rintro e w5 ⟨rfl, rfl⟩))
                go_roundw
                case rel => exact ⟨i + 1, by omega, by go_num, HX.out, HR.out⟩
                case measure => simp [intOf]; omega
            | false =>
              rw [hq0] at s0
              have HQ0 := Lib.hid hq0
              clear hq0
              cases hq1 : hasWin win1 i with
              | true =>
                rw [hq1] at s1
                have HQ1 := Lib.hid hq1
                clear hq1
                have HX := Lib.hid (show holdsP (⟨parts, chans, len0, win0, len1, win1⟩ : Cfg) 17 = true from scan_hit (f := (fun i => !windowP (⟨parts, chans, len0, win0, len1, win1⟩ : Cfg) i)) hlt (by rw [show windowP (⟨parts, chans, len0, win0, len1, win1⟩ : Cfg) i = false by unfold windowP; rw [show fld (row (⟨parts, chans, len0, win0, len1, win1⟩ : Cfg).parts i) 0 = 0 by rw [show row (⟨parts, chans, len0, win0, len1, win1⟩ : Cfg).parts i = [0, y1] from row_at E1.out]; rfl, if_pos rfl]; show hasWin win0 i = _; rw [HQ0.out]]; rfl))
                go_wp2_with (go_at_call 24; ((with_reducible refine (isCore_is _ _ _ (by assumption)).mono ?_); rintro e w5 ⟨rfl, rfl⟩))
                go_ret
                exact ⟨by rw [HX.out]; rfl, HBX.out.trans (HR.out.mono HBX.out.size)⟩
              | false =>
                rw [hq1] at s1
                have HQ1 := Lib.hid hq1
                clear hq1
                have HX := Lib.hid (show holdsP (⟨parts, chans, len0, win0, len1, win1⟩ : Cfg) 17 = true from scan_hit (f := (fun i => !windowP (⟨parts, chans, len0, win0, len1, win1⟩ : Cfg) i)) hlt (by rw [show windowP (⟨parts, chans, len0, win0, len1, win1⟩ : Cfg) i = false by unfold windowP; rw [show fld (row (⟨parts, chans, len0, win0, len1, win1⟩ : Cfg).parts i) 0 = 0 by rw [show row (⟨parts, chans, len0, win0, len1, win1⟩ : Cfg).parts i = [0, y1] from row_at E1.out]; rfl, if_pos rfl]; show hasWin win0 i = _; rw [HQ0.out]]; rfl))
                go_wp2_with (go_at_call 24; ((with_reducible refine (isCore_is _ _ _ (by assumption)).mono ?_); rintro e w5 ⟨rfl, rfl⟩))
                go_ret
                exact ⟨by rw [HX.out]; rfl, HBX.out.trans (HR.out.mono HBX.out.size)⟩

          by_cases n1 : y0 = 1
          · subst n1
            have hic : decide ((1 : Int) = 0 ∨ (1 : Int) = 1) = true := by decide
            clear n0
            cases hq0 : hasWin win0 i with
            | true =>
              rw [hq0] at s0
              have HQ0 := Lib.hid hq0
              clear hq0
              cases hq1 : hasWin win1 i with
              | true =>
                rw [hq1] at s1
                have HQ1 := Lib.hid hq1
                clear hq1
                have HX := Lib.hid (show scan (i + 1) (fun i => !windowP (⟨parts, chans, len0, win0, len1, win1⟩ : Cfg) i) = false from scan_next HT.out (by rw [show windowP (⟨parts, chans, len0, win0, len1, win1⟩ : Cfg) i = true by unfold windowP; rw [show fld (row (⟨parts, chans, len0, win0, len1, win1⟩ : Cfg).parts i) 0 = 1 by rw [show row (⟨parts, chans, len0, win0, len1, win1⟩ : Cfg).parts i = [1, y1] from row_at E1.out]; rfl, if_neg (by decide), if_pos rfl]; show hasWin win1 i = _; rw [HQ1.out]]; rfl))
                go_wp2_with (go_at_call 24; ((with_reducible refine (isCore_is _ _ _ (by assumption)).mono ?_); rintro e w5 ⟨rfl, rfl⟩))
                go_roundw
                case rel => exact ⟨i + 1, by omega, by go_num, HX.out, HR.out⟩
                case measure => simp [intOf]; omega
              | false =>
                rw [hq1] at s1
                have HQ1 := Lib.hid hq1
                clear hq1
                have HX := Lib.hid (show holdsP (⟨parts, chans, len0, win0, len1, win1⟩ : Cfg) 17 = true from scan_hit (f := (fun i => !windowP (⟨parts, chans, len0, win0, len1, win1⟩ : Cfg) i)) hlt (by rw [show windowP (⟨parts, chans, len0, win0, len1, win1⟩ : Cfg) i = false by unfold windowP; rw [show fld (row (⟨parts, chans, len0, win0, len1, win1⟩ : Cfg).parts i) 0 = 1 by rw [show row (⟨parts, chans, len0, win0, len1, win1⟩ : Cfg).parts i = [1, y1] from row_at E1.out]; rfl, if_neg (by decide), if_pos rfl]; show hasWin win1 i = _; rw [HQ1.out]]; rfl))
                go_wp2_with (go_at_call 24; ((with_reducible refine (isCore_is _ _ _ (by assumption)).mono ?_); rintro e w5 ⟨rfl, rfl⟩))
                go_ret
                exact ⟨by rw [HX.out]; rfl, HBX.out.trans (HR.out.mono HBX.out.size)⟩
            | false =>
              rw [hq0] at s0
              have HQ0 := Lib.hid hq0
              clear hq0
              cases hq1 : hasWin win1 i with
              | true =>
                rw [hq1] at s1
                have HQ1 := Lib.hid hq1
                clear hq1
                have HX := Lib.hid (show scan (i + 1) (fun i => !windowP (⟨parts, chans, len0, win0, len1, win1⟩ : Cfg) i) = false from scan_next HT.out (by rw [show windowP (⟨parts, chans, len0, win0, len1, win1⟩ : Cfg) i = true by unfold windowP; rw [show fld (row (⟨parts, chans, len0, win0, len1, win1⟩ : Cfg).parts i) 0 = 1 by rw [show row (⟨parts, chans, len0, win0, len1, win1⟩ : Cfg).parts i = [1, y1] from row_at E1.out]; rfl, if_neg (by decide), if_pos rfl]; show hasWin win1 i = _; rw [HQ1.out]]; rfl))
                go_wp2_with (go_at_call 24; ((with_reducible refine (isCore_is _ _ _ (by assumption)).mono ?_); rintro e w5 ⟨rfl, rfl⟩))
                go_roundw
                case rel => exact ⟨i + 1, by omega, by go_num, HX.out, HR.out⟩
                case measure => simp [intOf]; omega
              | false =>
                rw [hq1] at s1
                have HQ1 := Lib.hid hq1
                clear hq1
                have HX := Lib.hid (show holdsP (⟨parts, chans, len0, win0, len1, win1⟩ : Cfg) 17 = true from scan_hit (f := (fun i => !windowP (⟨parts, chans, len0, win0, len1, win1⟩ : Cfg) i)) hlt (by rw [show windowP (⟨parts, chans, len0, win0, len1, win1⟩ : Cfg) i = false by unfold windowP; rw [show fld (row (⟨parts, chans, len0, win0, len1, win1⟩ : Cfg).parts i) 0 = 1 by rw [show row (⟨parts, chans, len0, win0, len1, win1⟩ : Cfg).parts i = [1, y1] from row_at E1.out]; rfl, if_neg (by decide), if_pos rfl]; show hasWin win1 i = _; rw [HQ1.out]]; rfl))
                go_wp2_with (go_at_call 24; ((with_reducible refine (isCore_is _ _ _ (by assumption)).mono ?_); rintro e w5 ⟨rfl, rfl⟩))
                go_ret
                exact ⟨by rw [HX.out]; rfl, HBX.out.trans (HR.out.mono HBX.out.size)⟩

          · have hic : decide (y0 = 0 ∨ y0 = 1) = false := decide_eq_false (by omega)
            cases hq0 : hasWin win0 i with
            | true =>
              rw [hq0] at s0
              have HQ0 := Lib.hid hq0
              clear hq0
              cases hq1 : hasWin win1 i with
              | true =>
                rw [hq1] at s1
                have HQ1 := Lib.hid hq1
                clear hq1
                have HX := Lib.hid (show scan (i + 1) (fun i => !windowP (⟨parts, chans, len0, win0, len1, win1⟩ : Cfg) i) = false from scan_next HT.out (by rw [show windowP (⟨parts, chans, len0, win0, len1, win1⟩ : Cfg) i = true by unfold windowP; rw [show fld (row (⟨parts, chans, len0, win0, len1, win1⟩ : Cfg).parts i) 0 = y0 by rw [show row (⟨parts, chans, len0, win0, len1, win1⟩ : Cfg).parts i = [y0, y1] from row_at E1.out]; rfl, if_neg n0, if_neg n1]; show (hasWin win0 i || hasWin win1 i) = _; rw [HQ0.out, HQ1.out]; rfl]; rfl))
                go_wp2_with (go_at_call 24; ((with_reducible refine (isCore_is _ _ _ (by assumption)).mono ?_); rintro e w5 ⟨rfl, rfl⟩))
                go_roundw
                case rel => exact ⟨i + 1, by omega, by go_num, HX.out, HR.out⟩
                case measure => simp [intOf]; omega
              | false =>
                rw [hq1] at s1
                have HQ1 := Lib.hid hq1
                clear hq1
                have HX := Lib.hid (show scan (i + 1) (fun i => !windowP (⟨parts, chans, len0, win0, len1, win1⟩ : Cfg) i) = false from scan_next HT.out (by rw [show windowP (⟨parts, chans, len0, win0, len1, win1⟩ : Cfg) i = true by unfold windowP; rw [show fld (row (⟨parts, chans, len0, win0, len1, win1⟩ : Cfg).parts i) 0 = y0 by rw [show row (⟨parts, chans, len0, win0, len1, win1⟩ : Cfg).parts i = [y0, y1] from row_at E1.out]; rfl, if_neg n0, if_neg n1]; show (hasWin win0 i || hasWin win1 i) = _; rw [HQ0.out, HQ1.out]; rfl]; rfl))
                go_wp2_with (go_at_call 24; ((with_reducible refine (isCore_is _ _ _ (by assumption)).mono ?_); rintro e w5 ⟨rfl, rfl⟩))
                go_roundw
                case rel => exact ⟨i + 1, by omega, by go_num, HX.out, HR.out⟩
                case measure => simp [intOf]; omega
            | false =>
              rw [hq0] at s0
              have HQ0 := Lib.hid hq0
              clear hq0
              cases hq1 : hasWin win1 i with
              | true =>
                rw [hq1] at s1
                have HQ1 := Lib.hid hq1
                clear hq1
                have HX := Lib.hid (show scan (i + 1) (fun i => !windowP (⟨parts, chans, len0, win0, len1, win1⟩ : Cfg) i) = false from scan_next HT.out (by rw [show windowP (⟨parts, chans, len0, win0, len1, win1⟩ : Cfg) i = true by unfold windowP; rw [show fld (row (⟨parts, chans, len0, win0, len1, win1⟩ : Cfg).parts i) 0 = y0 by rw [show row (⟨parts, chans, len0, win0, len1, win1⟩ : Cfg).parts i = [y0, y1] from row_at E1.out]; rfl, if_neg n0, if_neg n1]; show (hasWin win0 i || hasWin win1 i) = _; rw [HQ0.out, HQ1.out]; rfl]; rfl))
                go_wp2_with (go_at_call 24; ((with_reducible refine (isCore_is _ _ _ (by assumption)).mono ?_); rintro e w5 ⟨rfl, rfl⟩))
                go_roundw
                case rel => exact ⟨i + 1, by omega, by go_num, HX.out, HR.out⟩
                case measure => simp [intOf]; omega
              | false =>
                rw [hq1] at s1
                have HQ1 := Lib.hid hq1
                clear hq1
                have HX := Lib.hid (show holdsP (⟨parts, chans, len0, win0, len1, win1⟩ : Cfg) 17 = true from scan_hit (f := (fun i => !windowP (⟨parts, chans, len0, win0, len1, win1⟩ : Cfg) i)) hlt (by rw [show windowP (⟨parts, chans, len0, win0, len1, win1⟩ : Cfg) i = false by unfold windowP; rw [show fld (row (⟨parts, chans, len0, win0, len1, win1⟩ : Cfg).parts i) 0 = y0 by rw [show row (⟨parts, chans, len0, win0, len1, win1⟩ : Cfg).parts i = [y0, y1] from row_at E1.out]; rfl, if_neg n0, if_neg n1]; show (hasWin win0 i || hasWin win1 i) = _; rw [HQ0.out, HQ1.out]; rfl]; rfl))
                go_wp2_with (go_at_call 24; ((with_reducible refine (isCore_is _ _ _ (by assumption)).mono ?_); rintro e w5 ⟨rfl, rfl⟩))
                go_ret
                exact ⟨by rw [HX.out]; rfl, HBX.out.trans (HR.out.mono HBX.out.size)⟩
        · have HS := Lib.hid (show holdsP (⟨parts, chans, len0, win0, len1, win1⟩ : Cfg) 17 = false by have h := HT.out; rw [show i = parts.length by omega] at h; exact h)
          clear HT
          go_wp2
          go_ret
          exact ⟨by rw [HS.out]; rfl, HBX.out.trans (hbc.mono HBX.out.size)⟩
end Go.Proofs.Ytogffilanioejaa
