/- The document's window, as a contract. No condition but those in the statements. -/
import Derived.Test.YtfpcldkgcifciaaRefA
import Derived.BigQuiet
namespace Go.Proofs.Ytfpcldkgcifciaa
open Go.RowKit Go.Sort Go.ChangeShapes Go.WideShapes
set_option linter.unusedVariables false
set_option linter.unusedSimpArgs false

set_option maxRecDepth 100000 in
set_option maxHeartbeats 8000000 in
theorem rwindow (parts chans : List (List Int)) (len0 : Int) (win0 : List (List Int)) (len1 : Int) (win1 : List (List Int)) (pa : Option Addr) (pc : Nat) (ca : Option Addr) (cc : Nat) (aa : Option Addr) (ac : Nat) (ba : Option Addr) (bc : Nat) (p : Nat) (w : World) (hp : RowN [.i64, .i64] w w.heap.size pa parts) (hpw : wfR [.i64, .i64] parts) (hpl : parts.length ≤ 1000000) (hc : RowN [.i64, .i64, .i64, .i64, .i64, .i64, .u32] w w.heap.size ca chans) (hcw : wfR [.i64, .i64, .i64, .i64, .i64, .i64, .u32] chans) (hcl : chans.length ≤ 1000000) (h0 : RowN [.i64, .i64, .i64] w w.heap.size aa win0) (h0w : wfR [.i64, .i64, .i64] win0) (h0l : win0.length ≤ 1000000) (h1 : RowN [.i64, .i64, .i64] w w.heap.size ba win1) (h1w : wfR [.i64, .i64, .i64] win1) (h1l : win1.length ≤ 1000000) (hpl' : p < parts.length) : Calls Try.prog 29 #[.agg #[.slice pa parts.length pc, .slice ca chans.length cc, .int .i64 len0, .slice aa win0.length ac, .int .i64 len1, .slice ba win1.length bc], .int .i64 (p : Int)] w fun e w' => e = .returned (.bool (windowB (⟨parts, chans, len0, win0, len1, win1⟩ : Cfg) p)) ∧ Below w.heap.size w w' := by
  obtain ⟨W, HW, hB, -, bx⟩ := one_cbox w ⟨parts, chans, len0, win0, len1, win1⟩ ⟨pa, pc, ca, cc, aa, ac, ba, bc⟩ 29
  have HB := Lib.hid hB
  have hp := hp.later hB; have hc := hc.later hB; have h0 := h0.later hB; have h1 := h1.later hB
  clear hB
  obtain ⟨c0, c1, c2, c3, c4, c5⟩ := bx _ (Below.refl _ _)
  obtain ⟨bp, op, y0, y1, f0, _, f1, _, r0⟩ := hp.at2 hpw hpl'
  obtain ⟨r1, r2⟩ := r0 _ (Below.refl _ _)
  have F1 := Lib.hid f1
  have hj1 : (0 : Int) ≤ (p : Int) := by omega
  have hj2 : (p : Int) < (parts.length : Int) := by omega
  clear f1 r0
  subst f0
  by_cases n0 : y0 = 0
  · subst n0
    have HWN := Lib.hid (show windowB (⟨parts, chans, len0, win0, len1, win1⟩ : Cfg) p = scan win0.length (fun i => decide (fld (row win0 i) 0 = (p : Int))) by unfold windowB; rw [show fld (row (⟨parts, chans, len0, win0, len1, win1⟩ : Cfg).parts p) 0 = 0 by rw [show row (⟨parts, chans, len0, win0, len1, win1⟩ : Cfg).parts p = [0, y1] from row_at F1.out]; rfl, if_pos rfl])
    rw [HW.out] at c0 c1 c2 c3 c4 c5 r1 r2
    go_enter Try.func29, Try.ntmps29
    go_wp2
    clear c0 c1 c2 c3 c4 c5 r1 r2
    go_loopw [6] (fun ix wr => ∃ i : Nat, i ≤ win0.length ∧ ix = .int .i64 i ∧ scan i (fun i => decide (fld (row win0 i) 0 = (p : Int))) = false ∧ Below W.heap.size W wr) (fun ix _ => win0.length - (intOf ix).toNat)
    case atStart => exact ⟨0, Nat.zero_le _, rfl, rfl, (by rw [← HW.out]; exact Below.refl _ _)⟩
    case round =>
      obtain ⟨i, hi, rfl, ht, hbc⟩ := hrel
      have HT := Lib.hid ht
      clear ht
      by_cases hlt : i < win0.length
      · obtain ⟨b, o, x0, x1, x2, e0, _, e1, ⟨hw0, hw1, hw2⟩, k0⟩ := h0.at3 h0w hlt
        subst e0
        have k0 := k0 _ hbc
        obtain ⟨p0, k0⟩ := k0
        obtain ⟨p1, p2⟩ := k0
        have E1 := Lib.hid e1
        clear e1
        by_cases h1 : x0 = (p : Int)
        · have h1a : ((x0 : Int) == (p : Int)) = true := by simp [h1]
          have h1b : ((x0 : Int) != (p : Int)) = false := by simp [h1]
          have HX := Lib.hid (show windowB (⟨parts, chans, len0, win0, len1, win1⟩ : Cfg) p = true from HWN.out.trans (scan_hit (f := (fun i => decide (fld (row win0 i) 0 = (p : Int)))) hlt (show decide (fld (row win0 i) 0 = (p : Int)) = true by rw [row_at E1.out]; exact decide_eq_true h1)))
          go_wp2
          go_ret
          exact ⟨by rw [HX.out]; rfl, HB.out.trans (hbc.mono HB.out.size)⟩
        · have h1a : ((x0 : Int) == (p : Int)) = false := by simp [h1]
          have h1b : ((x0 : Int) != (p : Int)) = true := by simp [h1]
          have HX := Lib.hid (show scan (i + 1) (fun i => decide (fld (row win0 i) 0 = (p : Int))) = false from scan_next HT.out (show decide (fld (row win0 i) 0 = (p : Int)) = false by rw [row_at E1.out]; exact decide_eq_false h1))
          go_wp2
          go_roundw
          case rel => exact ⟨i + 1, by omega, by go_num, HX.out, hbc⟩
          case measure => simp [intOf]; omega
      · have HS := Lib.hid (show windowB (⟨parts, chans, len0, win0, len1, win1⟩ : Cfg) p = false by have h := HT.out; rw [show i = win0.length by omega] at h; exact HWN.out.trans h)
        clear HT
        go_wp2
        go_ret
        exact ⟨by rw [HS.out]; rfl, HB.out.trans (hbc.mono HB.out.size)⟩
  by_cases n1 : y0 = 1
  · subst n1
    have HWN := Lib.hid (show windowB (⟨parts, chans, len0, win0, len1, win1⟩ : Cfg) p = scan win1.length (fun i => decide (fld (row win1 i) 0 = (p : Int))) by unfold windowB; rw [show fld (row (⟨parts, chans, len0, win0, len1, win1⟩ : Cfg).parts p) 0 = 1 by rw [show row (⟨parts, chans, len0, win0, len1, win1⟩ : Cfg).parts p = [1, y1] from row_at F1.out]; rfl, if_neg (by decide), if_pos rfl])
    rw [HW.out] at c0 c1 c2 c3 c4 c5 r1 r2
    go_enter Try.func29, Try.ntmps29
    go_wp2
    clear c0 c1 c2 c3 c4 c5 r1 r2
    go_loopw [6] (fun ix wr => ∃ i : Nat, i ≤ win1.length ∧ ix = .int .i64 i ∧ scan i (fun i => decide (fld (row win1 i) 0 = (p : Int))) = false ∧ Below W.heap.size W wr) (fun ix _ => win1.length - (intOf ix).toNat)
    case atStart => exact ⟨0, Nat.zero_le _, rfl, rfl, (by rw [← HW.out]; exact Below.refl _ _)⟩
    case round =>
      obtain ⟨i, hi, rfl, ht, hbc⟩ := hrel
      have HT := Lib.hid ht
      clear ht
      by_cases hlt : i < win1.length
      · obtain ⟨b, o, x0, x1, x2, e0, _, e1, ⟨hw0, hw1, hw2⟩, k0⟩ := h1.at3 h1w hlt
        subst e0
        have k0 := k0 _ hbc
        obtain ⟨p0, k0⟩ := k0
        obtain ⟨p1, p2⟩ := k0
        have E1 := Lib.hid e1
        clear e1
        by_cases h1 : x0 = (p : Int)
        · have h1a : ((x0 : Int) == (p : Int)) = true := by simp [h1]
          have h1b : ((x0 : Int) != (p : Int)) = false := by simp [h1]
          have HX := Lib.hid (show windowB (⟨parts, chans, len0, win0, len1, win1⟩ : Cfg) p = true from HWN.out.trans (scan_hit (f := (fun i => decide (fld (row win1 i) 0 = (p : Int)))) hlt (show decide (fld (row win1 i) 0 = (p : Int)) = true by rw [row_at E1.out]; exact decide_eq_true h1)))
          go_wp2
          go_ret
          exact ⟨by rw [HX.out]; rfl, HB.out.trans (hbc.mono HB.out.size)⟩
        · have h1a : ((x0 : Int) == (p : Int)) = false := by simp [h1]
          have h1b : ((x0 : Int) != (p : Int)) = true := by simp [h1]
          have HX := Lib.hid (show scan (i + 1) (fun i => decide (fld (row win1 i) 0 = (p : Int))) = false from scan_next HT.out (show decide (fld (row win1 i) 0 = (p : Int)) = false by rw [row_at E1.out]; exact decide_eq_false h1))
          go_wp2
          go_roundw
          case rel => exact ⟨i + 1, by omega, by go_num, HX.out, hbc⟩
          case measure => simp [intOf]; omega
      · have HS := Lib.hid (show windowB (⟨parts, chans, len0, win0, len1, win1⟩ : Cfg) p = false by have h := HT.out; rw [show i = win1.length by omega] at h; exact HWN.out.trans h)
        clear HT
        go_wp2
        go_ret
        exact ⟨by rw [HS.out]; rfl, HB.out.trans (hbc.mono HB.out.size)⟩
  · have HX := Lib.hid (show windowB (⟨parts, chans, len0, win0, len1, win1⟩ : Cfg) p = false by unfold windowB; rw [show fld (row (⟨parts, chans, len0, win0, len1, win1⟩ : Cfg).parts p) 0 = y0 by rw [show row (⟨parts, chans, len0, win0, len1, win1⟩ : Cfg).parts p = [y0, y1] from row_at F1.out]; rfl, if_neg n0, if_neg n1])
    have n0a : (y0 == 0) = false := by simpa using n0
    have n0b : (y0 != 0) = true := by simpa using n0
    have n1a : (y0 == 1) = false := by simpa using n1
    have n1b : (y0 != 1) = true := by simpa using n1
    rw [HW.out] at c0 c1 c2 c3 c4 c5 r1 r2
    go_enter Try.func29, Try.ntmps29
    go_wp2
    go_ret
    exact ⟨by rw [HX.out]; rfl, (Below.refl _ _).alloc (Nat.le_refl _) _⟩
end Go.Proofs.Ytfpcldkgcifciaa
