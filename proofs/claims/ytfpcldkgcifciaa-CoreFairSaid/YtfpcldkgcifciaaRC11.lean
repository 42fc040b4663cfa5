/- The document's chans at defect 11, as a contract. No condition but those in the statements. -/
import Derived.Test.YtfpcldkgcifciaaRefA
namespace Go.Proofs.Ytfpcldkgcifciaa
open Go.RowKit Go.Sort
set_option linter.unusedVariables false
set_option linter.unusedSimpArgs false

set_option maxRecDepth 100000 in
set_option maxHeartbeats 4000000 in
theorem rchans11 (parts chans : List (List Int)) (len0 : Int) (win0 : List (List Int)) (len1 : Int) (win1 : List (List Int)) (pa : Option Addr) (pc : Nat) (ca : Option Addr) (cc : Nat) (aa : Option Addr) (ac : Nat) (ba : Option Addr) (bc : Nat) (w : World) (hp : RowN [.i64, .i64] w w.heap.size pa parts) (hpw : wfR [.i64, .i64] parts) (hpl : parts.length ≤ 1000000) (hc : RowN [.i64, .i64, .i64, .i64, .i64, .i64, .u32] w w.heap.size ca chans) (hcw : wfR [.i64, .i64, .i64, .i64, .i64, .i64, .u32] chans) (hcl : chans.length ≤ 1000000) (h0 : RowN [.i64, .i64, .i64] w w.heap.size aa win0) (h0w : wfR [.i64, .i64, .i64] win0) (h0l : win0.length ≤ 1000000) (h1 : RowN [.i64, .i64, .i64] w w.heap.size ba win1) (h1w : wfR [.i64, .i64, .i64] win1) (h1l : win1.length ≤ 1000000) : Calls Try.prog 30 #[.agg #[.slice pa parts.length pc, .slice ca chans.length cc, .int .i64 len0, .slice aa win0.length ac, .int .i64 len1, .slice ba win1.length bc], .int .i64 11] w fun e w' => e = .returned (.bool (chansB (⟨parts, chans, len0, win0, len1, win1⟩ : Cfg) 11)) ∧ Below w.heap.size w w' := by
  obtain ⟨W, HW, hB, -, bx⟩ := one_cbox w ⟨parts, chans, len0, win0, len1, win1⟩ ⟨pa, pc, ca, cc, aa, ac, ba, bc⟩ 29
  have HB := Lib.hid hB
  have hp := hp.later hB; have hc := hc.later hB; have h0 := h0.later hB; have h1 := h1.later hB
  clear hB
  go_enter Try.func30, Try.ntmps30
  go_wp2
  go_loopw [5] (fun ix wr => ∃ i : Nat, i ≤ chans.length ∧ ix = .int .i64 i ∧ scan i (fun i => chanBad parts.length 11 (row chans i)) = false ∧ Below W.heap.size W wr) (fun ix _ => chans.length - (intOf ix).toNat)
  case atStart => exact ⟨0, Nat.zero_le _, rfl, rfl, (by rw [← HW.out]; exact Below.refl _ _)⟩
  case round =>
    obtain ⟨i, hi, rfl, ht, hbc⟩ := hrel
    have HT := Lib.hid ht
    obtain ⟨c0, c1, c2, c3, c4, c5⟩ := bx _ hbc
    clear ht
    by_cases hlt : i < chans.length
    · obtain ⟨b, o, x0, x1, x2, x3, x4, x5, x6, e0, _, e1, ⟨hw0, hw1, hw2, hw3, hw4, hw5, hw6⟩, k0⟩ := hc.at7 hcw hlt
      subst e0
      have k0 := k0 _ hbc
      obtain ⟨p0, k0⟩ := k0
      obtain ⟨p1, k0⟩ := k0
      obtain ⟨p2, k0⟩ := k0
      obtain ⟨p3, k0⟩ := k0
      obtain ⟨p4, k0⟩ := k0
      obtain ⟨p5, p6⟩ := k0
      have E1 := Lib.hid e1
      clear e1
      by_cases h1 : x0 = 1
      · have h1a : ((x0 : Int) == 1) = true := by simp [h1]
        have h1b : ((x0 : Int) != 1) = false := by simp [h1]
        by_cases h2 : x6 = 0
        · have h2a : ((x6 : Int) == 0) = true := by simp [h2]
          have h2b : ((x6 : Int) != 0) = false := by simp [h2]
          have HX := Lib.hid (show scan (i + 1) (fun i => chanBad parts.length 11 (row chans i)) = false from scan_next HT.out (show chanBad parts.length 11 (row chans i) = false by rw [row_at E1.out]; exact (show decide (x0 = 1 ∧ x6 ≠ 0) = false from decide_eq_false (by omega))))
          go_wp2
          go_roundw
          case rel => exact ⟨i + 1, by omega, by go_num, HX.out, hbc.alloc hbc.size _⟩
          case measure => simp [intOf]; omega
        · have h2a : ((x6 : Int) == 0) = false := by simp [h2]
          have h2b : ((x6 : Int) != 0) = true := by simp [h2]
          have HX := Lib.hid (show chansB (⟨parts, chans, len0, win0, len1, win1⟩ : Cfg) 11 = true from scan_hit (f := (fun i => chanBad parts.length 11 (row chans i))) hlt (show chanBad parts.length 11 (row chans i) = true by rw [row_at E1.out]; exact (show decide (x0 = 1 ∧ x6 ≠ 0) = true from decide_eq_true (by omega))))
          go_wp2
          go_ret
          exact ⟨by rw [HX.out]; rfl, HB.out.trans ((hbc.alloc hbc.size _).mono HB.out.size)⟩
      · have h1a : ((x0 : Int) == 1) = false := by simp [h1]
        have h1b : ((x0 : Int) != 1) = true := by simp [h1]
        have HX := Lib.hid (show scan (i + 1) (fun i => chanBad parts.length 11 (row chans i)) = false from scan_next HT.out (show chanBad parts.length 11 (row chans i) = false by rw [row_at E1.out]; exact (show decide (x0 = 1 ∧ x6 ≠ 0) = false from decide_eq_false (by omega))))
        go_wp2
        go_roundw
        case rel => exact ⟨i + 1, by omega, by go_num, HX.out, hbc.alloc hbc.size _⟩
        case measure => simp [intOf]; omega
    · have HS := Lib.hid (show chansB (⟨parts, chans, len0, win0, len1, win1⟩ : Cfg) 11 = false by have h := HT.out; rw [show i = chans.length by omega] at h; exact h)
      clear HT
      go_wp2
      go_ret
      exact ⟨by rw [HS.out]; rfl, HB.out.trans (hbc.mono HB.out.size)⟩
end Go.Proofs.Ytfpcldkgcifciaa
