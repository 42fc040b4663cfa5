/- The document's chans at defect 6, as a contract. No condition but those in the statements. -/
import Derived.Test.YtfpcldkgcifciaaRefA
namespace Go.Proofs.Ytfpcldkgcifciaa
open Go.RowKit Go.Sort
set_option linter.unusedVariables false
set_option linter.unusedSimpArgs false

set_option maxRecDepth 100000 in
set_option maxHeartbeats 4000000 in
theorem rchans6 (parts chans : List (List Int)) (len0 : Int) (win0 : List (List Int)) (len1 : Int) (win1 : List (List Int)) (pa : Option Addr) (pc : Nat) (ca : Option Addr) (cc : Nat) (aa : Option Addr) (ac : Nat) (ba : Option Addr) (bc : Nat) (w : World) (hp : RowN [.i64, .i64] w w.heap.size pa parts) (hpw : wfR [.i64, .i64] parts) (hpl : parts.length ≤ 1000000) (hc : RowN [.i64, .i64, .i64, .i64, .i64, .i64, .u32] w w.heap.size ca chans) (hcw : wfR [.i64, .i64, .i64, .i64, .i64, .i64, .u32] chans) (hcl : chans.length ≤ 1000000) (h0 : RowN [.i64, .i64, .i64] w w.heap.size aa win0) (h0w : wfR [.i64, .i64, .i64] win0) (h0l : win0.length ≤ 1000000) (h1 : RowN [.i64, .i64, .i64] w w.heap.size ba win1) (h1w : wfR [.i64, .i64, .i64] win1) (h1l : win1.length ≤ 1000000) : Calls Try.prog 30 #[.agg #[.slice pa parts.length pc, .slice ca chans.length cc, .int .i64 len0, .slice aa win0.length ac, .int .i64 len1, .slice ba win1.length bc], .int .i64 6] w fun e w' => e = .returned (.bool (chansB (⟨parts, chans, len0, win0, len1, win1⟩ : Cfg) 6)) ∧ Below w.heap.size w w' := by
  obtain ⟨W, HW, hB, -, bx⟩ := one_cbox w ⟨parts, chans, len0, win0, len1, win1⟩ ⟨pa, pc, ca, cc, aa, ac, ba, bc⟩ 29
  have HB := Lib.hid hB
  have hp := hp.later hB; have hc := hc.later hB; have h0 := h0.later hB; have h1 := h1.later hB
  clear hB
  go_enter Try.func30, Try.ntmps30
  go_wp2
  go_loopw [5] (fun ix wr => ∃ i : Nat, i ≤ chans.length ∧ ix = .int .i64 i ∧ scan i (fun i => chanBad parts.length 6 (row chans i)) = false ∧ Below W.heap.size W wr) (fun ix _ => chans.length - (intOf ix).toNat)
  case atStart => exact ⟨0, Nat.zero_le _, rfl, rfl, (by rw [← HW.out]; exact Below.refl _ _)⟩
  case round =>
    obtain ⟨i, hi, rfl, ht, hbc⟩ := hrel
    have HT := Lib.hid ht
    obtain ⟨c0, c1, c2, c3, c4, c5⟩ := bx _ hbc
    clear ht
    by_cases hlt : i < chans.length
    · obtain ⟨b, o, x0, x1, x2, x3, x4, x5, x6, e0, _, e1, ⟨hw0, hw1, hw2, hw3, hw4, hw5, hw6⟩, k0⟩ := hc.at7 hcw hlt
      subst e0
      have k0 := k0 _ hbc
      obtain ⟨p0, k0⟩ := k0
      obtain ⟨p1, k0⟩ := k0
      obtain ⟨p2, k0⟩ := k0
      obtain ⟨p3, k0⟩ := k0
      obtain ⟨p4, k0⟩ := k0
      obtain ⟨p5, p6⟩ := k0
      have E1 := Lib.hid e1
      clear e1
      obtain ⟨wa, hwa⟩ : ∃ u, Hid (u = wr.alloc (.cells #[.int .i64 x0, .int .i64 x1, .int .i64 x2, .int .i64 x3, .int .i64 x4, .int .i64 x5, .int .u32 x6] 64)) := ⟨_, rfl⟩
      have hba : Below wr.heap.size wr wa := by rw [hwa.out]; exact (Below.refl _ _).alloc (Nat.le_refl _) _
      have hxa : wa.heap[wr.heap.size]? = some (.cells #[.int .i64 x0, .int .i64 x1, .int .i64 x2, .int .i64 x3, .int .i64 x4, .int .i64 x5, .int .u32 x6] 64 (0, 0)) := by rw [hwa.out]; exact heap_alloc_new _ _
      have hwb := hbc.trans (hba.mono hbc.size)
      obtain ⟨a0, a1, a2, a3, a4, a5⟩ := bx _ hwb
      have q1 := cell_blk hxa (i := 1) rfl
      have hla : wr.heap.size < wa.heap.size := (Array.getElem?_eq_some_iff.1 hxa).1
      have HWB := Lib.hid hwb
      clear hba hwb
      by_cases hA : partB (⟨parts, chans, len0, win0, len1, win1⟩ : Cfg) x1 = true
      · have hA' := of_decide_eq_true hA
        have HA := Lib.hid hA
        clear hA
        go_wp2_with (rw [← hwa.out])
        refine (part_is parts chans len0 win0 len1 win1 pa pc (some ⟨b, o, none⟩) cc aa ac ba bc x1 true _ HA.out).mono ?_
        rintro e w5 ⟨rfl, hb5⟩
        have hxb := (hb5.block _ hla).trans hxa
        have hwb := HWB.out.trans (hb5.mono HWB.out.size)
        obtain ⟨b0, b1, b2, b3, b4, b5⟩ := bx _ hwb
        have q2 := cell_blk hxb (i := 2) rfl
        have HWB5 := Lib.hid hwb
        clear hwb hxb hb5 a0 a1 a2 a3 a4 a5 q1
        by_cases hC : partB (⟨parts, chans, len0, win0, len1, win1⟩ : Cfg) x2 = true
        · have hC' := of_decide_eq_true hC
          have HC := Lib.hid hC
          clear hC
          go_wp2_with fail
          refine (part_is parts chans len0 win0 len1 win1 pa pc (some ⟨b, o, none⟩) cc aa ac ba bc x2 true _ HC.out).mono ?_
          rintro e w6 ⟨rfl, hb6⟩
          have hbc := HWB5.out.trans (hb6.mono HWB5.out.size)
          have hA2 : 0 ≤ x1 ∧ x1 < (parts.length : Int) := hA'
          have hC2 : 0 ≤ x2 ∧ x2 < (parts.length : Int) := hC'
          clear hA' hC'
          have HX := Lib.hid (show scan (i + 1) (fun i => chanBad parts.length 6 (row chans i)) = false from scan_next HT.out (show chanBad parts.length 6 (row chans i) = false by rw [row_at E1.out]; exact (show decide (¬ (0 ≤ x1 ∧ x1 < (parts.length : Int)) ∨ ¬ (0 ≤ x2 ∧ x2 < (parts.length : Int))) = false from decide_eq_false (by omega))))
          go_wp2
          go_roundw
          case rel => exact ⟨i + 1, by omega, by go_num, HX.out, hbc⟩
          case measure => simp [intOf]; omega
        · have hC : partB (⟨parts, chans, len0, win0, len1, win1⟩ : Cfg) x2 = false := by simpa using hC
          have hC' := of_decide_eq_false hC
          have HC := Lib.hid hC
          clear hC
          go_wp2_with fail
          refine (part_is parts chans len0 win0 len1 win1 pa pc (some ⟨b, o, none⟩) cc aa ac ba bc x2 false _ HC.out).mono ?_
          rintro e w6 ⟨rfl, hb6⟩
          have hbc := HWB5.out.trans (hb6.mono HWB5.out.size)
          have hC2 : ¬ (0 ≤ x2 ∧ x2 < (parts.length : Int)) := hC'
          clear hA' hC'
          have HX := Lib.hid (show chansB (⟨parts, chans, len0, win0, len1, win1⟩ : Cfg) 6 = true from scan_hit (f := (fun i => chanBad parts.length 6 (row chans i))) hlt (show chanBad parts.length 6 (row chans i) = true by rw [row_at E1.out]; exact (show decide (¬ (0 ≤ x1 ∧ x1 < (parts.length : Int)) ∨ ¬ (0 ≤ x2 ∧ x2 < (parts.length : Int))) = true from decide_eq_true (by omega))))
          go_wp2
          go_ret
          exact ⟨by rw [HX.out]; rfl, HB.out.trans (hbc.mono HB.out.size)⟩
      · have hA : partB (⟨parts, chans, len0, win0, len1, win1⟩ : Cfg) x1 = false := by simpa using hA
        have hA' := of_decide_eq_false hA
        have HA := Lib.hid hA
        clear hA
        go_wp2_with (rw [← hwa.out])
        refine (part_is parts chans len0 win0 len1 win1 pa pc (some ⟨b, o, none⟩) cc aa ac ba bc x1 false _ HA.out).mono ?_
        rintro e w5 ⟨rfl, hb5⟩
        have hbc := HWB.out.trans (hb5.mono HWB.out.size)
        have hA2 : ¬ (0 ≤ x1 ∧ x1 < (parts.length : Int)) := hA'
        clear hA'
        have HX := Lib.hid (show chansB (⟨parts, chans, len0, win0, len1, win1⟩ : Cfg) 6 = true from scan_hit (f := (fun i => chanBad parts.length 6 (row chans i))) hlt (show chanBad parts.length 6 (row chans i) = true by rw [row_at E1.out]; exact (show decide (¬ (0 ≤ x1 ∧ x1 < (parts.length : Int)) ∨ ¬ (0 ≤ x2 ∧ x2 < (parts.length : Int))) = true from decide_eq_true (by omega))))
        go_wp2
        go_ret
        exact ⟨by rw [HX.out]; rfl, HB.out.trans (hbc.mono HB.out.size)⟩
    · have HS := Lib.hid (show chansB (⟨parts, chans, len0, win0, len1, win1⟩ : Cfg) 6 = false by have h := HT.out; rw [show i = chans.length by omega] at h; exact h)
      clear HT
      go_wp2
      go_ret
      exact ⟨by rw [HS.out]; rfl, HB.out.trans (hbc.mono HB.out.size)⟩
end Go.Proofs.Ytfpcldkgcifciaa
