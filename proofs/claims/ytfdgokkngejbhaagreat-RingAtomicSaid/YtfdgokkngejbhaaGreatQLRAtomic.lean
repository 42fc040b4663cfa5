/- Texts of the ring, joined, what is used of them. No condition but those in the statements. -/
import Derived.BigQuiet
import Derived.BigRegion
import Derived.Deep.MidRow
import Derived.Deep.RegionHeld3
import Derived.Deep.Upon
import Derived.IntWalk
import Derived.Shelf.Abstract
import Derived.Test.YtfdgokkngejbhaaGreatQgI
namespace Go.Proofs.YtfdgokkngejbhaaGreat
open Go.RowKit Go.Sort
set_option linter.unusedVariables false
set_option linter.unusedSimpArgs false
set_option linter.unusedVariables false
set_option linter.unusedSimpArgs false
open Go.Proofs.YtfdgokkngejbhaaGreat.Simp
set_option maxRecDepth 100000
set_option maxHeartbeats 12800000
theorem lratomic_b (a b : Int) (boot : Int) (bs : List Bool) (A : Option Addr) (cap : Nat) (w : World) (hw : (0 ≤ a ∧ a ≤ 255) ∧ (0 ≤ b ∧ b ≤ 255)) (h0 : 0 ≤ boot ∧ boot ≤ 4294967295) (hc : bs.length ≤ cap) (hm : cap ≤ maxLen) (hnil : A = none → bs = []) (hrow : BoolRowIn w w.heap.size A bs) : Calls Tryz.prog 4 #[.agg #[.int .u8 a, .int .u8 b], .int .u32 boot, .slice A bs.length cap] w fun e w' => e = .returned (.bool true) ∧ Below w.heap.size w w' := by
  obtain ⟨N, hN⟩ : ∃ N : Nat, 1 + a % 4 = (N : Int) := ⟨(1 + a % 4).toNat, by omega⟩
  obtain ⟨D, hD, hDQ⟩ : ∃ D : Nat, (∀ v : Int, (b % 4 = 0 → v = 1) → (b % 4 = 1 → v = 2) → (b % 4 = 2 → v = 4) → (b % 4 = 3 → v = 8) → v = (D : Int)) ∧ (D = 1 ∨ D = 2 ∨ D = 4 ∨ D = 8) := depthQ_is b
  have hN1 : 1 ≤ N ∧ N ≤ 4 := by omega
  have htm : a.tmod 4 = a % 4 := Int.tmod_eq_emod_of_nonneg hw.1.1
  have htn : b.tmod 4 = b % 4 := Int.tmod_eq_emod_of_nonneg hw.2.1
  have HTW := Lib.hid (fun (v1 v2 : Int) (w : World) (h1 : v1 = (N : Int)) (h2 : v2 = (D : Int)) => two_atQ v1 v2 N D boot w h1 h2 (by omega) h0)
  have HBG := Lib.hid (fun (x : CfgAt) (w : World) (hx : CfgIn w w.heap.size (cfgQ N D boot) x) => begin_atQ N D boot x w hx hN1 hDQ h0)
  have HROW := Lib.hid hrow
  have HHN := Lib.hid hN; have HHD := Lib.hid hD; have HDQ := Lib.hid hDQ; have H0 := Lib.hid h0; have HAB := Lib.hid hw
  clear hN hD hDQ h0 hw hrow
  by_cases hl : 600 < bs.length
  · have hl2 : (600 : Int) < (bs.length : Int) := by omega
    clear htm htn
    go_enter Tryz.func4, Tryz.ntmps4
    go_wp2_with fail
    obtain ⟨w0, HW0⟩ : ∃ u, Hid (u = w.alloc (.cells #[.int .u8 a, .int .u8 b] 70)) := ⟨_, rfl⟩
    rw [← HW0.out]
    refine (wakesQ_b w0).mono ?_
    rintro e wv ⟨rfl, hbv⟩
    go_wp2
    go_ret
    have hb0 : Below w.heap.size w w0 := by rw [HW0.out]; exact (Below.refl _ _).alloc (Nat.le_refl _) _
    exact ⟨rfl, hb0.trans (hbv.mono hb0.size)⟩
  have hl2 : ¬ ((600 : Int) < (bs.length : Int)) := by omega
  go_enter Tryz.func4, Tryz.ntmps4
  go_wp2_with fail
  obtain ⟨w0, HW0⟩ : ∃ u, Hid (u = w.alloc (.cells #[.int .u8 a, .int .u8 b] 70)) := ⟨_, rfl⟩
  obtain ⟨hb, hhb⟩ : ∃ h, h = w.heap.size := ⟨_, rfl⟩
  rw [← HW0.out]
  simp only [← hhb]
  refine (wakesQ_b w0).mono ?_
  rintro e wv ⟨rfl, hbv⟩
  have hblk : w0.heap[hb]? = some (.cells #[.int .u8 a, .int .u8 b] 70 (0, 0)) := by rw [HW0.out, hhb]; exact heap_alloc_new _ _
  have hblv := (hbv.block hb (Array.getElem?_eq_some_iff.1 hblk).1).trans hblk
  have k0 : wv.cell? ⟨hb, 0, none⟩ = some (.int .u8 a) := cell_blk hblv rfl
  have k1 : wv.cell? ⟨hb, 1, none⟩ = some (.int .u8 b) := cell_blk hblv rfl
  have HBV : Hid (Below w.heap.size w wv) := Lib.hid (by
    have hb0 : Below w.heap.size w w0 := by rw [HW0.out]; exact (Below.refl _ _).alloc (Nat.le_refl _) _
    exact hb0.trans (hbv.mono hb0.size))
  clear hbv hblk hblv hhb
  go_wp2_with fail
  refine (HTW.out _ _ wv ?_ ?_).mono ?_
  · have := HHN.out; have := HAB.out; rw [IntWalk.wrap64_in a (by omega), htm, IntWalk.wrap64_in _ (by omega)]; omega
  · have := HAB.out
    refine HHD.out _ ?_ ?_ ?_ ?_
    all_goals (intro hz; rw [hz]; first | exact (IntWalk.wrap64_in 1 (by decide)) | exact (IntWalk.wrap64_in 2 (by decide)) | exact (IntWalk.wrap64_in 4 (by decide)) | exact (IntWalk.wrap64_in 8 (by decide)))
  rintro e W ⟨x, rfl, hx, hb1⟩
  have HXW := Lib.hid hx
  have HBW := Lib.hid (HBV.out.trans (hb1.mono HBV.out.size))
  clear hb1 hx k0 k1 htm htn
  go_wp2_with fail
  refine (HBG.out x W HXW.out).mono ?_
  rintro e v2 ⟨pb, mb, rb, bb, br, rfl, hp0⟩
  have HP0 := Lib.hid hp0
  clear hp0
  go_wp2
  go_loopw [31] (fun ix wr => ∃ (k : Nat) (P : Ql) (sq rq : Nat), k ≤ bs.length ∧ ix = .int .i64 k ∧ QInv N D boot P ∧ PQAt W wr (fun k => k = pb) pb mb rb bb br N D boot x k P sq rq) (fun ix _ => bs.length - (intOf ix).toNat)
  case atStart => exact ⟨0, _, 0, 0, Nat.zero_le _, rfl, (q_zero hN1.1 (by omega) HDQ.out H0.out).inv, HP0.out⟩
  case round =>
    obtain ⟨k, P, sq, rq, hk, rfl, hinv, hp⟩ := hrel
    by_cases hkl : k < bs.length
    · have hbw := HBW.out.trans (hp.below.mono HBW.out.size)
      obtain ⟨b', o, rfl, -, hcell⟩ := HROW.out.at_ hkl
      have ca := hcell wr hbw
      obtain ⟨ac, ha⟩ : ∃ a, bs.getD k false = a := ⟨_, rfl⟩
      rw [ha] at ca
      have HINV := Lib.hid hinv; have HP := Lib.hid hp
      clear ha hcell hbw hinv hp
      cases ac
      · go_wp2_with fail
        refine (recv_b HP.out (by omega) (playQ_ok HINV.out).1).mono ?_
        rintro e w5 ⟨rfl, rq', hp5, ho5⟩
        have HP5 := Lib.hid hp5
        clear hp5 ho5 ca
        go_wp2
        go_roundw
        case rel => exact ⟨k + 1, _, sq, rq', by omega, by go_num, (playQ_ok HINV.out).2.1, HP5.out⟩
        case measure => simp [intOf]; omega
      · go_wp2_with fail
        refine (send_b HP.out (by omega) (playS_ok HINV.out).1).mono ?_
        rintro e w5 ⟨rfl, sq', hp5, ho5⟩
        have HP5 := Lib.hid hp5
        clear hp5 ho5 ca
        go_wp2
        go_roundw
        case rel => exact ⟨k + 1, _, sq', rq, by omega, by go_num, (playS_ok HINV.out).2.1, HP5.out⟩
        case measure => simp [intOf]; omega
    · obtain ⟨i1, i2, i3, -, -⟩ := hinv.count
      obtain ⟨l1, l2, l3, l4, l5, l6, l7, l8, l9, l10⟩ := hp.lim
      obtain ⟨b', o, hca, hch⟩ := chanQ hp.cfg hp.wf
      have h4 := (hch wr hp.below).2.1
      have h1 : wr.cell? ⟨pb, 1, none⟩ = some (.slice (some ⟨b', o, none⟩) 1 x.cc) := by rw [← hca]; exact cell_blk hp.blk rfl
      have hkk : k ≤ 600 := by omega
      obtain ⟨z, hz⟩ : ∃ z, P.sent - P.got = z := ⟨_, rfl⟩
      have n0 : IntKind.i64.wrap (P.sent - P.got) = z := by rw [hz]; exact IntWalk.i64_in _ (by omega)
      have n1 : decide (0 ≤ z) = true := decide_eq_true (by omega)
      have n2 : decide (z ≤ (D : Int)) = true := decide_eq_true (by omega)
      have q1 : ∀ p : Regrown, (grow (redrawn wr p.d) p.os).cell? ⟨pb, 1, none⟩ = some (.slice (some ⟨b', o, none⟩) 1 x.cc) := fun p => cell_regrown h1 p.d p.os
      have q12 : ∀ p : Regrown, (grow (redrawn wr p.d) p.os).cell? ⟨pb, 12, none⟩ = some (.int .i64 P.sent) := fun p => cell_regrown (cell_blk hp.blk rfl) p.d p.os
      have q13 : ∀ p : Regrown, (grow (redrawn wr p.d) p.os).cell? ⟨pb, 13, none⟩ = some (.int .i64 P.got) := fun p => cell_regrown (cell_blk hp.blk rfl) p.d p.os
      have q20 : ∀ p : Regrown, (grow (redrawn wr p.d) p.os).cell? ⟨b', o + 4, none⟩ = some (.int .i64 (D : Int)) := fun p => by have q := cell_regrown h4 p.d p.os; simpa using q
      have HB := Lib.hid (HBW.out.trans (hp.below.mono HBW.out.size))
      have hbc := Below.refl wr.heap.size wr
      clear hinv hp hca hch h4 h1 hz i1 i2 i3 l1 l2 l3 l4 l5 l6 l7 l8 l9 l10
      go_wp2
      with_reducible refine wp_on hbc (by kernel_rfl) (by kernel_rfl) ?_
      (repeat (go_big_quiet_step (fail)))
      with_reducible refine wpQuiet_nil ?_
      intro wc hbc
      have HBC := Lib.hid hbc
      clear q1 q12 q13 q20 hbc
      go_wp2
      go_ret
      exact ⟨rfl, HB.out.trans (HBC.out.mono HB.out.size)⟩
end Go.Proofs.YtfdgokkngejbhaaGreat
