/- Texts of the ring, joined, what is used of them. No condition but those in the statements. -/
import Derived.BigQuiet
import Derived.BigRegion
import Derived.Deep.MidRow
import Derived.Deep.RegionHeld3
import Derived.Deep.Upon
import Derived.IntWalk
import Derived.Shelf.Abstract
import Derived.Test.YtfdgokkngejbhaaGreatQgA
import Derived.Test.YtfdgokkngejbhaaGreatQgI
namespace Go.Proofs.YtfdgokkngejbhaaGreat
open Go.RowKit Go.Sort
set_option linter.unusedVariables false
set_option linter.unusedSimpArgs false
set_option linter.unusedVariables false
set_option linter.unusedSimpArgs false
open Go.Proofs.YtfdgokkngejbhaaGreat.Simp
set_option maxRecDepth 100000
set_option maxHeartbeats 12800000
theorem lrroom_b (a b boot : Int) (w : World) (hw : (0 ≤ a ∧ a ≤ 255) ∧ (0 ≤ b ∧ b ≤ 255)) (h0 : 0 ≤ boot ∧ boot ≤ 4294967295) : Calls Tryz.prog 8 #[.agg #[.int .u8 a, .int .u8 b], .int .u32 boot] w fun e w' => e = .returned (.bool true) ∧ Below w.heap.size w w' := by
  obtain ⟨N, hN⟩ : ∃ N : Nat, 1 + a % 4 = (N : Int) := ⟨(1 + a % 4).toNat, by omega⟩
  obtain ⟨D, hD, hDQ⟩ : ∃ D : Nat, (∀ v : Int, (b % 4 = 0 → v = 1) → (b % 4 = 1 → v = 2) → (b % 4 = 2 → v = 4) → (b % 4 = 3 → v = 8) → v = (D : Int)) ∧ (D = 1 ∨ D = 2 ∨ D = 4 ∨ D = 8) := depthQ_is b
  have hN1 : 1 ≤ N ∧ N ≤ 4 := by omega
  have htm : a.tmod 4 = a % 4 := Int.tmod_eq_emod_of_nonneg hw.1.1
  have htn : b.tmod 4 = b % 4 := Int.tmod_eq_emod_of_nonneg hw.2.1
  have HTW := Lib.hid (fun (v1 v2 : Int) (w : World) (h1 : v1 = (N : Int)) (h2 : v2 = (D : Int)) => two_atQ v1 v2 N D boot w h1 h2 (by omega) h0)
  have HBG := Lib.hid (fun (x : CfgAt) (w : World) (hx : CfgIn w w.heap.size (cfgQ N D boot) x) => begin_atQ N D boot x w hx hN1 hDQ h0)
  skip
  have HHN := Lib.hid hN; have HHD := Lib.hid hD; have HDQ := Lib.hid hDQ; have H0 := Lib.hid h0; have HAB := Lib.hid hw
  clear hN hD hDQ h0 hw
  go_enter Tryz.func8, Tryz.ntmps8
  go_wp2_with fail
  obtain ⟨w0, HW0⟩ : ∃ u, Hid (u = w.alloc (.cells #[.int .u8 a, .int .u8 b] 70)) := ⟨_, rfl⟩
  obtain ⟨hb, hhb⟩ : ∃ h, h = w.heap.size := ⟨_, rfl⟩
  rw [← HW0.out]
  simp only [← hhb]
  refine (wakesQ_b w0).mono ?_
  rintro e wv ⟨rfl, hbv⟩
  have hblk : w0.heap[hb]? = some (.cells #[.int .u8 a, .int .u8 b] 70 (0, 0)) := by rw [HW0.out, hhb]; exact heap_alloc_new _ _
  have hblv := (hbv.block hb (Array.getElem?_eq_some_iff.1 hblk).1).trans hblk
  have k0 : wv.cell? ⟨hb, 0, none⟩ = some (.int .u8 a) := cell_blk hblv rfl
  have k1 : wv.cell? ⟨hb, 1, none⟩ = some (.int .u8 b) := cell_blk hblv rfl
  have HBV : Hid (Below w.heap.size w wv) := Lib.hid (by
    have hb0 : Below w.heap.size w w0 := by rw [HW0.out]; exact (Below.refl _ _).alloc (Nat.le_refl _) _
    exact hb0.trans (hbv.mono hb0.size))
  clear hbv hblk hblv hhb
  go_wp2_with fail
  refine (HTW.out _ _ wv ?_ ?_).mono ?_
  · have := HHN.out; have := HAB.out; rw [IntWalk.wrap64_in a (by omega), htm, IntWalk.wrap64_in _ (by omega)]; omega
  · have := HAB.out
    refine HHD.out _ ?_ ?_ ?_ ?_
    all_goals (intro hz; rw [hz]; first | exact (IntWalk.wrap64_in 1 (by decide)) | exact (IntWalk.wrap64_in 2 (by decide)) | exact (IntWalk.wrap64_in 4 (by decide)) | exact (IntWalk.wrap64_in 8 (by decide)))
  rintro e W ⟨x, rfl, hx, hb1⟩
  have HXW := Lib.hid hx
  have HBW := Lib.hid (HBV.out.trans (hb1.mono HBV.out.size))
  clear hb1 hx k0 k1 htm htn
  go_wp2_with fail
  refine (HBG.out x W HXW.out).mono ?_
  rintro e v2 ⟨pb, mb, rb, bb, br, rfl, hp0⟩
  have HP0 := Lib.hid hp0
  clear hp0
  obtain ⟨b', o, hca, hch⟩ := chanQ HP0.out.cfg HP0.out.wf
  have h4 : v2.cell? ⟨b', o + 4, none⟩ = some (.int .i64 (D : Int)) := by have q := (hch v2 HP0.out.below).2.1; simpa using q
  have h1 : v2.cell? ⟨pb, 1, none⟩ = some (.slice (some ⟨b', o, none⟩) 1 x.cc) := by rw [← hca]; exact cell_blk HP0.out.blk rfl
  have hD8 : 1 ≤ D ∧ D ≤ 8 := by have := HDQ.out; omega
  have n20 : IntKind.i64.wrap (20 * (D : Int)) = 20 * (D : Int) := IntWalk.i64_in _ (by omega)
  have n21 : RowKit.wrap64 (20 * (D : Int)) = 20 * (D : Int) := IntWalk.wrap64_in _ (by omega)
  clear hca hch
  go_wp2
  clear h1 h4
  go_loopw [33] (fun ix wr => ∃ (k : Nat) (P : Ql) (sq rq : Nat), k ≤ 20 * D ∧ ix = .int .i64 k ∧ RoomS N D boot P k ∧ PQAt W wr (fun k => k = pb) pb mb rb bb br N D boot x k P sq rq) (fun ix _ => 20 * D - (intOf ix).toNat)
  case atStart => exact ⟨0, _, 0, 0, Nat.zero_le _, rfl, ⟨0, q_zero hN1.1 (by omega) HDQ.out H0.out, rfl, .inr ⟨by show (0 : Int) ≤ 8 * 0 + 0; omega, by show (0 : Int) < D; omega⟩⟩, HP0.out⟩
  case round =>
    obtain ⟨k, P, sq, rq, hk, rfl, hinv, hp⟩ := hrel
    have HINV := Lib.hid hinv; have HP := Lib.hid hp
    clear hinv hp
    by_cases hkl : k < 20 * D
    · have hkl2 : (k : Int) < 20 * (D : Int) := by omega
      go_wp2_with fail
      refine (send_b HP.out (by omega) (playS_ok HINV.out.inv').1).mono ?_
      rintro e w5 ⟨rfl, sq', hp5, ho5⟩
      have HP5 := Lib.hid hp5
      clear hp5 ho5
      go_wp2
      go_roundw
      case rel => exact ⟨k + 1, _, sq', rq, by omega, by go_num, by have q := HINV.out.step hN1.2; simpa using q, HP5.out⟩
      case measure => simp [intOf]; omega
    · obtain rfl : k = 20 * D := by omega
      have hkl2 : ¬ (((20 * D : Nat) : Int) < 20 * (D : Int)) := by omega
      have hkl3 : ¬ (20 * (D : Int) < 20 * (D : Int)) := by omega
      obtain ⟨f1, f2⟩ := HINV.out.full hN1.2 (by push_cast; omega)
      have h12 : wr.cell? ⟨pb, 12, none⟩ = some (.int .i64 (D : Int)) := by rw [← f1]; exact cell_blk HP.out.blk rfl
      have h13 : wr.cell? ⟨pb, 13, none⟩ = some (.int .i64 0) := by rw [← f2]; exact cell_blk HP.out.blk rfl
      have HR := Lib.hid (HINV.out.turn hN1.2 (by push_cast; omega))
      clear f1 f2 hkl
      go_wp2
      clear h12 h13 hkl2 hkl3
      go_loopw [54] (fun ix ws => ∃ (k : Nat) (P : Ql) (sq rq : Nat), k ≤ 20 * D ∧ ix = .int .i64 k ∧ RoomR N D boot P k ∧ PQAt W ws (fun k => k = pb) pb mb rb bb br N D boot x (20 * D + k) P sq rq) (fun ix _ => 20 * D - (intOf ix).toNat)
      case atStart => exact ⟨0, _, sq, rq, Nat.zero_le _, rfl, HR.out, HP.out⟩
      case round =>
        clear HINV HP HR
        obtain ⟨k, P, sq, rq, hk, rfl, hinv, hp⟩ := hrel
        have HINV := Lib.hid hinv; have HP := Lib.hid hp
        clear hinv hp
        by_cases hkl : k < 20 * D
        · have hkl2 : (k : Int) < 20 * (D : Int) := by omega
          go_wp2_with fail
          refine (recv_b HP.out (by omega) (playQ_ok HINV.out.inv').1).mono ?_
          rintro e w5 ⟨rfl, rq', hp5, ho5⟩
          have HP5 := Lib.hid hp5
          clear hp5 ho5
          go_wp2
          go_roundw
          case rel => exact ⟨k + 1, _, sq, rq', by omega, by go_num, by have q := HINV.out.step hN1.2; simpa using q, HP5.out⟩
          case measure => simp [intOf]; omega
        · obtain rfl : k = 20 * D := by omega
          have hkl2 : ¬ (((20 * D : Nat) : Int) < 20 * (D : Int)) := by omega
          have hkl3 : ¬ (20 * (D : Int) < 20 * (D : Int)) := by omega
          obtain ⟨f1, f2⟩ := HINV.out.empty hN1.2 (by push_cast; omega)
          have h12 : wr.cell? ⟨pb, 12, none⟩ = some (.int .i64 (D : Int)) := by rw [← f1]; exact cell_blk HP.out.blk rfl
          have h13 : wr.cell? ⟨pb, 13, none⟩ = some (.int .i64 (D : Int)) := by rw [← f2]; exact cell_blk HP.out.blk rfl
          clear f1 f2 hkl
          go_wp2
          go_ret
          exact ⟨rfl, HBW.out.trans (HP.out.below.mono HBW.out.size)⟩
end Go.Proofs.YtfdgokkngejbhaaGreat
