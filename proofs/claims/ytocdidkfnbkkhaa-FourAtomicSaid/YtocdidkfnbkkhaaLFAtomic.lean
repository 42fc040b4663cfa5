/- FourAtomic answers true. No condition but those in the statements. -/
import Derived.Test.YtocdidkfnbkkhaaFRow
import Derived.Test.YtocdidkfnbkkhaaGH
import Derived.BigQuiet
import Derived.IntWalk
import Derived.Deep.MidRow
import Derived.Deep.Upon
import Derived.BigRegion
import Derived.Shelf.Abstract
import Derived.Deep.RegionHeld3
namespace Go.Proofs.Ytocdidkfnbkkhaa
open Go.RowKit Go.Sort
set_option linter.unusedVariables false
set_option linter.unusedSimpArgs false
set_option linter.unusedVariables false
set_option linter.unusedSimpArgs false

open Go.Proofs.Ytocdidkfnbkkhaa.Simp
set_option maxRecDepth 100000
set_option maxHeartbeats 6400000
theorem latomic_b (wd : Int) (bs : List Bool) (A : Option Addr) (cap : Nat) (w : World) (hw : 0 ≤ wd ∧ wd ≤ 255) (hc : bs.length ≤ cap) (hm : cap ≤ maxLen) (hnil : A = none → bs = []) (hrow : BoolRowIn w w.heap.size A bs) : Calls Try.prog 3 #[.int .u8 wd, .slice A bs.length cap] w fun e w' => e = .returned (.bool true) ∧ Below w.heap.size w w' := by
  obtain ⟨N, hN⟩ : ∃ N : Nat, 1 + wd % 4 = (N : Int) := ⟨(1 + wd % 4).toNat, by omega⟩
  have hN1 : 1 ≤ N ∧ N ≤ 4 := by omega
  have hF : FrOf (cfg2 N 5) 0 (fr2 N 5) := frOf2 hN1.1 (by omega) (by omega) (by omega)
  have hwf : CfgWf (cfg2 N 5) := cfg2_wf (i64_of (by omega)) (i64_of (by omega))
  have hfw := cfg2_few N 5
  have hsz := cfg2_size (n := N) (per := 5) (by omega) (by omega) (by omega) (by omega)
  have HTW := Lib.hid (fun (v : Int) (w : World) (hv : v = (N : Int)) => two_at v N 5 w hv (by omega) (by omega))
  have HMN := Lib.hid (fun (v : Int) (w : World) (hv : v = ((13 + 4 * N : Nat) : Int)) => memNew_at (13 + 4 * N) v hv w (by omega))
  have htm : wd.tmod 4 = wd % 4 := Int.tmod_eq_emod_of_nonneg hw.1
  have HROW := Lib.hid hrow
  have HHN := Lib.hid hN
  have HF := Lib.hid hF; have HWF := Lib.hid hwf; have HFW := Lib.hid hfw; have HSZ0 := Lib.hid hsz
  have wd0 := hw.1
  have wd1 := hw.2
  clear hF hwf hfw hsz hrow hN hw
  by_cases hl : 600 < bs.length
  · have hl2 : (600 : Int) < (bs.length : Int) := by omega
    clear htm
    go_enter Try.func3, Try.ntmps3
    go_wp2_with fail
    refine (wakes_b w).mono ?_
    rintro e wv ⟨rfl, hbv⟩
    go_wp2
    go_ret
    exact ⟨rfl, hbv⟩
  have hl2 : ¬ ((600 : Int) < (bs.length : Int)) := by omega
  go_enter Try.func3, Try.ntmps3
  go_wp2_with fail
  refine (wakes_b w).mono ?_
  rintro e wv ⟨rfl, hbv⟩
  have HBV := Lib.hid hbv
  clear hbv
  go_wp2_with fail
  refine (HTW.out _ wv ?_).mono ?_
  · have := HHN.out; (try rw [htm]); omega
  rintro e w1 ⟨x, rfl, hx, hb1⟩
  clear htm
  obtain ⟨W, HW, hB, hWs, bx⟩ := one_cbox w1 (cfg2 N 5) x 31
  have hxW := hx.later hB
  have hb1w := HBV.out.trans (hb1.mono HBV.out.size)
  have HBW := Lib.hid (hb1w.trans (hB.mono hb1w.size))
  have HXW := Lib.hid hxW
  have HSZ : Hid (Calls Try.prog 9 #[.agg #[.slice x.pa 2 x.pc, .slice x.ca 1 x.cc, .int .i64 1, .slice x.aa 1 x.ac, .int .i64 1, .slice x.ba 1 x.bc]] W fun e w' => e = .returned (.int .i64 (13 + 4 * (N : Int))) ∧ Below W.heap.size W w') := Lib.hid (by
    have q := rsize_b (cfg2 N 5) x W hxW HWF.out HFW.out
    rw [HSZ0.out] at q
    exact q)
  have HBX : Hid (∀ W' : World, Below W.heap.size W W' → W'.cell? ⟨w1.heap.size, 0, none⟩ = some (.slice x.pa 2 x.pc) ∧ W'.cell? ⟨w1.heap.size, 1, none⟩ = some (.slice x.ca 1 x.cc) ∧ W'.cell? ⟨w1.heap.size, 2, none⟩ = some (.int .i64 1) ∧ W'.cell? ⟨w1.heap.size, 3, none⟩ = some (.slice x.aa 1 x.ac) ∧ W'.cell? ⟨w1.heap.size, 4, none⟩ = some (.int .i64 1) ∧ W'.cell? ⟨w1.heap.size, 5, none⟩ = some (.slice x.ba 1 x.bc)) := Lib.hid (fun W' h => bx W' h)
  obtain ⟨c0, c1, c2, c3, c4, c5⟩ := HBX.out W (Below.refl _ _)
  have HW2 : Hid (W = w1.alloc (.cells #[.slice x.pa 2 x.pc, .slice x.ca 1 x.cc, .int .i64 1, .slice x.aa 1 x.ac, .int .i64 1, .slice x.ba 1 x.bc] 31)) := HW
  clear hb1 hB hx hxW hWs bx HW hb1w
  go_wp2_with (rw [← HW2.out])
  refine HSZ.out.mono ?_
  rintro e w2 ⟨rfl, hb2⟩
  have HB2 := Lib.hid hb2
  clear hb2 c0 c1 c2 c3 c4 c5
  go_wp2_with fail
  refine (HMN.out _ w2 ?_).mono ?_
  · first | rfl | (push_cast; rfl) | omega
  rintro e w3 ⟨mb, rb, rfl, hm1, hm2, hmem, hb3⟩
  have HD0 : Hid (Duo W w3 W.heap.size (fun _ => False) mb rb (fr2 N 5) (List.replicate (13 + 4 * N) 0) none none) := Lib.hid (Duo.first (HB2.out.trans (hb3.mono HB2.out.size)) hmem ⟨by have := HB2.out.size; omega, by have := HB2.out.size; omega, Nat.le_refl _⟩ (by
    have q := HF.out.fin
    rw [HSZ0.out] at q
    rw [List.length_replicate]
    rwa [show (13 + 4 * (N : Int)).toNat = 13 + 4 * N by omega] at q) (w32_zero _) (fun _ h => h.elim))
  have HMB : Hid (W.heap.size ≤ mb ∧ W.heap.size ≤ rb) := Lib.hid ⟨by have := HB2.out.size; omega, by have := HB2.out.size; omega⟩
  clear hm1 hm2 hmem hb3
  obtain ⟨c0, c1, c2, c3, c4, c5⟩ := HBX.out w3 HD0.out.below
  obtain ⟨pb, hpb⟩ : ∃ p, p = w3.heap.size := ⟨_, rfl⟩
  obtain ⟨w4, HW4⟩ : ∃ u, Hid (u = w3.alloc (.cells #[.slice x.pa 2 x.pc, .slice x.ca 1 x.cc, .int .i64 1, .slice x.aa 1 x.ac, .int .i64 1, .slice x.ba 1 x.bc, .pointer (some ⟨mb, 0, none⟩), .pointer none, .pointer none, .int .u32 0, .int .u32 0, .int .u32 0, .int .u32 0, .int .u32 0, .int .u32 0, .int .i64 0, .int .i64 0] 43)) := ⟨_, rfl⟩
  have HP4 : Hid (PAt W w4 (fun k => k = pb) pb mb rb N 5 x 0 ⟨List.replicate (13 + 4 * N) 0, none, none, 0, 0, 0, 0, 0, 0, 0, 0⟩ 0 0) := Lib.hid (by
    have hB4 : w4.heap[pb]? = some (.cells #[.slice x.pa 2 x.pc, .slice x.ca 1 x.cc, .int .i64 1, .slice x.aa 1 x.ac, .int .i64 1, .slice x.ba 1 x.bc, .pointer (some ⟨mb, 0, none⟩), .pointer none, .pointer none, .int .u32 0, .int .u32 0, .int .u32 0, .int .u32 0, .int .u32 0, .int .u32 0, .int .i64 0, .int .i64 0] 43 (0, 0)) := by rw [HW4.out, hpb]; exact heap_alloc_new _ _
    have hl4 := (Array.getElem?_eq_some_iff.1 hB4).1
    refine ⟨hB4, HD0.out.only (T := fun _ => False) (by rw [HW4.out]; exact (Only.refl _ _).alloc _) (fun _ _ h => h.elim) (fun k e => .inr ⟨by omega, by omega⟩), ⟨rfl, by have := HD0.out.below.size; omega⟩, HXW.out, ⟨hN1.1, hN1.2, by omega, by omega⟩, ?_⟩
    exact ⟨Int.le_refl _, Int.le_refl _, Int.le_refl _, Int.le_refl _, Int.le_refl _, Int.le_refl _⟩)
  have HPB := Lib.hid hpb
  clear hpb
  go_wp2_with (first | (simp only [← HPB.out]; rw [← HW4.out]))
  go_loopw [39] (fun ix wr => ∃ (k : Nat) (P : Pl) (wq rq : Nat), k ≤ bs.length ∧ ix = .int .i64 k ∧ PInv N P ∧ PAt W wr (fun k => k = pb) pb mb rb N 5 x (2 * k) P wq rq) (fun ix _ => bs.length - (intOf ix).toNat)
  case atStart => exact ⟨0, _, 0, 0, Nat.zero_le _, rfl, play_zero hN1.1 (by omega), HP4.out⟩
  case round =>
    obtain ⟨k, P, wq, rq, hk, rfl, hinv, hp⟩ := hrel
    by_cases hkl : k < bs.length
    · have hbw := HBW.out.trans (hp.duo.below.mono HBW.out.size)
      obtain ⟨b, o, rfl, -, hcell⟩ := HROW.out.at_ hkl
      have ca := hcell wr hbw
      obtain ⟨a, ha⟩ : ∃ a, bs.getD k false = a := ⟨_, rfl⟩
      rw [ha] at ca
      have HINV := Lib.hid hinv; have HP := Lib.hid hp
      clear ha hcell hbw hinv hp
      cases a
      · go_wp2_with fail
        refine (read_b (k : Int) (by omega) HP.out (by omega) (playR_ok HINV.out (k : Int)).1).mono ?_
        rintro e w5 ⟨rfl, rq', hp5, ho5⟩
        have HP5 := Lib.hid hp5
        clear hp5 ho5 ca
        go_wp2
        go_roundw
        case rel => exact ⟨k + 1, _, wq, rq', by omega, by go_num, (playR_ok HINV.out (k : Int)).2.1, by rw [show 2 * (k + 1) = 2 * k + 1 + 1 by omega]; exact HP5.out.more⟩
        case measure => simp [intOf]; omega
      · go_wp2_with fail
        refine (write_b (k : Int) HP.out (by omega)).mono ?_
        rintro e w5 ⟨rfl, wq', hp5, ho5⟩
        rw [(playW_ok HINV.out (k : Int)).1]
        have HP5 := Lib.hid hp5
        clear hp5 ho5 ca
        go_wp2
        go_roundw
        case rel => exact ⟨k + 1, _, wq', rq, by omega, by go_num, (playW_ok HINV.out (k : Int)).2.1, by rw [show 2 * (k + 1) = 2 * k + 2 by omega]; exact HP5.out⟩
        case measure => simp [intOf]; omega
    · have HP := Lib.hid hp
      clear hinv hp
      go_wp2
      go_ret
      exact ⟨rfl, HBW.out.trans (HP.out.duo.below.mono HBW.out.size)⟩
end Go.Proofs.Ytocdidkfnbkkhaa
