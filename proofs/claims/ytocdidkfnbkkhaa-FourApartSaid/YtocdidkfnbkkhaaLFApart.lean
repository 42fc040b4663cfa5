/- FourApart answers true. No condition but those in the statements. -/
import Derived.Test.YtocdidkfnbkkhaaFAp
import Derived.BigQuiet
import Derived.IntWalk
import Derived.Deep.MidRow
import Derived.Deep.Upon
import Derived.BigRegion
import Derived.Deep.OwnRows
import Derived.Shelf.Abstract
import Derived.Deep.RegionHeld3
namespace Go.Proofs.Ytocdidkfnbkkhaa
open Go.RowKit Go.Sort
set_option linter.unusedVariables false
set_option linter.unusedSimpArgs false
set_option linter.unusedVariables false
set_option linter.unusedSimpArgs false

open Go.Proofs.Ytocdidkfnbkkhaa.Simp
set_option maxRecDepth 100000
set_option maxHeartbeats 12800000
theorem lapart11_b (wd : Int) (bs : List Bool) (A : Option Addr) (cap : Nat) (w : World) (hw : 0 ≤ wd ∧ wd ≤ 255) (hc : bs.length ≤ cap) (hm : cap ≤ maxLen) (hnil : A = none → bs = []) (hrow : BoolRowIn w w.heap.size A bs) : Calls Try.prog 5 #[.int .u8 wd, .slice A bs.length cap] w fun e w' => e = .returned (.bool true) ∧ Below w.heap.size w w' := by
  obtain ⟨N, hN⟩ : ∃ N : Nat, 1 + wd % 4 = (N : Int) := ⟨(1 + wd % 4).toNat, by omega⟩
  have hN1 : 1 ≤ N ∧ N ≤ 4 := by omega
  have hF : FrOf (cfg2 N 5) 0 (fr2 N 5) := frOf2 hN1.1 (by omega) (by omega) (by omega)
  have hwf : CfgWf (cfg2 N 5) := cfg2_wf (i64_of (by omega)) (i64_of (by omega))
  have hfw := cfg2_few N 5
  have hsz := cfg2_size (n := N) (per := 5) (by omega) (by omega) (by omega) (by omega)
  have HTW := Lib.hid (fun (v : Int) (w : World) (hv : v = (N : Int)) => two_at v N 5 w hv (by omega) (by omega))
  have HMN := Lib.hid (fun (v : Int) (w : World) (hv : v = ((13 + 4 * N : Nat) : Int)) => memNew_at (13 + 4 * N) v hv w (by omega))
  have htm : wd.tmod 4 = wd % 4 := Int.tmod_eq_emod_of_nonneg hw.1
  have HROW := Lib.hid hrow
  have HHN := Lib.hid hN
  have HF := Lib.hid hF; have HWF := Lib.hid hwf; have HFW := Lib.hid hfw; have HSZ0 := Lib.hid hsz
  have wd0 := hw.1
  have wd1 := hw.2
  clear hF hwf hfw hsz hrow hN hw
  by_cases hl : 600 < bs.length
  · have hl2 : (600 : Int) < (bs.length : Int) := by omega
    clear htm
    go_enter Try.func5, Try.ntmps5
    go_wp2_with fail
    refine (wakes_b w).mono ?_
    rintro e wv ⟨rfl, hbv⟩
    go_wp2
    go_ret
    exact ⟨rfl, hbv⟩
  have hl2 : ¬ ((600 : Int) < (bs.length : Int)) := by omega
  go_enter Try.func5, Try.ntmps5
  go_wp2_with fail
  refine (wakes_b w).mono ?_
  rintro e wv ⟨rfl, hbv⟩
  have HBV := Lib.hid hbv
  clear hbv
  go_wp2_with fail
  refine (HTW.out _ wv ?_).mono ?_
  · have := HHN.out; (try rw [htm]); omega
  rintro e w1 ⟨x, rfl, hx, hb1⟩
  clear htm
  obtain ⟨W, HW, hB, hWs, bx⟩ := one_cbox w1 (cfg2 N 5) x 31
  have hxW := hx.later hB
  have hb1w := HBV.out.trans (hb1.mono HBV.out.size)
  have HBW := Lib.hid (hb1w.trans (hB.mono hb1w.size))
  have HXW := Lib.hid hxW
  have HSZ : Hid (Calls Try.prog 9 #[.agg #[.slice x.pa 2 x.pc, .slice x.ca 1 x.cc, .int .i64 1, .slice x.aa 1 x.ac, .int .i64 1, .slice x.ba 1 x.bc]] W fun e w' => e = .returned (.int .i64 (13 + 4 * (N : Int))) ∧ Below W.heap.size W w') := Lib.hid (by
    have q := rsize_b (cfg2 N 5) x W hxW HWF.out HFW.out
    rw [HSZ0.out] at q
    exact q)
  have HBX : Hid (∀ W' : World, Below W.heap.size W W' → W'.cell? ⟨w1.heap.size, 0, none⟩ = some (.slice x.pa 2 x.pc) ∧ W'.cell? ⟨w1.heap.size, 1, none⟩ = some (.slice x.ca 1 x.cc) ∧ W'.cell? ⟨w1.heap.size, 2, none⟩ = some (.int .i64 1) ∧ W'.cell? ⟨w1.heap.size, 3, none⟩ = some (.slice x.aa 1 x.ac) ∧ W'.cell? ⟨w1.heap.size, 4, none⟩ = some (.int .i64 1) ∧ W'.cell? ⟨w1.heap.size, 5, none⟩ = some (.slice x.ba 1 x.bc)) := Lib.hid (fun W' h => bx W' h)
  obtain ⟨c0, c1, c2, c3, c4, c5⟩ := HBX.out W (Below.refl _ _)
  have HW2 : Hid (W = w1.alloc (.cells #[.slice x.pa 2 x.pc, .slice x.ca 1 x.cc, .int .i64 1, .slice x.aa 1 x.ac, .int .i64 1, .slice x.ba 1 x.bc] 31)) := HW
  clear hb1 hB hx hxW hWs bx HW hb1w
  go_wp2_with (rw [← HW2.out])
  refine HSZ.out.mono ?_
  rintro e w2 ⟨rfl, hb2⟩
  have HB2 := Lib.hid hb2
  clear hb2 c0 c1 c2 c3 c4 c5
  go_wp2_with fail
  refine (HMN.out _ w2 ?_).mono ?_
  · first | rfl | (push_cast; rfl) | omega
  rintro e w3 ⟨mb, rb, rfl, hm1, hm2, hmem, hb3⟩
  have HD0 : Hid (Duo W w3 W.heap.size (fun _ => False) mb rb (fr2 N 5) (List.replicate (13 + 4 * N) 0) none none) := Lib.hid (Duo.first (HB2.out.trans (hb3.mono HB2.out.size)) hmem ⟨by have := HB2.out.size; omega, by have := HB2.out.size; omega, Nat.le_refl _⟩ (by
    have q := HF.out.fin
    rw [HSZ0.out] at q
    rw [List.length_replicate]
    rwa [show (13 + 4 * (N : Int)).toNat = 13 + 4 * N by omega] at q) (w32_zero _) (fun _ h => h.elim))
  have HMB : Hid (W.heap.size ≤ mb ∧ W.heap.size ≤ rb) := Lib.hid ⟨by have := HB2.out.size; omega, by have := HB2.out.size; omega⟩
  clear hm1 hm2 hmem hb3
  obtain ⟨i0, hi, hz0, hz1, hz2⟩ := info_parts Try.infoW
  have hmk := fun (w : World) => run_make_row (P := Try.prog) 46 41 i0 (.int .u32 0) Try.underlying46 hi hz0 hz1 rfl .i64 .i64 N (by rw [hz2]; omega) (by omega) w
  obtain ⟨b, o, hca, hch⟩ := chan2 HXW.out HWF.out
  have HCA := Lib.hid hca
  have HCH := Lib.hid hch
  have HBY : Hid (∀ W' : World, Below W.heap.size W W' → W'.cell? ⟨w1.heap.size, 0, none⟩ = some (.slice x.pa 2 x.pc) ∧ W'.cell? ⟨w1.heap.size, 1, none⟩ = some (.slice (some ⟨b, o, none⟩) 1 x.cc) ∧ W'.cell? ⟨w1.heap.size, 2, none⟩ = some (.int .i64 1) ∧ W'.cell? ⟨w1.heap.size, 3, none⟩ = some (.slice x.aa 1 x.ac) ∧ W'.cell? ⟨w1.heap.size, 4, none⟩ = some (.int .i64 1) ∧ W'.cell? ⟨w1.heap.size, 5, none⟩ = some (.slice x.ba 1 x.bc)) := Lib.hid (by have q := HBX.out; rw [hca] at q; exact q)
  have HNW : Hid (∀ wz : World, Below W.heap.size W wz → ∀ (db : Nat), WordsAt wz db (List.replicate N 0) → Calls Try.prog 12 #[.agg #[.slice x.pa 2 x.pc, .slice (some ⟨b, o, none⟩) 1 x.cc, .int .i64 1, .slice x.aa 1 x.ac, .int .i64 1, .slice x.ba 1 x.bc], .int .i64 0, .slice (some ⟨db, 0, none⟩) N N] wz (GivesNewW wz (fr2 N 5) (List.replicate N 0))) := Lib.hid (fun wz hbz db hwd => by
    have q := newW_b (cfg2 N 5) x 0 (fr2 N 5) (List.replicate N 0) db 0 N wz (HXW.out.later hbz) HWF.out HFW.out HF.out (fun i y hy => by
      have hi : i < N := by have := (List.getElem?_eq_some_iff.1 hy).1; simpa using this
      have hy2 : y = 0 := by simp [List.getElem?_replicate, hi] at hy; exact hy.symm
      have := hwd.cell (k := i) (by simpa using hi)
      rw [Nat.zero_add, this, hy2]
      simp [List.getD_eq_getElem?_getD, List.getElem?_replicate, hi]) (by rw [List.length_replicate]; exact ⟨hN1.1, Nat.le_refl _⟩)
    rw [List.length_replicate] at q
    rw [← HCA.out]
    exact q)
  have HNR : Hid (∀ wz : World, Below W.heap.size W wz → Calls Try.prog 14 #[.agg #[.slice x.pa 2 x.pc, .slice (some ⟨b, o, none⟩) 1 x.cc, .int .i64 1, .slice x.aa 1 x.ac, .int .i64 1, .slice x.ba 1 x.bc], .int .i64 0] wz (GivesNewR wz (fr2 N 5))) := Lib.hid (fun wz hbz => by
    have q := newR_b (cfg2 N 5) x 0 (fr2 N 5) wz (HXW.out.later hbz) HWF.out HFW.out HF.out
    rw [← HCA.out]
    exact q)
  have y1 := (HBY.out w3 HD0.out.below).2.1
  have y3 := hch w3 HD0.out.below
  clear hca hch
  go_wp2
  clear y1 y3
  go_loopw [8, 9, 10, 11, 12, 47] (fun v8 v9 v10 v11 v12 ix wr => ∃ (k : Nat) (ow or_ : Option (Nat × FS)) (ws : List Int) (wn : Int) (wp wi : Nat) (rn : Int) (rp ri : Nat) (fl rv lf : Int), k ≤ bs.length ∧ ix = .int .i64 k ∧ v8 = pvO ow ∧ v9 = pvO or_ ∧ v10 = .int .i64 fl ∧ v11 = .int .i64 rv ∧ v12 = .int .i64 lf ∧ Ap N k ws ow or_ wn wp wi rn rp ri fl rv lf ∧ Duo W wr W.heap.size (fun _ => False) mb rb (fr2 N 5) ws ow or_) (fun _ _ _ _ _ ix _ => bs.length - (intOf ix).toNat)
  case atStart => exact ⟨0, none, none, _, _, _, _, _, _, _, _, _, _, Nat.zero_le _, rfl, rfl, rfl, rfl, rfl, rfl, Ap.zero hN1.1, HD0.out⟩
  case round =>
    obtain ⟨k, ow, or_, ws, wn, wp, wi, rn, rp, ri, fl, rv, lf, hk, rfl, h8, h9, rfl, rfl, rfl, hap, hdu⟩ := hrel
    by_cases hkl : k < bs.length
    · have hbw := HBW.out.trans (hdu.below.mono HBW.out.size)
      obtain ⟨ab, ao, rfl, -, hcell⟩ := HROW.out.at_ hkl
      have ca := hcell wr hbw
      obtain ⟨a, ha⟩ : ∃ a, bs.getD k false = a := ⟨_, rfl⟩
      rw [ha] at ca
      have lfl := hap.lf.2.2.1
      have lfh := hap.lf.2.2.2
      have HDR := Lib.hid hdu
      have HAR := Lib.hid hap
      clear ha hcell hbw hdu hap
      cases a
      · cases or_ with
        | none =>
          have g9 : u9 = .pointer none := h9
          subst g9
          have g8 : u8 = pvO ow := h8
          obtain ⟨c0, c1, c2, c3, c4, c5⟩ := HBY.out wr HDR.out.below
          clear h8 h9
          go_wp2_with fail
          refine (HNR.out wr HDR.out.below).mono ?_
          rintro e w5 ⟨rq, Sq, rfl, hat5, hS5, hb5⟩
          have HDU := Lib.hid (HDR.out.newR hat5 hS5 hb5 (show W32 [] from fun a => by unfold rd; simp))
          have HAP := Lib.hid (HAR.out.newR rq)
          clear hat5 hS5 hb5 c0 c1 c2 c3 c4 c5 ca
          subst g8
          go_wp2_with fail
          refine (HDU.out.stR (k : Int) (by omega)).mono ?_
          rintro e w6 ⟨sa, sc, sn, dn, cd, vl, mk, st, bf, s3, ws3, rfl, ⟨d, e0, e1, -, -, -, -, e4, -, -, -⟩, hd6, -, -, -⟩
          obtain ⟨rn', rp', ri', hq⟩ := HAP.out.read' e0
          rw [← e1, ← e4] at hq
          have HAQ := Lib.hid hq
          have HD6 := Lib.hid hd6
          clear hq hd6 e0 e1 e4
          cases dn
          · by_cases hb : 0 < bf
            · by_cases hf : 0 < fl
              · have hap := HAQ.out (some (rq, s3)) (bf) (by intro h; first | exact ⟨rfl, rfl⟩ | cases h) (by intro h; first | rfl | cases h) (by intro h h2; first | rfl | omega | cases h) (by intro h h2; first | rfl | omega | cases h)
                have b1 : decide (0 < bf) = true := decide_eq_true hb
                have b3 : decide (0 < fl) = true := decide_eq_true hf
                have b4 : (fl == bf) = false := beq_false_of_ne (hap.ok hf)
                have HAPX := Lib.hid hap
                clear hap
                go_wp2
                go_roundw
                case rel => exact ⟨k + 1, ow, (some (rq, s3)), ws3, _, _, _, _, _, _, fl, (bf), lf, by omega, by go_num, by rfl, rfl, by go_num, by go_num, by go_num, HAPX.out, HD6.out.later ((Below.refl _ _).alloc (Nat.le_refl _) _)⟩
                case measure => simp [intOf]; omega
              · have hap := HAQ.out (some (rq, s3)) (bf) (by intro h; first | exact ⟨rfl, rfl⟩ | cases h) (by intro h; first | rfl | cases h) (by intro h h2; first | rfl | omega | cases h) (by intro h h2; first | rfl | omega | cases h)
                have b1 : decide (0 < bf) = true := decide_eq_true hb
                have b3 : decide (0 < fl) = false := decide_eq_false hf
                have HAPX := Lib.hid hap
                clear hap
                go_wp2
                go_roundw
                case rel => exact ⟨k + 1, ow, (some (rq, s3)), ws3, _, _, _, _, _, _, fl, (bf), lf, by omega, by go_num, by rfl, rfl, by go_num, by go_num, by go_num, HAPX.out, HD6.out.later ((Below.refl _ _).alloc (Nat.le_refl _) _)⟩
                case measure => simp [intOf]; omega
            · by_cases hf : 0 < fl
              · have hap := HAQ.out (some (rq, s3)) (rv) (by intro h; first | exact ⟨rfl, rfl⟩ | cases h) (by intro h; first | rfl | cases h) (by intro h h2; first | rfl | omega | cases h) (by intro h h2; first | rfl | omega | cases h)
                have b1 : decide (0 < bf) = false := decide_eq_false hb
                have b3 : decide (0 < fl) = true := decide_eq_true hf
                have b4 : (fl == rv) = false := beq_false_of_ne (hap.ok hf)
                have HAPX := Lib.hid hap
                clear hap
                go_wp2
                go_roundw
                case rel => exact ⟨k + 1, ow, (some (rq, s3)), ws3, _, _, _, _, _, _, fl, (rv), lf, by omega, by go_num, by rfl, rfl, by go_num, by go_num, by go_num, HAPX.out, HD6.out.later ((Below.refl _ _).alloc (Nat.le_refl _) _)⟩
                case measure => simp [intOf]; omega
              · have hap := HAQ.out (some (rq, s3)) (rv) (by intro h; first | exact ⟨rfl, rfl⟩ | cases h) (by intro h; first | rfl | cases h) (by intro h h2; first | rfl | omega | cases h) (by intro h h2; first | rfl | omega | cases h)
                have b1 : decide (0 < bf) = false := decide_eq_false hb
                have b3 : decide (0 < fl) = false := decide_eq_false hf
                have HAPX := Lib.hid hap
                clear hap
                go_wp2
                go_roundw
                case rel => exact ⟨k + 1, ow, (some (rq, s3)), ws3, _, _, _, _, _, _, fl, (rv), lf, by omega, by go_num, by rfl, rfl, by go_num, by go_num, by go_num, HAPX.out, HD6.out.later ((Below.refl _ _).alloc (Nat.le_refl _) _)⟩
                case measure => simp [intOf]; omega
          · by_cases hb : 0 < bf
            · by_cases hf : 0 < fl
              · have hap := HAQ.out none (0) (by intro h; first | exact ⟨rfl, rfl⟩ | cases h) (by intro h; first | rfl | cases h) (by intro h h2; first | rfl | omega | cases h) (by intro h h2; first | rfl | omega | cases h)
                have b1 : decide (0 < bf) = true := decide_eq_true hb
                have b3 : decide (0 < fl) = true := decide_eq_true hf
                have b4 : (fl == 0) = false := beq_false_of_ne (hap.ok hf)
                have HAPX := Lib.hid hap
                clear hap
                go_wp2
                go_roundw
                case rel => exact ⟨k + 1, ow, none, ws3, _, _, _, _, _, _, fl, (0), lf, by omega, by go_num, by rfl, rfl, by go_num, by go_num, by go_num, HAPX.out, (HD6.out.later ((Below.refl _ _).alloc (Nat.le_refl _) _)).dropR⟩
                case measure => simp [intOf]; omega
              · have hap := HAQ.out none (0) (by intro h; first | exact ⟨rfl, rfl⟩ | cases h) (by intro h; first | rfl | cases h) (by intro h h2; first | rfl | omega | cases h) (by intro h h2; first | rfl | omega | cases h)
                have b1 : decide (0 < bf) = true := decide_eq_true hb
                have b3 : decide (0 < fl) = false := decide_eq_false hf
                have HAPX := Lib.hid hap
                clear hap
                go_wp2
                go_roundw
                case rel => exact ⟨k + 1, ow, none, ws3, _, _, _, _, _, _, fl, (0), lf, by omega, by go_num, by rfl, rfl, by go_num, by go_num, by go_num, HAPX.out, (HD6.out.later ((Below.refl _ _).alloc (Nat.le_refl _) _)).dropR⟩
                case measure => simp [intOf]; omega
            · by_cases hf : 0 < fl
              · have hap := HAQ.out none (0) (by intro h; first | exact ⟨rfl, rfl⟩ | cases h) (by intro h; first | rfl | cases h) (by intro h h2; first | rfl | omega | cases h) (by intro h h2; first | rfl | omega | cases h)
                have b1 : decide (0 < bf) = false := decide_eq_false hb
                have b3 : decide (0 < fl) = true := decide_eq_true hf
                have b4 : (fl == 0) = false := beq_false_of_ne (hap.ok hf)
                have HAPX := Lib.hid hap
                clear hap
                go_wp2
                go_roundw
                case rel => exact ⟨k + 1, ow, none, ws3, _, _, _, _, _, _, fl, (0), lf, by omega, by go_num, by rfl, rfl, by go_num, by go_num, by go_num, HAPX.out, (HD6.out.later ((Below.refl _ _).alloc (Nat.le_refl _) _)).dropR⟩
                case measure => simp [intOf]; omega
              · have hap := HAQ.out none (0) (by intro h; first | exact ⟨rfl, rfl⟩ | cases h) (by intro h; first | rfl | cases h) (by intro h h2; first | rfl | omega | cases h) (by intro h h2; first | rfl | omega | cases h)
                have b1 : decide (0 < bf) = false := decide_eq_false hb
                have b3 : decide (0 < fl) = false := decide_eq_false hf
                have HAPX := Lib.hid hap
                clear hap
                go_wp2
                go_roundw
                case rel => exact ⟨k + 1, ow, none, ws3, _, _, _, _, _, _, fl, (0), lf, by omega, by go_num, by rfl, rfl, by go_num, by go_num, by go_num, HAPX.out, (HD6.out.later ((Below.refl _ _).alloc (Nat.le_refl _) _)).dropR⟩
                case measure => simp [intOf]; omega
        | some p =>
          obtain ⟨rq, s⟩ := p
          have g9 : u9 = .pointer (some ⟨rq, 0, none⟩) := h9
          subst g9
          have HDU := HDR
          have HAP := HAR
          clear h9
          subst h8
          go_wp2_with fail
          refine (HDU.out.stR (k : Int) (by omega)).mono ?_
          rintro e w6 ⟨sa, sc, sn, dn, cd, vl, mk, st, bf, s3, ws3, rfl, ⟨d, e0, e1, -, -, -, -, e4, -, -, -⟩, hd6, -, -, -⟩
          obtain ⟨rn', rp', ri', hq⟩ := HAP.out.read' e0
          rw [← e1, ← e4] at hq
          have HAQ := Lib.hid hq
          have HD6 := Lib.hid hd6
          clear hq hd6 e0 e1 e4
          cases dn
          · by_cases hb : 0 < bf
            · by_cases hf : 0 < fl
              · have hap := HAQ.out (some (rq, s3)) (bf) (by intro h; first | exact ⟨rfl, rfl⟩ | cases h) (by intro h; first | rfl | cases h) (by intro h h2; first | rfl | omega | cases h) (by intro h h2; first | rfl | omega | cases h)
                have b1 : decide (0 < bf) = true := decide_eq_true hb
                have b3 : decide (0 < fl) = true := decide_eq_true hf
                have b4 : (fl == bf) = false := beq_false_of_ne (hap.ok hf)
                have HAPX := Lib.hid hap
                clear hap
                go_wp2
                go_roundw
                case rel => exact ⟨k + 1, ow, (some (rq, s3)), ws3, _, _, _, _, _, _, fl, (bf), lf, by omega, by go_num, by rfl, rfl, by go_num, by go_num, by go_num, HAPX.out, HD6.out.later ((Below.refl _ _).alloc (Nat.le_refl _) _)⟩
                case measure => simp [intOf]; omega
              · have hap := HAQ.out (some (rq, s3)) (bf) (by intro h; first | exact ⟨rfl, rfl⟩ | cases h) (by intro h; first | rfl | cases h) (by intro h h2; first | rfl | omega | cases h) (by intro h h2; first | rfl | omega | cases h)
                have b1 : decide (0 < bf) = true := decide_eq_true hb
                have b3 : decide (0 < fl) = false := decide_eq_false hf
                have HAPX := Lib.hid hap
                clear hap
                go_wp2
                go_roundw
                case rel => exact ⟨k + 1, ow, (some (rq, s3)), ws3, _, _, _, _, _, _, fl, (bf), lf, by omega, by go_num, by rfl, rfl, by go_num, by go_num, by go_num, HAPX.out, HD6.out.later ((Below.refl _ _).alloc (Nat.le_refl _) _)⟩
                case measure => simp [intOf]; omega
            · by_cases hf : 0 < fl
              · have hap := HAQ.out (some (rq, s3)) (rv) (by intro h; first | exact ⟨rfl, rfl⟩ | cases h) (by intro h; first | rfl | cases h) (by intro h h2; first | rfl | omega | cases h) (by intro h h2; first | rfl | omega | cases h)
                have b1 : decide (0 < bf) = false := decide_eq_false hb
                have b3 : decide (0 < fl) = true := decide_eq_true hf
                have b4 : (fl == rv) = false := beq_false_of_ne (hap.ok hf)
                have HAPX := Lib.hid hap
                clear hap
                go_wp2
                go_roundw
                case rel => exact ⟨k + 1, ow, (some (rq, s3)), ws3, _, _, _, _, _, _, fl, (rv), lf, by omega, by go_num, by rfl, rfl, by go_num, by go_num, by go_num, HAPX.out, HD6.out.later ((Below.refl _ _).alloc (Nat.le_refl _) _)⟩
                case measure => simp [intOf]; omega
              · have hap := HAQ.out (some (rq, s3)) (rv) (by intro h; first | exact ⟨rfl, rfl⟩ | cases h) (by intro h; first | rfl | cases h) (by intro h h2; first | rfl | omega | cases h) (by intro h h2; first | rfl | omega | cases h)
                have b1 : decide (0 < bf) = false := decide_eq_false hb
                have b3 : decide (0 < fl) = false := decide_eq_false hf
                have HAPX := Lib.hid hap
                clear hap
                go_wp2
                go_roundw
                case rel => exact ⟨k + 1, ow, (some (rq, s3)), ws3, _, _, _, _, _, _, fl, (rv), lf, by omega, by go_num, by rfl, rfl, by go_num, by go_num, by go_num, HAPX.out, HD6.out.later ((Below.refl _ _).alloc (Nat.le_refl _) _)⟩
                case measure => simp [intOf]; omega
          · by_cases hb : 0 < bf
            · by_cases hf : 0 < fl
              · have hap := HAQ.out none (0) (by intro h; first | exact ⟨rfl, rfl⟩ | cases h) (by intro h; first | rfl | cases h) (by intro h h2; first | rfl | omega | cases h) (by intro h h2; first | rfl | omega | cases h)
                have b1 : decide (0 < bf) = true := decide_eq_true hb
                have b3 : decide (0 < fl) = true := decide_eq_true hf
                have b4 : (fl == 0) = false := beq_false_of_ne (hap.ok hf)
                have HAPX := Lib.hid hap
                clear hap
                go_wp2
                go_roundw
                case rel => exact ⟨k + 1, ow, none, ws3, _, _, _, _, _, _, fl, (0), lf, by omega, by go_num, by rfl, rfl, by go_num, by go_num, by go_num, HAPX.out, (HD6.out.later ((Below.refl _ _).alloc (Nat.le_refl _) _)).dropR⟩
                case measure => simp [intOf]; omega
              · have hap := HAQ.out none (0) (by intro h; first | exact ⟨rfl, rfl⟩ | cases h) (by intro h; first | rfl | cases h) (by intro h h2; first | rfl | omega | cases h) (by intro h h2; first | rfl | omega | cases h)
                have b1 : decide (0 < bf) = true := decide_eq_true hb
                have b3 : decide (0 < fl) = false := decide_eq_false hf
                have HAPX := Lib.hid hap
                clear hap
                go_wp2
                go_roundw
                case rel => exact ⟨k + 1, ow, none, ws3, _, _, _, _, _, _, fl, (0), lf, by omega, by go_num, by rfl, rfl, by go_num, by go_num, by go_num, HAPX.out, (HD6.out.later ((Below.refl _ _).alloc (Nat.le_refl _) _)).dropR⟩
                case measure => simp [intOf]; omega
            · by_cases hf : 0 < fl
              · have hap := HAQ.out none (0) (by intro h; first | exact ⟨rfl, rfl⟩ | cases h) (by intro h; first | rfl | cases h) (by intro h h2; first | rfl | omega | cases h) (by intro h h2; first | rfl | omega | cases h)
                have b1 : decide (0 < bf) = false := decide_eq_false hb
                have b3 : decide (0 < fl) = true := decide_eq_true hf
                have b4 : (fl == 0) = false := beq_false_of_ne (hap.ok hf)
                have HAPX := Lib.hid hap
                clear hap
                go_wp2
                go_roundw
                case rel => exact ⟨k + 1, ow, none, ws3, _, _, _, _, _, _, fl, (0), lf, by omega, by go_num, by rfl, rfl, by go_num, by go_num, by go_num, HAPX.out, (HD6.out.later ((Below.refl _ _).alloc (Nat.le_refl _) _)).dropR⟩
                case measure => simp [intOf]; omega
              · have hap := HAQ.out none (0) (by intro h; first | exact ⟨rfl, rfl⟩ | cases h) (by intro h; first | rfl | cases h) (by intro h h2; first | rfl | omega | cases h) (by intro h h2; first | rfl | omega | cases h)
                have b1 : decide (0 < bf) = false := decide_eq_false hb
                have b3 : decide (0 < fl) = false := decide_eq_false hf
                have HAPX := Lib.hid hap
                clear hap
                go_wp2
                go_roundw
                case rel => exact ⟨k + 1, ow, none, ws3, _, _, _, _, _, _, fl, (0), lf, by omega, by go_num, by rfl, rfl, by go_num, by go_num, by go_num, HAPX.out, (HD6.out.later ((Below.refl _ _).alloc (Nat.le_refl _) _)).dropR⟩
                case measure => simp [intOf]; omega
      · cases ow with
        | none =>
          have g8 : u8 = .pointer none := h8
          subst g8
          clear h8
          subst h9
          go_wp2
          refine wp_region_held_drew (S := (fun W' => Below W.heap.size W W' ∧ (W'.cell? ⟨w1.heap.size, 0, none⟩ = some (.slice x.pa 2 x.pc) ∧ W'.cell? ⟨w1.heap.size, 1, none⟩ = some (.slice (some ⟨b, o, none⟩) 1 x.cc) ∧ W'.cell? ⟨w1.heap.size, 2, none⟩ = some (.int .i64 1) ∧ W'.cell? ⟨w1.heap.size, 3, none⟩ = some (.slice x.aa 1 x.ac) ∧ W'.cell? ⟨w1.heap.size, 4, none⟩ = some (.int .i64 1) ∧ W'.cell? ⟨w1.heap.size, 5, none⟩ = some (.slice x.ba 1 x.bc)))) (by kernel_rfl) (keepS HBY.out HDR.out.below.drew) (fun hHeld => ?_)
          refine wpAnyH_take (i := 0) rfl (by kernel_rfl) (by kernel_rfl) (by kernel_rfl) (fun _ _ _ h => h) (Or.inl ⟨by rfl, by intro w hSw; (skip); (go_simp <;> with_reducible rfl)⟩) (by assumption) ?_
          (try simp only [Act.put, List.setIfInBounds_toArray, List.set_cons_zero, List.set_cons_succ, List.getElem_toArray, List.getElem_cons_zero, List.getElem_cons_succ])
          refine wpAnyH_take (i := 1) rfl (by kernel_rfl) (by kernel_rfl) (by kernel_rfl) (fun _ _ _ h => h) (Or.inl ⟨by rfl, by intro w hSw; (skip); (go_simp <;> with_reducible rfl)⟩) (by assumption) ?_
          (try simp only [Act.put, List.setIfInBounds_toArray, List.set_cons_zero, List.set_cons_succ, List.getElem_toArray, List.getElem_cons_zero, List.getElem_cons_succ])
          refine wpAnyH_ready (rs := [2]) (by kernel_rfl) (by simp) (AllReadyH.cons rfl (fun K hK => ?_) AllReadyH.nil)
          go_simp
          refine hK.out _ _ (keepS HBY.out (hHeld.1.alloc hHeld.1.size _)) (fun hHeld => ?_)
          clear hK K
          (try simp only [Act.put, List.setIfInBounds_toArray, List.set_cons_zero, List.set_cons_succ, List.getElem_toArray, List.getElem_cons_zero, List.getElem_cons_succ])
          have hwz : WordsAt (wr.drew.alloc (.cells (madeCells #[Value.int .u32 0] N) 41)) wr.drew.heap.size (List.replicate N 0) := by unfold WordsAt; rw [← made_words]; exact heap_alloc_new wr.drew _
          refine wpAnyH_ready (rs := [3]) (by kernel_rfl) (by simp) (AllReadyH.cons rfl (fun K hK => ?_) AllReadyH.nil)
          go_simp
          refine (HNW.out _ hHeld.1 _ hwz).mono ?_
          rintro e w5 ⟨wq, Sq, rfl, hat5, hS5, hb5⟩
          refine hK.out _ _ (keepS HBY.out (hHeld.1.trans (hb5.mono hHeld.1.size))) (fun hHeld => ?_)
          clear hK K
          (try simp only [Act.put, List.setIfInBounds_toArray, List.set_cons_zero, List.set_cons_succ, List.getElem_toArray, List.getElem_cons_zero, List.getElem_cons_succ])
          refine wpAnyH_take (i := 4) rfl (by kernel_rfl) (by kernel_rfl) (by kernel_rfl) (fun _ _ _ h => h) (Or.inl ⟨by rfl, by intro w hSw; (skip); (go_simp <;> with_reducible rfl)⟩) (by assumption) ?_
          (try simp only [Act.put, List.setIfInBounds_toArray, List.set_cons_zero, List.set_cons_succ, List.getElem_toArray, List.getElem_cons_zero, List.getElem_cons_succ])
          refine wpAnyH_done (by kernel_rfl) ?_ _
          have HDU := Lib.hid ((HDR.out.later (w' := wr.drew.alloc (.cells (madeCells #[Value.int .u32 0] N) 41)) ((Below.refl _ wr).drew.alloc (Nat.le_refl _) _)).newW hat5 hS5 hb5 (show W32 (List.replicate N 0) from w32_zero N))
          have HAP := Lib.hid (HAR.out.newW wq)
          clear hat5 hS5 hb5 ca hHeld hwz
          go_wp2_with fail
          refine (HDU.out.stW (k : Int)).mono ?_
          rintro e w6 ⟨dn, mk, st, bf, s3, ws3, rfl, ⟨d, e0, e1, -, -, e4, -⟩, hd6, -⟩
          obtain ⟨wn', wp', wi', hq⟩ := HAP.out.write' (by omega) e0
          rw [← e1, ← e4] at hq
          have HAQ := Lib.hid hq
          have HD6 := Lib.hid hd6
          clear hq hd6 e0 e1 e4
          cases dn
          · by_cases hb : 0 < bf
            · have hap := HAQ.out (some (wq, s3)) (bf) ((N : Int) + 1) (by intro h; first | rfl | cases h) (by intro h; first | rfl | cases h) (by intro h; first | rfl | omega) (by intro h; first | rfl | omega) (by intro h; first | rfl | omega) (by intro h h2; first | rfl | omega) (by intro h h2; first | rfl | omega)
              have b1 : decide (0 < bf) = true := decide_eq_true hb
              have b4 : (bf == rv) = false := beq_false_of_ne (hap.ok hb)
              have HAPX := Lib.hid hap
              clear hap
              go_wp2
              go_roundw
              case rel => exact ⟨k + 1, (some (wq, s3)), or_, ws3, _, _, _, _, _, _, (bf), rv, ((N : Int) + 1), by omega, by go_num, rfl, by rfl, by go_num, by go_num, by go_num, HAPX.out, HD6.out.later ((Below.refl _ _).alloc (Nat.le_refl _) _)⟩
              case measure => simp [intOf]; omega
            · by_cases hl : lf - 1 ≤ 0
              · have hap := HAQ.out (some (wq, s3)) (0) (lf - 1) (by intro h; first | rfl | cases h) (by intro h; first | rfl | cases h) (by intro h; first | rfl | omega) (by intro h; first | rfl | omega) (by intro h; first | rfl | omega) (by intro h h2; first | rfl | omega) (by intro h h2; first | rfl | omega)
                have b1 : decide (0 < bf) = false := decide_eq_false hb
                have b2 : decide (lf - 1 ≤ 0) = true := decide_eq_true hl

                have HAPX := Lib.hid hap
                clear hap
                go_wp2
                go_roundw
                case rel => exact ⟨k + 1, (some (wq, s3)), or_, ws3, _, _, _, _, _, _, (0), rv, (lf - 1), by omega, by go_num, rfl, by rfl, by go_num, by go_num, by go_num, HAPX.out, HD6.out.later ((Below.refl _ _).alloc (Nat.le_refl _) _)⟩
                case measure => simp [intOf]; omega
              · by_cases hf : 0 < fl
                · have hap := HAQ.out (some (wq, s3)) (fl) (lf - 1) (by intro h; first | rfl | cases h) (by intro h; first | rfl | cases h) (by intro h; first | rfl | omega) (by intro h; first | rfl | omega) (by intro h; first | rfl | omega) (by intro h h2; first | rfl | omega) (by intro h h2; first | rfl | omega)
                  have b1 : decide (0 < bf) = false := decide_eq_false hb
                  have b2 : decide (lf - 1 ≤ 0) = false := decide_eq_false hl
                  have b3 : decide (0 < fl) = true := decide_eq_true hf
                  have b4 : (fl == rv) = false := beq_false_of_ne (hap.ok hf)
                  have HAPX := Lib.hid hap
                  clear hap
                  go_wp2
                  go_roundw
                  case rel => exact ⟨k + 1, (some (wq, s3)), or_, ws3, _, _, _, _, _, _, (fl), rv, (lf - 1), by omega, by go_num, rfl, by rfl, by go_num, by go_num, by go_num, HAPX.out, HD6.out.later ((Below.refl _ _).alloc (Nat.le_refl _) _)⟩
                  case measure => simp [intOf]; omega
                · have hap := HAQ.out (some (wq, s3)) (fl) (lf - 1) (by intro h; first | rfl | cases h) (by intro h; first | rfl | cases h) (by intro h; first | rfl | omega) (by intro h; first | rfl | omega) (by intro h; first | rfl | omega) (by intro h h2; first | rfl | omega) (by intro h h2; first | rfl | omega)
                  have b1 : decide (0 < bf) = false := decide_eq_false hb
                  have b2 : decide (lf - 1 ≤ 0) = false := decide_eq_false hl
                  have b3 : decide (0 < fl) = false := decide_eq_false hf

                  have HAPX := Lib.hid hap
                  clear hap
                  go_wp2
                  go_roundw
                  case rel => exact ⟨k + 1, (some (wq, s3)), or_, ws3, _, _, _, _, _, _, (fl), rv, (lf - 1), by omega, by go_num, rfl, by rfl, by go_num, by go_num, by go_num, HAPX.out, HD6.out.later ((Below.refl _ _).alloc (Nat.le_refl _) _)⟩
                  case measure => simp [intOf]; omega
          · by_cases hb : 0 < bf
            · have hap := HAQ.out none (bf) ((N : Int) + 1) (by intro h; first | rfl | cases h) (by intro h; first | rfl | cases h) (by intro h; first | rfl | omega) (by intro h; first | rfl | omega) (by intro h; first | rfl | omega) (by intro h h2; first | rfl | omega) (by intro h h2; first | rfl | omega)
              have b1 : decide (0 < bf) = true := decide_eq_true hb
              have b4 : (bf == rv) = false := beq_false_of_ne (hap.ok hb)
              have HAPX := Lib.hid hap
              clear hap
              go_wp2
              go_roundw
              case rel => exact ⟨k + 1, none, or_, ws3, _, _, _, _, _, _, (bf), rv, ((N : Int) + 1), by omega, by go_num, rfl, by rfl, by go_num, by go_num, by go_num, HAPX.out, (HD6.out.later ((Below.refl _ _).alloc (Nat.le_refl _) _)).dropW⟩
              case measure => simp [intOf]; omega
            · by_cases hl : lf - 1 ≤ 0
              · have hap := HAQ.out none (0) (lf - 1) (by intro h; first | rfl | cases h) (by intro h; first | rfl | cases h) (by intro h; first | rfl | omega) (by intro h; first | rfl | omega) (by intro h; first | rfl | omega) (by intro h h2; first | rfl | omega) (by intro h h2; first | rfl | omega)
                have b1 : decide (0 < bf) = false := decide_eq_false hb
                have b2 : decide (lf - 1 ≤ 0) = true := decide_eq_true hl

                have HAPX := Lib.hid hap
                clear hap
                go_wp2
                go_roundw
                case rel => exact ⟨k + 1, none, or_, ws3, _, _, _, _, _, _, (0), rv, (lf - 1), by omega, by go_num, rfl, by rfl, by go_num, by go_num, by go_num, HAPX.out, (HD6.out.later ((Below.refl _ _).alloc (Nat.le_refl _) _)).dropW⟩
                case measure => simp [intOf]; omega
              · by_cases hf : 0 < fl
                · have hap := HAQ.out none (fl) (lf - 1) (by intro h; first | rfl | cases h) (by intro h; first | rfl | cases h) (by intro h; first | rfl | omega) (by intro h; first | rfl | omega) (by intro h; first | rfl | omega) (by intro h h2; first | rfl | omega) (by intro h h2; first | rfl | omega)
                  have b1 : decide (0 < bf) = false := decide_eq_false hb
                  have b2 : decide (lf - 1 ≤ 0) = false := decide_eq_false hl
                  have b3 : decide (0 < fl) = true := decide_eq_true hf
                  have b4 : (fl == rv) = false := beq_false_of_ne (hap.ok hf)
                  have HAPX := Lib.hid hap
                  clear hap
                  go_wp2
                  go_roundw
                  case rel => exact ⟨k + 1, none, or_, ws3, _, _, _, _, _, _, (fl), rv, (lf - 1), by omega, by go_num, rfl, by rfl, by go_num, by go_num, by go_num, HAPX.out, (HD6.out.later ((Below.refl _ _).alloc (Nat.le_refl _) _)).dropW⟩
                  case measure => simp [intOf]; omega
                · have hap := HAQ.out none (fl) (lf - 1) (by intro h; first | rfl | cases h) (by intro h; first | rfl | cases h) (by intro h; first | rfl | omega) (by intro h; first | rfl | omega) (by intro h; first | rfl | omega) (by intro h h2; first | rfl | omega) (by intro h h2; first | rfl | omega)
                  have b1 : decide (0 < bf) = false := decide_eq_false hb
                  have b2 : decide (lf - 1 ≤ 0) = false := decide_eq_false hl
                  have b3 : decide (0 < fl) = false := decide_eq_false hf

                  have HAPX := Lib.hid hap
                  clear hap
                  go_wp2
                  go_roundw
                  case rel => exact ⟨k + 1, none, or_, ws3, _, _, _, _, _, _, (fl), rv, (lf - 1), by omega, by go_num, rfl, by rfl, by go_num, by go_num, by go_num, HAPX.out, (HD6.out.later ((Below.refl _ _).alloc (Nat.le_refl _) _)).dropW⟩
                  case measure => simp [intOf]; omega
        | some p =>
          obtain ⟨wq, s⟩ := p
          have g8 : u8 = .pointer (some ⟨wq, 0, none⟩) := h8
          subst g8
          have HDU := HDR
          have HAP := HAR
          clear h8
          subst h9
          go_wp2_with fail
          refine (HDU.out.stW (k : Int)).mono ?_
          rintro e w6 ⟨dn, mk, st, bf, s3, ws3, rfl, ⟨d, e0, e1, -, -, e4, -⟩, hd6, -⟩
          obtain ⟨wn', wp', wi', hq⟩ := HAP.out.write' (by omega) e0
          rw [← e1, ← e4] at hq
          have HAQ := Lib.hid hq
          have HD6 := Lib.hid hd6
          clear hq hd6 e0 e1 e4
          cases dn
          · by_cases hb : 0 < bf
            · have hap := HAQ.out (some (wq, s3)) (bf) ((N : Int) + 1) (by intro h; first | rfl | cases h) (by intro h; first | rfl | cases h) (by intro h; first | rfl | omega) (by intro h; first | rfl | omega) (by intro h; first | rfl | omega) (by intro h h2; first | rfl | omega) (by intro h h2; first | rfl | omega)
              have b1 : decide (0 < bf) = true := decide_eq_true hb
              have b4 : (bf == rv) = false := beq_false_of_ne (hap.ok hb)
              have HAPX := Lib.hid hap
              clear hap
              go_wp2
              go_roundw
              case rel => exact ⟨k + 1, (some (wq, s3)), or_, ws3, _, _, _, _, _, _, (bf), rv, ((N : Int) + 1), by omega, by go_num, rfl, by rfl, by go_num, by go_num, by go_num, HAPX.out, HD6.out.later ((Below.refl _ _).alloc (Nat.le_refl _) _)⟩
              case measure => simp [intOf]; omega
            · by_cases hl : lf - 1 ≤ 0
              · have hap := HAQ.out (some (wq, s3)) (0) (lf - 1) (by intro h; first | rfl | cases h) (by intro h; first | rfl | cases h) (by intro h; first | rfl | omega) (by intro h; first | rfl | omega) (by intro h; first | rfl | omega) (by intro h h2; first | rfl | omega) (by intro h h2; first | rfl | omega)
                have b1 : decide (0 < bf) = false := decide_eq_false hb
                have b2 : decide (lf - 1 ≤ 0) = true := decide_eq_true hl

                have HAPX := Lib.hid hap
                clear hap
                go_wp2
                go_roundw
                case rel => exact ⟨k + 1, (some (wq, s3)), or_, ws3, _, _, _, _, _, _, (0), rv, (lf - 1), by omega, by go_num, rfl, by rfl, by go_num, by go_num, by go_num, HAPX.out, HD6.out.later ((Below.refl _ _).alloc (Nat.le_refl _) _)⟩
                case measure => simp [intOf]; omega
              · by_cases hf : 0 < fl
                · have hap := HAQ.out (some (wq, s3)) (fl) (lf - 1) (by intro h; first | rfl | cases h) (by intro h; first | rfl | cases h) (by intro h; first | rfl | omega) (by intro h; first | rfl | omega) (by intro h; first | rfl | omega) (by intro h h2; first | rfl | omega) (by intro h h2; first | rfl | omega)
                  have b1 : decide (0 < bf) = false := decide_eq_false hb
                  have b2 : decide (lf - 1 ≤ 0) = false := decide_eq_false hl
                  have b3 : decide (0 < fl) = true := decide_eq_true hf
                  have b4 : (fl == rv) = false := beq_false_of_ne (hap.ok hf)
                  have HAPX := Lib.hid hap
                  clear hap
                  go_wp2
                  go_roundw
                  case rel => exact ⟨k + 1, (some (wq, s3)), or_, ws3, _, _, _, _, _, _, (fl), rv, (lf - 1), by omega, by go_num, rfl, by rfl, by go_num, by go_num, by go_num, HAPX.out, HD6.out.later ((Below.refl _ _).alloc (Nat.le_refl _) _)⟩
                  case measure => simp [intOf]; omega
                · have hap := HAQ.out (some (wq, s3)) (fl) (lf - 1) (by intro h; first | rfl | cases h) (by intro h; first | rfl | cases h) (by intro h; first | rfl | omega) (by intro h; first | rfl | omega) (by intro h; first | rfl | omega) (by intro h h2; first | rfl | omega) (by intro h h2; first | rfl | omega)
                  have b1 : decide (0 < bf) = false := decide_eq_false hb
                  have b2 : decide (lf - 1 ≤ 0) = false := decide_eq_false hl
                  have b3 : decide (0 < fl) = false := decide_eq_false hf

                  have HAPX := Lib.hid hap
                  clear hap
                  go_wp2
                  go_roundw
                  case rel => exact ⟨k + 1, (some (wq, s3)), or_, ws3, _, _, _, _, _, _, (fl), rv, (lf - 1), by omega, by go_num, rfl, by rfl, by go_num, by go_num, by go_num, HAPX.out, HD6.out.later ((Below.refl _ _).alloc (Nat.le_refl _) _)⟩
                  case measure => simp [intOf]; omega
          · by_cases hb : 0 < bf
            · have hap := HAQ.out none (bf) ((N : Int) + 1) (by intro h; first | rfl | cases h) (by intro h; first | rfl | cases h) (by intro h; first | rfl | omega) (by intro h; first | rfl | omega) (by intro h; first | rfl | omega) (by intro h h2; first | rfl | omega) (by intro h h2; first | rfl | omega)
              have b1 : decide (0 < bf) = true := decide_eq_true hb
              have b4 : (bf == rv) = false := beq_false_of_ne (hap.ok hb)
              have HAPX := Lib.hid hap
              clear hap
              go_wp2
              go_roundw
              case rel => exact ⟨k + 1, none, or_, ws3, _, _, _, _, _, _, (bf), rv, ((N : Int) + 1), by omega, by go_num, rfl, by rfl, by go_num, by go_num, by go_num, HAPX.out, (HD6.out.later ((Below.refl _ _).alloc (Nat.le_refl _) _)).dropW⟩
              case measure => simp [intOf]; omega
            · by_cases hl : lf - 1 ≤ 0
              · have hap := HAQ.out none (0) (lf - 1) (by intro h; first | rfl | cases h) (by intro h; first | rfl | cases h) (by intro h; first | rfl | omega) (by intro h; first | rfl | omega) (by intro h; first | rfl | omega) (by intro h h2; first | rfl | omega) (by intro h h2; first | rfl | omega)
                have b1 : decide (0 < bf) = false := decide_eq_false hb
                have b2 : decide (lf - 1 ≤ 0) = true := decide_eq_true hl

                have HAPX := Lib.hid hap
                clear hap
                go_wp2
                go_roundw
                case rel => exact ⟨k + 1, none, or_, ws3, _, _, _, _, _, _, (0), rv, (lf - 1), by omega, by go_num, rfl, by rfl, by go_num, by go_num, by go_num, HAPX.out, (HD6.out.later ((Below.refl _ _).alloc (Nat.le_refl _) _)).dropW⟩
                case measure => simp [intOf]; omega
              · by_cases hf : 0 < fl
                · have hap := HAQ.out none (fl) (lf - 1) (by intro h; first | rfl | cases h) (by intro h; first | rfl | cases h) (by intro h; first | rfl | omega) (by intro h; first | rfl | omega) (by intro h; first | rfl | omega) (by intro h h2; first | rfl | omega) (by intro h h2; first | rfl | omega)
                  have b1 : decide (0 < bf) = false := decide_eq_false hb
                  have b2 : decide (lf - 1 ≤ 0) = false := decide_eq_false hl
                  have b3 : decide (0 < fl) = true := decide_eq_true hf
                  have b4 : (fl == rv) = false := beq_false_of_ne (hap.ok hf)
                  have HAPX := Lib.hid hap
                  clear hap
                  go_wp2
                  go_roundw
                  case rel => exact ⟨k + 1, none, or_, ws3, _, _, _, _, _, _, (fl), rv, (lf - 1), by omega, by go_num, rfl, by rfl, by go_num, by go_num, by go_num, HAPX.out, (HD6.out.later ((Below.refl _ _).alloc (Nat.le_refl _) _)).dropW⟩
                  case measure => simp [intOf]; omega
                · have hap := HAQ.out none (fl) (lf - 1) (by intro h; first | rfl | cases h) (by intro h; first | rfl | cases h) (by intro h; first | rfl | omega) (by intro h; first | rfl | omega) (by intro h; first | rfl | omega) (by intro h h2; first | rfl | omega) (by intro h h2; first | rfl | omega)
                  have b1 : decide (0 < bf) = false := decide_eq_false hb
                  have b2 : decide (lf - 1 ≤ 0) = false := decide_eq_false hl
                  have b3 : decide (0 < fl) = false := decide_eq_false hf

                  have HAPX := Lib.hid hap
                  clear hap
                  go_wp2
                  go_roundw
                  case rel => exact ⟨k + 1, none, or_, ws3, _, _, _, _, _, _, (fl), rv, (lf - 1), by omega, by go_num, rfl, by rfl, by go_num, by go_num, by go_num, HAPX.out, (HD6.out.later ((Below.refl _ _).alloc (Nat.le_refl _) _)).dropW⟩
                  case measure => simp [intOf]; omega
    · have HDR := Lib.hid hdu
      clear hap hdu
      go_wp2
      go_ret
      exact ⟨rfl, HBW.out.trans (HDR.out.below.mono HBW.out.size)⟩
end Go.Proofs.Ytocdidkfnbkkhaa
