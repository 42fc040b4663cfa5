/- FourStays answers true. No condition but those in the statements. -/
import Derived.Test.YtocdidkfnbkkhaaGreatFSame
import Derived.Test.YtocdidkfnbkkhaaGreatGH
import Derived.BigQuiet
import Derived.IntWalk
import Derived.Deep.MidRow
import Derived.Deep.Upon
import Derived.BigRegion
import Derived.Shelf.Abstract
import Derived.Deep.RegionHeld3
namespace Go.Proofs.YtocdidkfnbkkhaaGreat
open Go.RowKit Go.Sort
set_option linter.unusedVariables false
set_option linter.unusedSimpArgs false
set_option linter.unusedVariables false
set_option linter.unusedSimpArgs false

open Go.Proofs.YtocdidkfnbkkhaaGreat.Simp
set_option maxRecDepth 100000
set_option maxHeartbeats 12800000
theorem fAns_when {N : Nat} {m : List Int} {now now' : Int} (hw : ∀ a, 0 ≤ rd m a) (h1 : now ≤ 1000) (h2 : now' ≤ 1000) : fAns N 1048576 m now = fAns N 1048576 m now' := by
  have h3 := hw (fB N m + 1)
  unfold fAns
  rw [decide_eq_true (show now - fS N m ≤ 1048576 by unfold fS; omega), decide_eq_true (show now' - fS N m ≤ 1048576 by unfold fS; omega)]
theorem fAns_done (N : Nat) (per : Int) (m : List Int) (now : Int) : (fAns N per m now).done = true := by unfold fAns; split <;> rfl
theorem fAns_len {N : Nat} {per : Int} {m : List Int} {now : Int} (hw : 0 ≤ rd m (fB N m)) (hN : N ≤ 1000000) : (fAns N per m now).data.length ≤ 1000000 := by
  have := fL_in (N := N) hw
  unfold fAns
  split
  · exact Nat.zero_le _
  · show (fD N m (fL N m).toNat).length ≤ 1000000
    unfold fD; simp; omega
theorem blk_over4 {X : World} {b : Nat} {cs : Array Value} {t : TypeId} (h : X.heap[b]? = some (.cells cs t (0, 0))) (hc : cs.size = 4) (vs : List Value) (hv : vs.length = 4) : (X.setCells b 0 vs).heap[b]? = some (.cells vs.toArray t (0, 0)) := by
  obtain ⟨l⟩ := cs
  match l, hc, vs, hv with
  | [a0, a1, a2, a3], _, [v0, v1, v2, v3], _ =>
    have e : wr11 #[a0, a1, a2, a3] 0 [v0, v1, v2, v3] = #[v0, v1, v2, v3] := by kernel_rfl
    have q := blk_sets [v0, v1, v2, v3] 0 X _ h
    rw [e] at q
    exact q
section
variable {W w w' : World} {E : Nat → Prop} {pb mb rb N K wq rq : Nat} {per : Int} {x : CfgAt} {P : Pl}
theorem PAt.fin (h : PAt W w E pb mb rb N per x (K) (P) wq rq) : Duo W w W.heap.size (fun _ => False) mb rb (fr2 N per) P.m (atW P.w wq) none := (h.duo.fewer (fun _ h => h.elim)).dropR
end
theorem lstays_b (wd : Int) (bs : List Bool) (A : Option Addr) (cap : Nat) (tk : Int) (w : World) (hw : 0 ≤ wd ∧ wd ≤ 255) (htk : 0 ≤ tk ∧ tk ≤ 255) (hc : bs.length ≤ cap) (hm : cap ≤ maxLen) (hnil : A = none → bs = []) (hrow : BoolRowIn w w.heap.size A bs) : Calls Tryz.prog 5 #[.int .u8 wd, .slice A bs.length cap, .int .u8 tk] w fun e w' => e = .returned (.bool true) ∧ Below w.heap.size w w' := by
  obtain ⟨tk0, tk1⟩ := htk
  obtain ⟨N, hN⟩ : ∃ N : Nat, 1 + wd % 4 = (N : Int) := ⟨(1 + wd % 4).toNat, by omega⟩
  have hN1 : 1 ≤ N ∧ N ≤ 4 := by omega
  have hF : FrOf (cfg2 N 1048576) 0 (fr2 N 1048576) := frOf2 hN1.1 (by omega) (by omega) (by omega)
  have hwf : CfgWf (cfg2 N 1048576) := cfg2_wf (i64_of (by omega)) (i64_of (by omega))
  have hfw := cfg2_few N 1048576
  have hsz := cfg2_size (n := N) (per := 1048576) (by omega) (by omega) (by omega) (by omega)
  have HTW := Lib.hid (fun (v : Int) (w : World) (hv : v = (N : Int)) => two_at v N 1048576 w hv (by omega) (by omega))
  have HMN := Lib.hid (fun (v : Int) (w : World) (hv : v = ((13 + 4 * N : Nat) : Int)) => memNew_at (13 + 4 * N) v hv w (by omega))
  have htm : wd.tmod 4 = wd % 4 := Int.tmod_eq_emod_of_nonneg hw.1
  have HROW := Lib.hid hrow
  have HHN := Lib.hid hN
  have HF := Lib.hid hF; have HWF := Lib.hid hwf; have HFW := Lib.hid hfw; have HSZ0 := Lib.hid hsz
  have wd0 := hw.1
  have wd1 := hw.2
  clear hF hwf hfw hsz hrow hN hw
  by_cases hl : 300 < bs.length
  · have hl2 : (300 : Int) < (bs.length : Int) := by omega
    clear htm
    go_enter Tryz.func5, Tryz.ntmps5
    go_wp2_with fail
    refine (wakes_b w).mono ?_
    rintro e wv ⟨rfl, hbv⟩
    go_wp2
    go_ret
    exact ⟨rfl, hbv⟩
  have hl2 : ¬ ((300 : Int) < (bs.length : Int)) := by omega
  go_enter Tryz.func5, Tryz.ntmps5
  go_wp2_with fail
  refine (wakes_b w).mono ?_
  rintro e wv ⟨rfl, hbv⟩
  have HBV := Lib.hid hbv
  clear hbv
  go_wp2_with fail
  refine (HTW.out _ wv ?_).mono ?_
  · have := HHN.out; (try rw [htm]); omega
  rintro e w1 ⟨x, rfl, hx, hb1⟩
  clear htm
  obtain ⟨W, HW, hB, hWs, bx⟩ := one_cbox w1 (cfg2 N 1048576) x 29
  have hxW := hx.later hB
  have hb1w := HBV.out.trans (hb1.mono HBV.out.size)
  have HBW := Lib.hid (hb1w.trans (hB.mono hb1w.size))
  have HXW := Lib.hid hxW
  have HSZ : Hid (Calls Tryz.prog 10 #[.agg #[.slice x.pa 2 x.pc, .slice x.ca 1 x.cc, .int .i64 1, .slice x.aa 1 x.ac, .int .i64 1, .slice x.ba 1 x.bc]] W fun e w' => e = .returned (.int .i64 (13 + 4 * (N : Int))) ∧ Below W.heap.size W w') := Lib.hid (by
    have q := rsize_b (cfg2 N 1048576) x W hxW HWF.out HFW.out
    rw [HSZ0.out] at q
    exact q)
  have HBX : Hid (∀ W' : World, Below W.heap.size W W' → W'.cell? ⟨w1.heap.size, 0, none⟩ = some (.slice x.pa 2 x.pc) ∧ W'.cell? ⟨w1.heap.size, 1, none⟩ = some (.slice x.ca 1 x.cc) ∧ W'.cell? ⟨w1.heap.size, 2, none⟩ = some (.int .i64 1) ∧ W'.cell? ⟨w1.heap.size, 3, none⟩ = some (.slice x.aa 1 x.ac) ∧ W'.cell? ⟨w1.heap.size, 4, none⟩ = some (.int .i64 1) ∧ W'.cell? ⟨w1.heap.size, 5, none⟩ = some (.slice x.ba 1 x.bc)) := Lib.hid (fun W' h => bx W' h)
  obtain ⟨c0, c1, c2, c3, c4, c5⟩ := HBX.out W (Below.refl _ _)
  have HW2 : Hid (W = w1.alloc (.cells #[.slice x.pa 2 x.pc, .slice x.ca 1 x.cc, .int .i64 1, .slice x.aa 1 x.ac, .int .i64 1, .slice x.ba 1 x.bc] 29)) := HW
  clear hb1 hB hx hxW hWs bx HW hb1w
  go_wp2_with (rw [← HW2.out])
  refine HSZ.out.mono ?_
  rintro e w2 ⟨rfl, hb2⟩
  have HB2 := Lib.hid hb2
  clear hb2 c0 c1 c2 c3 c4 c5
  go_wp2_with fail
  refine (HMN.out _ w2 ?_).mono ?_
  · first | rfl | (push_cast; rfl) | omega
  rintro e w3 ⟨mb, rb, rfl, hm1, hm2, hmem, hb3⟩
  have HD0 : Hid (Duo W w3 W.heap.size (fun _ => False) mb rb (fr2 N 1048576) (List.replicate (13 + 4 * N) 0) none none) := Lib.hid (Duo.first (HB2.out.trans (hb3.mono HB2.out.size)) hmem ⟨by have := HB2.out.size; omega, by have := HB2.out.size; omega, Nat.le_refl _⟩ (by
    have q := HF.out.fin
    rw [HSZ0.out] at q
    rw [List.length_replicate]
    rwa [show (13 + 4 * (N : Int)).toNat = 13 + 4 * N by omega] at q) (w32_zero _) (fun _ h => h.elim))
  have HMB : Hid (W.heap.size ≤ mb ∧ W.heap.size ≤ rb) := Lib.hid ⟨by have := HB2.out.size; omega, by have := HB2.out.size; omega⟩
  clear hm1 hm2 hmem hb3
  obtain ⟨c0, c1, c2, c3, c4, c5⟩ := HBX.out w3 HD0.out.below
  obtain ⟨pb, hpb⟩ : ∃ p, p = w3.heap.size := ⟨_, rfl⟩
  obtain ⟨w4, HW4⟩ : ∃ u, Hid (u = w3.alloc (.cells #[.slice x.pa 2 x.pc, .slice x.ca 1 x.cc, .int .i64 1, .slice x.aa 1 x.ac, .int .i64 1, .slice x.ba 1 x.bc, .pointer (some ⟨mb, 0, none⟩), .pointer none, .pointer none, .int .u32 0, .int .u32 0, .int .u32 0, .int .u32 0, .int .u32 0, .int .u32 0, .int .i64 0, .int .i64 0] 66)) := ⟨_, rfl⟩
  have HP4 : Hid (PAt W w4 (fun k => k = pb) pb mb rb N 1048576 x 0 ⟨List.replicate (13 + 4 * N) 0, none, none, 0, 0, 0, 0, 0, 0, 0, 0⟩ 0 0) := Lib.hid (by
    have hB4 : w4.heap[pb]? = some (.cells #[.slice x.pa 2 x.pc, .slice x.ca 1 x.cc, .int .i64 1, .slice x.aa 1 x.ac, .int .i64 1, .slice x.ba 1 x.bc, .pointer (some ⟨mb, 0, none⟩), .pointer none, .pointer none, .int .u32 0, .int .u32 0, .int .u32 0, .int .u32 0, .int .u32 0, .int .u32 0, .int .i64 0, .int .i64 0] 66 (0, 0)) := by rw [HW4.out, hpb]; exact heap_alloc_new _ _
    have hl4 := (Array.getElem?_eq_some_iff.1 hB4).1
    refine ⟨hB4, HD0.out.only (T := fun _ => False) (by rw [HW4.out]; exact (Only.refl _ _).alloc _) (fun _ _ h => h.elim) (fun k e => .inr ⟨by omega, by omega⟩), ⟨rfl, by have := HD0.out.below.size; omega⟩, HXW.out, ⟨hN1.1, hN1.2, by omega, by omega⟩, ?_⟩
    exact ⟨Int.le_refl _, Int.le_refl _, Int.le_refl _, Int.le_refl _, Int.le_refl _, Int.le_refl _⟩)
  have HPB := Lib.hid hpb
  clear hpb
  go_wp2_with (first | (simp only [← HPB.out]; rw [← HW4.out]))
  go_loopw [45] (fun ix wr => ∃ (k : Nat) (P : Pl) (wq rq : Nat), k ≤ bs.length ∧ ix = .int .i64 k ∧ PInv N P ∧ PAt W wr (fun k => k = pb) pb mb rb N 1048576 x (2 * k) P wq rq) (fun ix _ => bs.length - (intOf ix).toNat)
  case atStart => exact ⟨0, _, 0, 0, Nat.zero_le _, rfl, play_zero hN1.1 (by omega), HP4.out⟩
  case round =>
    obtain ⟨k, P, wq, rq, hk, rfl, hinv, hp⟩ := hrel
    by_cases hkl : k < bs.length
    · have hbw := HBW.out.trans (hp.duo.below.mono HBW.out.size)
      obtain ⟨b, o, rfl, -, hcell⟩ := HROW.out.at_ hkl
      have ca := hcell wr hbw
      obtain ⟨a, ha⟩ : ∃ a, bs.getD k false = a := ⟨_, rfl⟩
      rw [ha] at ca
      have HINV := Lib.hid hinv; have HP := Lib.hid hp
      clear ha hcell hbw hinv hp
      cases a
      · go_wp2_with fail
        refine (read_b (k : Int) (by omega) HP.out (by omega) (playR_ok HINV.out (k : Int)).1).mono ?_
        rintro e w5 ⟨rfl, rq', hp5, ho5⟩
        have HP5 := Lib.hid hp5
        clear hp5 ho5 ca
        go_wp2
        go_roundw
        case rel => exact ⟨k + 1, _, wq, rq', by omega, by go_num, (playR_ok HINV.out (k : Int)).2.1, by rw [show 2 * (k + 1) = 2 * k + 1 + 1 by omega]; exact HP5.out.more⟩
        case measure => simp [intOf]; omega
      · go_wp2_with fail
        refine (write_b (k : Int) HP.out (by omega)).mono ?_
        rintro e w5 ⟨rfl, wq', hp5, ho5⟩
        rw [(playW_ok HINV.out (k : Int)).1]
        have HP5 := Lib.hid hp5
        clear hp5 ho5 ca
        go_wp2
        go_roundw
        case rel => exact ⟨k + 1, _, wq', rq, by omega, by go_num, (playW_ok HINV.out (k : Int)).2.1, by rw [show 2 * (k + 1) = 2 * k + 2 by omega]; exact HP5.out⟩
        case measure => simp [intOf]; omega
    · have HINV0 := Lib.hid hinv
      have HP0 : Hid (PAt W wr (fun k => k = pb) pb mb rb N 1048576 x (2 * k + 0) P wq rq) := Lib.hid hp
      clear hinv hp
      go_wp2
      go_loopw [58] (fun ix wr => ∃ (j : Nat) (P : Pl) (rq : Nat), j ≤ 40 ∧ ix = .int .i64 j ∧ PInv N P ∧ PAt W wr (fun k => k = pb) pb mb rb N 1048576 x (2 * k + j) P wq rq) (fun ix _ => 40 - (intOf ix).toNat)
      case atStart => exact ⟨0, P, rq, by omega, rfl, HINV0.out, HP0.out⟩
      case round =>
        clear HINV0 HP0
        obtain ⟨j, P, rq, hj, rfl, hinv, hp⟩ := hrel
        by_cases hj40 : j < 40
        · have q8 : wr.cell? ⟨pb, 8, none⟩ = some (pvW P.r rq) := cell_blk hp.blk rfl
          have HINV := Lib.hid hinv; have HP := Lib.hid hp
          clear hinv hp
          cases hr : P.r with
          | none =>
            rw [hr] at q8
            have g8 : wr.cell? ⟨pb, 8, none⟩ = some (.pointer none) := q8
            obtain ⟨ow, how⟩ : ∃ o, atW P.w wq = o := ⟨_, rfl⟩
            obtain ⟨M0, hM0⟩ : ∃ o, P.m = o := ⟨_, rfl⟩
            have HDP : Hid (Duo W wr W.heap.size (fun _ => False) mb rb (fr2 N 1048576) M0 ow none) := Lib.hid (by rw [← how, ← hM0]; exact HP.out.fin)
            clear q8 hr how hM0
            obtain ⟨fb, hfb⟩ : ∃ d, d = wr.heap.size := ⟨_, rfl⟩
            obtain ⟨wf, HWF2⟩ : ∃ u, Hid (u = wr.alloc (.cells #[.int .i64 0, .slice none 0 0, .bool false, .int .i64 0] 54)) := ⟨_, rfl⟩
            have hzf : wf.heap[fb]? = some (.cells #[.int .i64 0, .slice none 0 0, .bool false, .int .i64 0] 54 (0, 0)) := by rw [HWF2.out, hfb]; exact heap_alloc_new _ _
            have HZF := Lib.hid hzf
            have HDF : Hid (Duo W wf W.heap.size (fun k => k = fb ∨ Value.ownBlock (.slice none 0 0) = some k) mb rb (fr2 N 1048576) M0 ow none) := Lib.hid (HDP.out.only (T := fun _ => False) (by rw [HWF2.out]; exact (Only.refl _ _).alloc _) (fun _ _ h => h.elim) (fun k e => e.elim (fun e => .inr ⟨by omega, by have := (Array.getElem?_eq_some_iff.1 hzf).1; omega⟩) (fun e => by cases e)))
            have HFB := Lib.hid hfb
            have HFBW : Hid (W.heap.size ≤ fb) := Lib.hid (by have := HDP.out.below.size; omega)
            have HN0 : Hid (∀ a, 0 ≤ rd M0 a) := Lib.hid (fun a => (HDP.out.w32 a).1)
            clear hfb hzf
            go_wp2_with (first | (simp only [← HFB.out]; rw [← HWF2.out]) | (rw [← HWF2.out]))
            (try rw [show decide ((j : Int) < 40) = true from decide_eq_true (by omega)])
            go_loopw [68] (fun ix wr => ∃ (kk : Nat) (M : List Int) (a0 : Option Addr) (n0 c0 : Nat) (cd0 : Int) (v0 : Bool), kk ≤ 3 ∧ ix = .int .i64 kk ∧ (∀ now, 300 ≤ now → now ≤ 810 → fAns N 1048576 M now = fAns N 1048576 M0 300) ∧ (wr.heap[fb]? = some (.cells #[.int .i64 cd0, .slice a0 n0 c0, .bool v0, .int .i64 0] 54 (0, 0)) ∧ (1 ≤ kk → cd0 = (fAns N 1048576 M0 300).code ∧ v0 = (fAns N 1048576 M0 300).valid ∧ OwnsOff wr 0 34 1 (.slice a0 n0 c0) n0 (wcells (fAns N 1048576 M0 300).data))) ∧ Duo W wr W.heap.size (fun k => k = fb ∨ Value.ownBlock (.slice a0 n0 c0) = some k) mb rb (fr2 N 1048576) M ow none) (fun ix _ => 3 - (intOf ix).toNat)
            case atStart => exact ⟨0, M0, none, 0, 0, 0, false, by omega, rfl, fun now h1 h2 => fAns_when HN0.out (by omega) (by omega), ⟨HZF.out, fun h => by omega⟩, HDF.out⟩
            case round =>
              obtain ⟨kk, M, a0, n0, c0, cd0, v0, hkk, rfl, hinv, hfst, hdu⟩ := hrel
              by_cases hk3 : kk < 3
              · obtain ⟨T1, hT1⟩ : ∃ T1, (kk : Int) * tk = T1 := ⟨_, rfl⟩
                have hTb : 0 ≤ T1 ∧ T1 ≤ 510 := by
                  rcases (show kk = 0 ∨ kk = 1 ∨ kk = 2 by omega) with rfl | rfl | rfl <;> (rw [← hT1]; constructor <;> push_cast <;> omega)
                obtain ⟨T2, T3⟩ := hTb
                have HNM : Hid (∀ a, 0 ≤ rd M a) := Lib.hid (fun a => (hdu.w32 a).1)
                have HNR : Hid (Calls Tryz.prog 15 #[.agg #[.slice x.pa 2 x.pc, .slice x.ca 1 x.cc, .int .i64 1, .slice x.aa 1 x.ac, .int .i64 1, .slice x.ba 1 x.bc], .int .i64 0] wr (GivesNewR wr (fr2 N 1048576))) := Lib.hid (newR_b (cfg2 N 1048576) x 0 (fr2 N 1048576) wr (HXW.out.later hdu.below) HWF.out HFW.out HF.out)
                obtain ⟨c0', c1, c2, c3, c4, c5⟩ := HBX.out wr hdu.below
                have HDU := Lib.hid hdu; have HFST := Lib.hid hfst; have HINV := Lib.hid hinv
                clear hdu hfst hinv
                go_wp2_with fail
                refine HNR.out.mono ?_
                rintro e w5 ⟨rq, Sr, rfl, hat5, hS5, hb5⟩
                have HD5 := Lib.hid (HDU.out.newR hat5 hS5 hb5 (show W32 [] from fun a => by unfold rd; simp))
                have hF5 : w5.heap[fb]? = some (.cells #[.int .i64 cd0, .slice a0 n0 c0, .bool v0, .int .i64 0] 54 (0, 0)) ∧ (1 ≤ kk → cd0 = (fAns N 1048576 M0 300).code ∧ v0 = (fAns N 1048576 M0 300).valid ∧ OwnsOff w5 0 34 1 (.slice a0 n0 c0) n0 (wcells (fAns N 1048576 M0 300).data)) := ⟨(hb5.block fb (Array.getElem?_eq_some_iff.1 HFST.out.1).1).trans HFST.out.1, fun h => ⟨(HFST.out.2 h).1, (HFST.out.2 h).2.1, (HFST.out.2 h).2.2.keptB hb5⟩⟩
                have HF5 := Lib.hid hF5
                clear hat5 hS5 hb5 c0' c1 c2 c3 c4 c5 hF5
                obtain ⟨db, hdb⟩ : ∃ d, d = w5.heap.size := ⟨_, rfl⟩
                obtain ⟨w6, HW6⟩ : ∃ u, Hid (u = w5.alloc (.cells #[.bool false, .int .i64 0, .slice none 0 0, .bool false, .int .i64 0, .bool false, .bool false, .bool false, .int .i64 0] 56)) := ⟨_, rfl⟩
                have hz6 : w6.heap[db]? = some (.cells #[.bool false, .int .i64 0, .slice none 0 0, .bool false, .int .i64 0, .bool false, .bool false, .bool false, .int .i64 0] 56 (0, 0)) := by rw [HW6.out, hdb]; exact heap_alloc_new _ _
                have hb6 : Below w5.heap.size w5 w6 := by rw [HW6.out]; exact (Below.refl _ _).alloc (Nat.le_refl _) _
                have HZ6 := Lib.hid hz6
                have HF6 : Hid (w6.heap[fb]? = some (.cells #[.int .i64 cd0, .slice a0 n0 c0, .bool v0, .int .i64 0] 54 (0, 0)) ∧ (1 ≤ kk → cd0 = (fAns N 1048576 M0 300).code ∧ v0 = (fAns N 1048576 M0 300).valid ∧ OwnsOff w6 0 34 1 (.slice a0 n0 c0) n0 (wcells (fAns N 1048576 M0 300).data))) := Lib.hid ⟨(hb6.block fb (Array.getElem?_eq_some_iff.1 HF5.out.1).1).trans HF5.out.1, fun h => ⟨(HF5.out.2 h).1, (HF5.out.2 h).2.1, (HF5.out.2 h).2.2.keptB hb6⟩⟩
                have HD6 : Hid (Duo W w6 W.heap.size (fun k => (k = fb ∨ Value.ownBlock (.slice a0 n0 c0) = some k) ∨ k = db) mb rb (fr2 N 1048576) M ow (some (rq, Simp.start []))) := Lib.hid (HD5.out.only (T := fun _ => False) (Only.of_below hb6) (fun _ _ h => h.elim) (fun k e => e.elim .inl (fun e => .inr ⟨by omega, by have := (Array.getElem?_eq_some_iff.1 hz6).1; omega⟩)))
                have HDBW : Hid (W.heap.size ≤ db) := Lib.hid (by have := HD5.out.below.size; omega)
                have HDF2 : Hid (fb ≠ db) := Lib.hid (by have := (Array.getElem?_eq_some_iff.1 HF5.out.1).1; omega)
                have HOD2 : Hid (∀ k, Value.ownBlock (.slice a0 n0 c0) = some k → k ≠ db) := Lib.hid (fun k hk e => by obtain ⟨_, _, _, _, h3, _⟩ := HD5.out.two; have := (h3 k (.inr hk)).2.2.2.2; omega)
                have HDB := Lib.hid hdb
                clear hdb hz6 hb6
                go_wp2_with (first | (simp only [← HDB.out]; rw [← HW6.out]) | (rw [← HW6.out]))
                go_loopw [73] (fun ix wr => ∃ (j : Nat) (t2 : FS) (mm2 : List Int) (cs : Array Value), j ≤ 40 ∧ ix = .int .i64 j ∧ (j : Int) ≤ 4 + fL N M ∧ RS N M t2 mm2 j ∧ wr.heap[db]? = some (.cells cs 56 (0, 0)) ∧ cs.size = 9 ∧ (wr.heap[fb]? = some (.cells #[.int .i64 cd0, .slice a0 n0 c0, .bool v0, .int .i64 0] 54 (0, 0)) ∧ (1 ≤ kk → cd0 = (fAns N 1048576 M0 300).code ∧ v0 = (fAns N 1048576 M0 300).valid ∧ OwnsOff wr 0 34 1 (.slice a0 n0 c0) n0 (wcells (fAns N 1048576 M0 300).data))) ∧ Duo W wr W.heap.size (fun k => (k = fb ∨ Value.ownBlock (.slice a0 n0 c0) = some k) ∨ k = db) mb rb (fr2 N 1048576) mm2 ow (some (rq, t2))) (fun ix _ => 40 - (intOf ix).toNat)
                case atStart => exact ⟨0, _, _, _, by omega, rfl, by have := fL_in (N := N) (HNM.out (fB N M)); omega, rs_start N M, HZ6.out, rfl, HF6.out, HD6.out⟩
                case round =>
                  obtain ⟨j, t2, mm2, cs, hj, rfl, hjl, hrs, hbox, hcs, hfst, hduo⟩ := hrel
                  have hfl := fL_in (N := N) (HNM.out (fB N M))
                  have hj9 : j < 40 := by omega
                  have HST := Lib.hid (hduo.stR (300 + T1) (by omega))
                  have HST2 := Lib.hid (hrs.step (per := 1048576) (now := 300 + T1) HNM.out)
                  have HBOX := Lib.hid hbox; have HCS := Lib.hid hcs; have HFS := Lib.hid hfst; have HJL := Lib.hid (And.intro hjl hfl)
                  have s4 : (j : Int) < 40 := by omega
                  clear hrs hduo hbox hcs hfst hjl hfl
                  go_wp2_with fail
                  refine HST.out.mono ?_
                  rintro e w7 ⟨sa, sc, sn, dn, cd, vl, mk, st, bfv, s3, ws3, rfl, ⟨d, hd, e1, e2, e3, e4, e5, e6, hln, hown, -⟩, hd7, hd8, hng, ho7⟩
                  have hst := HST2.out
                  rw [hd] at hst
                  have hB7 := ho7.at_ HBOX.out (fun h => h.1 (.inr rfl))
                  have hth : w7.there db 0 (#[.bool dn, .int .i64 cd, .slice sa sn sc, .bool vl, .int .i64 0, .bool mk, .bool false, .bool st, .int .i64 bfv] : Array Value).size := there_at hB7 (by rw [HCS.out]; rfl)
                  have hsd : (Tryz.prog.info? 56).map (·.size) = some (#[.bool dn, .int .i64 cd, .slice sa sn sc, .bool vl, .int .i64 0, .bool mk, .bool false, .bool st, .int .i64 bfv] : Array Value).size := did_size
                  obtain ⟨X, HX⟩ : ∃ u, Hid (u = w7.setCells db 0 [.bool dn, .int .i64 cd, .slice sa sn sc, .bool vl, .int .i64 0, .bool mk, .bool false, .bool st, .int .i64 bfv]) := ⟨_, rfl⟩
                  have hos : Only (fun k => k = db) w7 X := by rw [HX.out]; exact Only.sets (S := fun k => k = db) rfl [.bool dn, .int .i64 cd, .slice sa sn sc, .bool vl, .int .i64 0, .bool mk, .bool false, .bool st, .int .i64 bfv] 0 (Only.refl _ w7)
                  have HBX7 : Hid (X.heap[db]? = some (.cells #[.bool dn, .int .i64 cd, .slice sa sn sc, .bool vl, .int .i64 0, .bool mk, .bool false, .bool st, .int .i64 bfv] 56 (0, 0))) := Lib.hid (by rw [HX.out]; exact blk_over hB7 HCS.out [.bool dn, .int .i64 cd, .slice sa sn sc, .bool vl, .int .i64 0, .bool mk, .bool false, .bool st, .int .i64 bfv] rfl)
                  have HD7 := Lib.hid (hd7.only hos (fun k _ e => ⟨.inr e, by rw [e]; exact HDBW.out⟩) (E' := (fun k => (k = fb ∨ Value.ownBlock (.slice a0 n0 c0) = some k) ∨ k = db)) (fun k h => .inl h))
                  have HD8 := Lib.hid (hd8.only hos (fun k _ e => ⟨.inl (.inr e), by rw [e]; exact HDBW.out⟩) (E' := fun k => k = fb ∨ Value.ownBlock (.slice a0 n0 c0) = some k ∨ Value.ownBlock (.slice sa sn sc) = some k) (fun k h => .inl (h.elim (fun h => .inl (.inl (.inl h))) (fun h => h.elim (fun h => .inl (.inl (.inr h))) .inr))))
                  have HOW7 : Hid (OwnsOff X 0 34 1 (.slice sa sn sc) sn (wcells d.data)) := Lib.hid (hown.kept hos (fun k hk e => (hng k hk).1 (.inr e)))
                  have HNG : Hid (∀ k, Value.ownBlock (.slice sa sn sc) = some k → k ≠ fb) := Lib.hid (fun k hk e => (hng k hk).1 (.inl (.inl e)))
                  have HFX : Hid (X.heap[fb]? = some (.cells #[.int .i64 cd0, .slice a0 n0 c0, .bool v0, .int .i64 0] 54 (0, 0)) ∧ (1 ≤ kk → cd0 = (fAns N 1048576 M0 300).code ∧ v0 = (fAns N 1048576 M0 300).valid ∧ OwnsOff X 0 34 1 (.slice a0 n0 c0) n0 (wcells (fAns N 1048576 M0 300).data))) := Lib.hid ⟨hos.at_ (ho7.at_ HFS.out.1 (fun h => h.1 (.inl (.inl rfl)))) HDF2.out, fun h => ⟨(HFS.out.2 h).1, (HFS.out.2 h).2.1, ((HFS.out.2 h).2.2.kept ho7 (fun k hk e => e.1 (.inl (.inr hk)))).kept hos (fun k hk e => HOD2.out k hk e)⟩⟩
                  have HQ := Lib.hid (And.intro e1 (And.intro e2 (And.intro e3 e4)))
                  clear hown hng ho7 hd7 hd8 hos hB7 e1 e2 e3 e4 e5 e6 hln HST HST2
                  have x0 : X.cell? ⟨db, 0, none⟩ = some (.bool dn) := cell_blk HBX7.out rfl
                  have x1 : X.cell? ⟨db, 1, none⟩ = some (.int .i64 cd) := cell_blk HBX7.out rfl
                  have x2 : X.cell? ⟨db, 2, none⟩ = some (.slice sa sn sc) := cell_blk HBX7.out rfl
                  have x3 : X.cell? ⟨db, 3, none⟩ = some (.bool vl) := cell_blk HBX7.out rfl
                  have x4 : X.cell? ⟨db, 4, none⟩ = some (.int .i64 0) := cell_blk HBX7.out rfl
                  rcases hst with h | h
                  · have h1 : d.done = false := h.1
                    obtain rfl : dn = false := HQ.out.1.trans h1
                    have HRS := Lib.hid h.2.1
                    have HJ2 := Lib.hid h.2.2.1
                    clear h h1 hd
                    go_wp2_with (first | (with_reducible refine wpList_store_mid (by kernel_rfl) _ _ _ rfl db 0 (#[.bool false, .int .i64 cd, .slice sa sn sc, .bool vl, .int .i64 0, .bool mk, .bool false, .bool st, .int .i64 bfv]) (by kernel_rfl) (by kernel_rfl) hth hsd (by kernel_rfl) ?_) | (rw [← HX.out]))
                    go_roundw
                    case rel => exact ⟨j + 1, _, _, _, by omega, by go_num, by have := HJ2.out; omega, HRS.out, HBX7.out, rfl, HFX.out, HD7.out⟩
                    case measure => simp [intOf]; omega
                  · have hA : d = fAns N 1048576 M0 300 := h.1.trans (HINV.out (300 + T1) (by omega) (by omega))
                    have hmm : ws3 = fM N M := h.2.1
                    have hdn : d.done = true := by rw [hA]; exact fAns_done N _ M0 300
                    obtain rfl : dn = true := HQ.out.1.trans hdn
                    have HAA := Lib.hid hA
                    have HMM := Lib.hid hmm
                    obtain ⟨rfl, hrow1⟩ := HOW7.out.row32
                    have HR1 := Lib.hid hrow1
                    have HSML : Hid (d.data.length ≤ 1000000) := Lib.hid (by rw [hA]; exact fAns_len (HN0.out (fB N M0)) (by omega))
                    have HNX : Hid (∀ now, 300 ≤ now → now ≤ 810 → fAns N 1048576 ws3 now = fAns N 1048576 M0 300) := Lib.hid (fun now h1 h2 => by
                      rw [hmm]
                      exact (fAns_same (now := 300) (HNM.out (fB N M)) (by have := HNM.out (fB N M + 1); unfold fS; omega) (by have := HNM.out (fB N M + 1); unfold fS; omega)).trans (HINV.out 300 (by omega) (by omega)))
                    clear h hA hmm hdn hd hrow1
                    by_cases hk0 : kk = 0
                    · have b0 : ((kk : Int) == 0) = true := by rw [hk0]; rfl
                      have hthf := there_at (W := X) HFX.out.1 (n := (#[.int .i64 cd, .slice sa d.data.length sc, .bool vl, .int .i64 0] : Array Value).size) rfl
                      have hsf : (Tryz.prog.info? 54).map (·.size) = some (#[.int .i64 cd, .slice sa d.data.length sc, .bool vl, .int .i64 0] : Array Value).size := by kernel_rfl
                      obtain ⟨Y, HY⟩ : ∃ u, Hid (u = X.setCells fb 0 [.int .i64 cd, .slice sa d.data.length sc, .bool vl, .int .i64 0]) := ⟨_, rfl⟩
                      have hoy : Only (fun k => k = fb) X Y := by rw [HY.out]; exact Only.sets (S := fun k => k = fb) rfl _ 0 (Only.refl _ X)
                      have HYF : Hid (Y.heap[fb]? = some (.cells #[.int .i64 cd, .slice sa d.data.length sc, .bool vl, .int .i64 0] 54 (0, 0))) := Lib.hid (by rw [HY.out]; exact blk_over4 HFX.out.1 rfl _ rfl)
                      have hyd := hoy.at_ HBX7.out (fun e => HDF2.out e.symm)
                      have HOY := Lib.hid (HOW7.out.kept hoy (fun k hk e => HNG.out k hk e))
                      have HDY := Lib.hid (HD8.out.only hoy (fun k _ e => ⟨.inl e, by rw [e]; exact HFBW.out⟩) (E' := fun k => k = fb ∨ Value.ownBlock (.slice sa d.data.length sc) = some k) (fun k h => .inl (h.imp id .inr)))
                      have hry := HOY.out.row32.2
                      have HSA := Lib.hid (sameAns_eq cd vl 0 d.data sa sa sc sc Y hry hry HSML.out)
                      have y0 : Y.cell? ⟨db, 0, none⟩ = some (.bool true) := cell_blk hyd rfl
                      have y1 : Y.cell? ⟨db, 1, none⟩ = some (.int .i64 cd) := cell_blk hyd rfl
                      have y2 : Y.cell? ⟨db, 2, none⟩ = some (.slice sa d.data.length sc) := cell_blk hyd rfl
                      have y3 : Y.cell? ⟨db, 3, none⟩ = some (.bool vl) := cell_blk hyd rfl
                      have y4 : Y.cell? ⟨db, 4, none⟩ = some (.int .i64 0) := cell_blk hyd rfl
                      have f0 : Y.cell? ⟨fb, 0, none⟩ = some (.int .i64 cd) := cell_blk HYF.out rfl
                      have f1 : Y.cell? ⟨fb, 1, none⟩ = some (.slice sa d.data.length sc) := cell_blk HYF.out rfl
                      have f2 : Y.cell? ⟨fb, 2, none⟩ = some (.bool vl) := cell_blk HYF.out rfl
                      have f3 : Y.cell? ⟨fb, 3, none⟩ = some (.int .i64 0) := cell_blk HYF.out rfl
                      clear hoy hyd hry
                      go_wp2_with (first | (with_reducible refine wpList_store_mid (by kernel_rfl) _ _ _ rfl db 0 (#[.bool true, .int .i64 cd, .slice sa d.data.length sc, .bool vl, .int .i64 0, .bool mk, .bool false, .bool st, .int .i64 bfv]) (by kernel_rfl) (by kernel_rfl) hth hsd (by kernel_rfl) ?_) | (rw [← HX.out]) | (with_reducible refine wpList_store_mid (by kernel_rfl) _ _ _ rfl fb 0 (#[.int .i64 cd, .slice sa d.data.length sc, .bool vl, .int .i64 0]) (by kernel_rfl) (by kernel_rfl) hthf hsf (by kernel_rfl) ?_) | (rw [← HY.out]))
                      refine HSA.out.mono ?_
                      rintro e w8 ⟨rfl, hb8⟩
                      have HD9 := Lib.hid (HDY.out.later hb8)
                      have HF9 := Lib.hid ((hb8.block fb (Array.getElem?_eq_some_iff.1 HYF.out).1).trans HYF.out)
                      have HO9 := Lib.hid (HOY.out.keptB hb8)
                      clear hb8 y0 y1 y2 y3 y4 f0 f1 f2 f3 x0 x1 x2 x3 x4
                      go_wp2
                      go_roundw
                      case rel => exact ⟨kk + 1, ws3, sa, d.data.length, sc, cd, vl, by omega, by go_num, HNX.out, ⟨HF9.out, fun _ => ⟨HQ.out.2.1.trans (by rw [HAA.out]), HQ.out.2.2.1.trans (by rw [HAA.out]), by have q := HO9.out; rw [← HAA.out]; exact q⟩⟩, HD9.out⟩
                      case measure => simp [intOf]; omega
                    · have b0 : ((kk : Int) == 0) = false := beq_false_of_ne (by omega)
                      obtain ⟨q1, q2, q3⟩ := HFX.out.2 (by omega)
                      have hcd : cd = cd0 := HQ.out.2.1.trans (by rw [HAA.out]; exact q1.symm)
                      have hvl : vl = v0 := HQ.out.2.2.1.trans (by rw [HAA.out]; exact q2.symm)
                      obtain ⟨hn0, hr0⟩ := q3.row32
                      have hn1 : n0 = d.data.length := by rw [HAA.out]; exact hn0
                      subst hcd hvl hn1
                      have hr2 : IntRowK .u32 X X.heap.size a0 d.data := by rw [HAA.out]; exact hr0
                      have HSA := Lib.hid (sameAns_eq cd vl 0 d.data sa a0 sc c0 X HR1.out hr2 HSML.out)
                      have HDY := Lib.hid (HD8.out.fewer (E' := fun k => k = fb ∨ Value.ownBlock (.slice a0 d.data.length c0) = some k) (fun k h => h.imp id .inl))
                      have f0 : X.cell? ⟨fb, 0, none⟩ = some (.int .i64 cd) := cell_blk HFX.out.1 rfl
                      have f1 : X.cell? ⟨fb, 1, none⟩ = some (.slice a0 d.data.length c0) := cell_blk HFX.out.1 rfl
                      have f2 : X.cell? ⟨fb, 2, none⟩ = some (.bool vl) := cell_blk HFX.out.1 rfl
                      have f3 : X.cell? ⟨fb, 3, none⟩ = some (.int .i64 0) := cell_blk HFX.out.1 rfl
                      clear q1 q2 q3 hn0 hr0 hr2
                      go_wp2_with (first | (with_reducible refine wpList_store_mid (by kernel_rfl) _ _ _ rfl db 0 (#[.bool true, .int .i64 cd, .slice sa d.data.length sc, .bool vl, .int .i64 0, .bool mk, .bool false, .bool st, .int .i64 bfv]) (by kernel_rfl) (by kernel_rfl) hth hsd (by kernel_rfl) ?_) | (rw [← HX.out]))
                      refine HSA.out.mono ?_
                      rintro e w8 ⟨rfl, hb8⟩
                      have HD9 := Lib.hid (HDY.out.later hb8)
                      have HF9 := Lib.hid ((hb8.block fb (Array.getElem?_eq_some_iff.1 HFX.out.1).1).trans HFX.out.1)
                      have HO9 := Lib.hid (fun h => (HFX.out.2 h).2.2.keptB hb8)
                      clear hb8 f0 f1 f2 f3 x0 x1 x2 x3 x4
                      go_wp2
                      go_roundw
                      case rel => exact ⟨kk + 1, ws3, a0, d.data.length, c0, cd, vl, by omega, by go_num, HNX.out, ⟨HF9.out, fun _ => ⟨(HFX.out.2 (by omega)).1, (HFX.out.2 (by omega)).2.1, HO9.out (by omega)⟩⟩, HD9.out⟩
                      case measure => simp [intOf]; omega
              · have HDU := Lib.hid hdu
                clear hinv hfst hdu
                go_wp2
                go_ret
                exact ⟨rfl, HBW.out.trans (HDU.out.below.mono HBW.out.size)⟩
          | some s =>
            rw [hr] at q8
            have g8 : wr.cell? ⟨pb, 8, none⟩ = some (.pointer (some ⟨rq, 0, none⟩)) := q8
            clear q8 hr
            go_wp2_with fail
            refine (read_b 300 (by omega) HP.out (by omega) (playR_ok HINV.out 300).1).mono ?_
            rintro e w5 ⟨rfl, rq', hp5, ho5⟩
            have HP5 := Lib.hid hp5
            clear hp5 ho5 g8
            go_wp2
            go_roundw
            case rel => exact ⟨j + 1, _, rq', by omega, by go_num, (playR_ok HINV.out 300).2.1, HP5.out⟩
            case measure => simp [intOf]; omega
        · have HP := Lib.hid hp
          have s40 : ¬ ((j : Int) < 40) := by omega
          obtain ⟨ow, how⟩ : ∃ o, atW P.w wq = o := ⟨_, rfl⟩
          obtain ⟨M0, hM0⟩ : ∃ o, P.m = o := ⟨_, rfl⟩
          have HDP : Hid (Duo W wr W.heap.size (fun _ => False) mb rb (fr2 N 1048576) M0 ow none) := Lib.hid (by rw [← how, ← hM0]; exact HP.out.fin)
          clear hinv hp how hM0
          obtain ⟨fb, hfb⟩ : ∃ d, d = wr.heap.size := ⟨_, rfl⟩
          obtain ⟨wf, HWF2⟩ : ∃ u, Hid (u = wr.alloc (.cells #[.int .i64 0, .slice none 0 0, .bool false, .int .i64 0] 54)) := ⟨_, rfl⟩
          have hzf : wf.heap[fb]? = some (.cells #[.int .i64 0, .slice none 0 0, .bool false, .int .i64 0] 54 (0, 0)) := by rw [HWF2.out, hfb]; exact heap_alloc_new _ _
          have HZF := Lib.hid hzf
          have HDF : Hid (Duo W wf W.heap.size (fun k => k = fb ∨ Value.ownBlock (.slice none 0 0) = some k) mb rb (fr2 N 1048576) M0 ow none) := Lib.hid (HDP.out.only (T := fun _ => False) (by rw [HWF2.out]; exact (Only.refl _ _).alloc _) (fun _ _ h => h.elim) (fun k e => e.elim (fun e => .inr ⟨by omega, by have := (Array.getElem?_eq_some_iff.1 hzf).1; omega⟩) (fun e => by cases e)))
          have HFB := Lib.hid hfb
          have HFBW : Hid (W.heap.size ≤ fb) := Lib.hid (by have := HDP.out.below.size; omega)
          have HN0 : Hid (∀ a, 0 ≤ rd M0 a) := Lib.hid (fun a => (HDP.out.w32 a).1)
          clear hfb hzf
          go_wp2_with (first | (simp only [← HFB.out]; rw [← HWF2.out]) | (rw [← HWF2.out]))
          (try rw [show decide ((j : Int) < 40) = false from decide_eq_false (by omega)])
          go_loopw [68] (fun ix wr => ∃ (kk : Nat) (M : List Int) (a0 : Option Addr) (n0 c0 : Nat) (cd0 : Int) (v0 : Bool), kk ≤ 3 ∧ ix = .int .i64 kk ∧ (∀ now, 300 ≤ now → now ≤ 810 → fAns N 1048576 M now = fAns N 1048576 M0 300) ∧ (wr.heap[fb]? = some (.cells #[.int .i64 cd0, .slice a0 n0 c0, .bool v0, .int .i64 0] 54 (0, 0)) ∧ (1 ≤ kk → cd0 = (fAns N 1048576 M0 300).code ∧ v0 = (fAns N 1048576 M0 300).valid ∧ OwnsOff wr 0 34 1 (.slice a0 n0 c0) n0 (wcells (fAns N 1048576 M0 300).data))) ∧ Duo W wr W.heap.size (fun k => k = fb ∨ Value.ownBlock (.slice a0 n0 c0) = some k) mb rb (fr2 N 1048576) M ow none) (fun ix _ => 3 - (intOf ix).toNat)
          case atStart => exact ⟨0, M0, none, 0, 0, 0, false, by omega, rfl, fun now h1 h2 => fAns_when HN0.out (by omega) (by omega), ⟨HZF.out, fun h => by omega⟩, HDF.out⟩
          case round =>
            obtain ⟨kk, M, a0, n0, c0, cd0, v0, hkk, rfl, hinv, hfst, hdu⟩ := hrel
            by_cases hk3 : kk < 3
            · obtain ⟨T1, hT1⟩ : ∃ T1, (kk : Int) * tk = T1 := ⟨_, rfl⟩
              have hTb : 0 ≤ T1 ∧ T1 ≤ 510 := by
                rcases (show kk = 0 ∨ kk = 1 ∨ kk = 2 by omega) with rfl | rfl | rfl <;> (rw [← hT1]; constructor <;> push_cast <;> omega)
              obtain ⟨T2, T3⟩ := hTb
              have HNM : Hid (∀ a, 0 ≤ rd M a) := Lib.hid (fun a => (hdu.w32 a).1)
              have HNR : Hid (Calls Tryz.prog 15 #[.agg #[.slice x.pa 2 x.pc, .slice x.ca 1 x.cc, .int .i64 1, .slice x.aa 1 x.ac, .int .i64 1, .slice x.ba 1 x.bc], .int .i64 0] wr (GivesNewR wr (fr2 N 1048576))) := Lib.hid (newR_b (cfg2 N 1048576) x 0 (fr2 N 1048576) wr (HXW.out.later hdu.below) HWF.out HFW.out HF.out)
              obtain ⟨c0', c1, c2, c3, c4, c5⟩ := HBX.out wr hdu.below
              have HDU := Lib.hid hdu; have HFST := Lib.hid hfst; have HINV := Lib.hid hinv
              clear hdu hfst hinv
              go_wp2_with fail
              refine HNR.out.mono ?_
              rintro e w5 ⟨rq, Sr, rfl, hat5, hS5, hb5⟩
              have HD5 := Lib.hid (HDU.out.newR hat5 hS5 hb5 (show W32 [] from fun a => by unfold rd; simp))
              have hF5 : w5.heap[fb]? = some (.cells #[.int .i64 cd0, .slice a0 n0 c0, .bool v0, .int .i64 0] 54 (0, 0)) ∧ (1 ≤ kk → cd0 = (fAns N 1048576 M0 300).code ∧ v0 = (fAns N 1048576 M0 300).valid ∧ OwnsOff w5 0 34 1 (.slice a0 n0 c0) n0 (wcells (fAns N 1048576 M0 300).data)) := ⟨(hb5.block fb (Array.getElem?_eq_some_iff.1 HFST.out.1).1).trans HFST.out.1, fun h => ⟨(HFST.out.2 h).1, (HFST.out.2 h).2.1, (HFST.out.2 h).2.2.keptB hb5⟩⟩
              have HF5 := Lib.hid hF5
              clear hat5 hS5 hb5 c0' c1 c2 c3 c4 c5 hF5
              obtain ⟨db, hdb⟩ : ∃ d, d = w5.heap.size := ⟨_, rfl⟩
              obtain ⟨w6, HW6⟩ : ∃ u, Hid (u = w5.alloc (.cells #[.bool false, .int .i64 0, .slice none 0 0, .bool false, .int .i64 0, .bool false, .bool false, .bool false, .int .i64 0] 56)) := ⟨_, rfl⟩
              have hz6 : w6.heap[db]? = some (.cells #[.bool false, .int .i64 0, .slice none 0 0, .bool false, .int .i64 0, .bool false, .bool false, .bool false, .int .i64 0] 56 (0, 0)) := by rw [HW6.out, hdb]; exact heap_alloc_new _ _
              have hb6 : Below w5.heap.size w5 w6 := by rw [HW6.out]; exact (Below.refl _ _).alloc (Nat.le_refl _) _
              have HZ6 := Lib.hid hz6
              have HF6 : Hid (w6.heap[fb]? = some (.cells #[.int .i64 cd0, .slice a0 n0 c0, .bool v0, .int .i64 0] 54 (0, 0)) ∧ (1 ≤ kk → cd0 = (fAns N 1048576 M0 300).code ∧ v0 = (fAns N 1048576 M0 300).valid ∧ OwnsOff w6 0 34 1 (.slice a0 n0 c0) n0 (wcells (fAns N 1048576 M0 300).data))) := Lib.hid ⟨(hb6.block fb (Array.getElem?_eq_some_iff.1 HF5.out.1).1).trans HF5.out.1, fun h => ⟨(HF5.out.2 h).1, (HF5.out.2 h).2.1, (HF5.out.2 h).2.2.keptB hb6⟩⟩
              have HD6 : Hid (Duo W w6 W.heap.size (fun k => (k = fb ∨ Value.ownBlock (.slice a0 n0 c0) = some k) ∨ k = db) mb rb (fr2 N 1048576) M ow (some (rq, Simp.start []))) := Lib.hid (HD5.out.only (T := fun _ => False) (Only.of_below hb6) (fun _ _ h => h.elim) (fun k e => e.elim .inl (fun e => .inr ⟨by omega, by have := (Array.getElem?_eq_some_iff.1 hz6).1; omega⟩)))
              have HDBW : Hid (W.heap.size ≤ db) := Lib.hid (by have := HD5.out.below.size; omega)
              have HDF2 : Hid (fb ≠ db) := Lib.hid (by have := (Array.getElem?_eq_some_iff.1 HF5.out.1).1; omega)
              have HOD2 : Hid (∀ k, Value.ownBlock (.slice a0 n0 c0) = some k → k ≠ db) := Lib.hid (fun k hk e => by obtain ⟨_, _, _, _, h3, _⟩ := HD5.out.two; have := (h3 k (.inr hk)).2.2.2.2; omega)
              have HDB := Lib.hid hdb
              clear hdb hz6 hb6
              go_wp2_with (first | (simp only [← HDB.out]; rw [← HW6.out]) | (rw [← HW6.out]))
              go_loopw [73] (fun ix wr => ∃ (j : Nat) (t2 : FS) (mm2 : List Int) (cs : Array Value), j ≤ 40 ∧ ix = .int .i64 j ∧ (j : Int) ≤ 4 + fL N M ∧ RS N M t2 mm2 j ∧ wr.heap[db]? = some (.cells cs 56 (0, 0)) ∧ cs.size = 9 ∧ (wr.heap[fb]? = some (.cells #[.int .i64 cd0, .slice a0 n0 c0, .bool v0, .int .i64 0] 54 (0, 0)) ∧ (1 ≤ kk → cd0 = (fAns N 1048576 M0 300).code ∧ v0 = (fAns N 1048576 M0 300).valid ∧ OwnsOff wr 0 34 1 (.slice a0 n0 c0) n0 (wcells (fAns N 1048576 M0 300).data))) ∧ Duo W wr W.heap.size (fun k => (k = fb ∨ Value.ownBlock (.slice a0 n0 c0) = some k) ∨ k = db) mb rb (fr2 N 1048576) mm2 ow (some (rq, t2))) (fun ix _ => 40 - (intOf ix).toNat)
              case atStart => exact ⟨0, _, _, _, by omega, rfl, by have := fL_in (N := N) (HNM.out (fB N M)); omega, rs_start N M, HZ6.out, rfl, HF6.out, HD6.out⟩
              case round =>
                obtain ⟨j, t2, mm2, cs, hj, rfl, hjl, hrs, hbox, hcs, hfst, hduo⟩ := hrel
                have hfl := fL_in (N := N) (HNM.out (fB N M))
                have hj9 : j < 40 := by omega
                have HST := Lib.hid (hduo.stR (300 + T1) (by omega))
                have HST2 := Lib.hid (hrs.step (per := 1048576) (now := 300 + T1) HNM.out)
                have HBOX := Lib.hid hbox; have HCS := Lib.hid hcs; have HFS := Lib.hid hfst; have HJL := Lib.hid (And.intro hjl hfl)
                have s4 : (j : Int) < 40 := by omega
                clear hrs hduo hbox hcs hfst hjl hfl
                go_wp2_with fail
                refine HST.out.mono ?_
                rintro e w7 ⟨sa, sc, sn, dn, cd, vl, mk, st, bfv, s3, ws3, rfl, ⟨d, hd, e1, e2, e3, e4, e5, e6, hln, hown, -⟩, hd7, hd8, hng, ho7⟩
                have hst := HST2.out
                rw [hd] at hst
                have hB7 := ho7.at_ HBOX.out (fun h => h.1 (.inr rfl))
                have hth : w7.there db 0 (#[.bool dn, .int .i64 cd, .slice sa sn sc, .bool vl, .int .i64 0, .bool mk, .bool false, .bool st, .int .i64 bfv] : Array Value).size := there_at hB7 (by rw [HCS.out]; rfl)
                have hsd : (Tryz.prog.info? 56).map (·.size) = some (#[.bool dn, .int .i64 cd, .slice sa sn sc, .bool vl, .int .i64 0, .bool mk, .bool false, .bool st, .int .i64 bfv] : Array Value).size := did_size
                obtain ⟨X, HX⟩ : ∃ u, Hid (u = w7.setCells db 0 [.bool dn, .int .i64 cd, .slice sa sn sc, .bool vl, .int .i64 0, .bool mk, .bool false, .bool st, .int .i64 bfv]) := ⟨_, rfl⟩
                have hos : Only (fun k => k = db) w7 X := by rw [HX.out]; exact Only.sets (S := fun k => k = db) rfl [.bool dn, .int .i64 cd, .slice sa sn sc, .bool vl, .int .i64 0, .bool mk, .bool false, .bool st, .int .i64 bfv] 0 (Only.refl _ w7)
                have HBX7 : Hid (X.heap[db]? = some (.cells #[.bool dn, .int .i64 cd, .slice sa sn sc, .bool vl, .int .i64 0, .bool mk, .bool false, .bool st, .int .i64 bfv] 56 (0, 0))) := Lib.hid (by rw [HX.out]; exact blk_over hB7 HCS.out [.bool dn, .int .i64 cd, .slice sa sn sc, .bool vl, .int .i64 0, .bool mk, .bool false, .bool st, .int .i64 bfv] rfl)
                have HD7 := Lib.hid (hd7.only hos (fun k _ e => ⟨.inr e, by rw [e]; exact HDBW.out⟩) (E' := (fun k => (k = fb ∨ Value.ownBlock (.slice a0 n0 c0) = some k) ∨ k = db)) (fun k h => .inl h))
                have HD8 := Lib.hid (hd8.only hos (fun k _ e => ⟨.inl (.inr e), by rw [e]; exact HDBW.out⟩) (E' := fun k => k = fb ∨ Value.ownBlock (.slice a0 n0 c0) = some k ∨ Value.ownBlock (.slice sa sn sc) = some k) (fun k h => .inl (h.elim (fun h => .inl (.inl (.inl h))) (fun h => h.elim (fun h => .inl (.inl (.inr h))) .inr))))
                have HOW7 : Hid (OwnsOff X 0 34 1 (.slice sa sn sc) sn (wcells d.data)) := Lib.hid (hown.kept hos (fun k hk e => (hng k hk).1 (.inr e)))
                have HNG : Hid (∀ k, Value.ownBlock (.slice sa sn sc) = some k → k ≠ fb) := Lib.hid (fun k hk e => (hng k hk).1 (.inl (.inl e)))
                have HFX : Hid (X.heap[fb]? = some (.cells #[.int .i64 cd0, .slice a0 n0 c0, .bool v0, .int .i64 0] 54 (0, 0)) ∧ (1 ≤ kk → cd0 = (fAns N 1048576 M0 300).code ∧ v0 = (fAns N 1048576 M0 300).valid ∧ OwnsOff X 0 34 1 (.slice a0 n0 c0) n0 (wcells (fAns N 1048576 M0 300).data))) := Lib.hid ⟨hos.at_ (ho7.at_ HFS.out.1 (fun h => h.1 (.inl (.inl rfl)))) HDF2.out, fun h => ⟨(HFS.out.2 h).1, (HFS.out.2 h).2.1, ((HFS.out.2 h).2.2.kept ho7 (fun k hk e => e.1 (.inl (.inr hk)))).kept hos (fun k hk e => HOD2.out k hk e)⟩⟩
                have HQ := Lib.hid (And.intro e1 (And.intro e2 (And.intro e3 e4)))
                clear hown hng ho7 hd7 hd8 hos hB7 e1 e2 e3 e4 e5 e6 hln HST HST2
                have x0 : X.cell? ⟨db, 0, none⟩ = some (.bool dn) := cell_blk HBX7.out rfl
                have x1 : X.cell? ⟨db, 1, none⟩ = some (.int .i64 cd) := cell_blk HBX7.out rfl
                have x2 : X.cell? ⟨db, 2, none⟩ = some (.slice sa sn sc) := cell_blk HBX7.out rfl
                have x3 : X.cell? ⟨db, 3, none⟩ = some (.bool vl) := cell_blk HBX7.out rfl
                have x4 : X.cell? ⟨db, 4, none⟩ = some (.int .i64 0) := cell_blk HBX7.out rfl
                rcases hst with h | h
                · have h1 : d.done = false := h.1
                  obtain rfl : dn = false := HQ.out.1.trans h1
                  have HRS := Lib.hid h.2.1
                  have HJ2 := Lib.hid h.2.2.1
                  clear h h1 hd
                  go_wp2_with (first | (with_reducible refine wpList_store_mid (by kernel_rfl) _ _ _ rfl db 0 (#[.bool false, .int .i64 cd, .slice sa sn sc, .bool vl, .int .i64 0, .bool mk, .bool false, .bool st, .int .i64 bfv]) (by kernel_rfl) (by kernel_rfl) hth hsd (by kernel_rfl) ?_) | (rw [← HX.out]))
                  go_roundw
                  case rel => exact ⟨j + 1, _, _, _, by omega, by go_num, by have := HJ2.out; omega, HRS.out, HBX7.out, rfl, HFX.out, HD7.out⟩
                  case measure => simp [intOf]; omega
                · have hA : d = fAns N 1048576 M0 300 := h.1.trans (HINV.out (300 + T1) (by omega) (by omega))
                  have hmm : ws3 = fM N M := h.2.1
                  have hdn : d.done = true := by rw [hA]; exact fAns_done N _ M0 300
                  obtain rfl : dn = true := HQ.out.1.trans hdn
                  have HAA := Lib.hid hA
                  have HMM := Lib.hid hmm
                  obtain ⟨rfl, hrow1⟩ := HOW7.out.row32
                  have HR1 := Lib.hid hrow1
                  have HSML : Hid (d.data.length ≤ 1000000) := Lib.hid (by rw [hA]; exact fAns_len (HN0.out (fB N M0)) (by omega))
                  have HNX : Hid (∀ now, 300 ≤ now → now ≤ 810 → fAns N 1048576 ws3 now = fAns N 1048576 M0 300) := Lib.hid (fun now h1 h2 => by
                    rw [hmm]
                    exact (fAns_same (now := 300) (HNM.out (fB N M)) (by have := HNM.out (fB N M + 1); unfold fS; omega) (by have := HNM.out (fB N M + 1); unfold fS; omega)).trans (HINV.out 300 (by omega) (by omega)))
                  clear h hA hmm hdn hd hrow1
                  by_cases hk0 : kk = 0
                  · have b0 : ((kk : Int) == 0) = true := by rw [hk0]; rfl
                    have hthf := there_at (W := X) HFX.out.1 (n := (#[.int .i64 cd, .slice sa d.data.length sc, .bool vl, .int .i64 0] : Array Value).size) rfl
                    have hsf : (Tryz.prog.info? 54).map (·.size) = some (#[.int .i64 cd, .slice sa d.data.length sc, .bool vl, .int .i64 0] : Array Value).size := by kernel_rfl
                    obtain ⟨Y, HY⟩ : ∃ u, Hid (u = X.setCells fb 0 [.int .i64 cd, .slice sa d.data.length sc, .bool vl, .int .i64 0]) := ⟨_, rfl⟩
                    have hoy : Only (fun k => k = fb) X Y := by rw [HY.out]; exact Only.sets (S := fun k => k = fb) rfl _ 0 (Only.refl _ X)
                    have HYF : Hid (Y.heap[fb]? = some (.cells #[.int .i64 cd, .slice sa d.data.length sc, .bool vl, .int .i64 0] 54 (0, 0))) := Lib.hid (by rw [HY.out]; exact blk_over4 HFX.out.1 rfl _ rfl)
                    have hyd := hoy.at_ HBX7.out (fun e => HDF2.out e.symm)
                    have HOY := Lib.hid (HOW7.out.kept hoy (fun k hk e => HNG.out k hk e))
                    have HDY := Lib.hid (HD8.out.only hoy (fun k _ e => ⟨.inl e, by rw [e]; exact HFBW.out⟩) (E' := fun k => k = fb ∨ Value.ownBlock (.slice sa d.data.length sc) = some k) (fun k h => .inl (h.imp id .inr)))
                    have hry := HOY.out.row32.2
                    have HSA := Lib.hid (sameAns_eq cd vl 0 d.data sa sa sc sc Y hry hry HSML.out)
                    have y0 : Y.cell? ⟨db, 0, none⟩ = some (.bool true) := cell_blk hyd rfl
                    have y1 : Y.cell? ⟨db, 1, none⟩ = some (.int .i64 cd) := cell_blk hyd rfl
                    have y2 : Y.cell? ⟨db, 2, none⟩ = some (.slice sa d.data.length sc) := cell_blk hyd rfl
                    have y3 : Y.cell? ⟨db, 3, none⟩ = some (.bool vl) := cell_blk hyd rfl
                    have y4 : Y.cell? ⟨db, 4, none⟩ = some (.int .i64 0) := cell_blk hyd rfl
                    have f0 : Y.cell? ⟨fb, 0, none⟩ = some (.int .i64 cd) := cell_blk HYF.out rfl
                    have f1 : Y.cell? ⟨fb, 1, none⟩ = some (.slice sa d.data.length sc) := cell_blk HYF.out rfl
                    have f2 : Y.cell? ⟨fb, 2, none⟩ = some (.bool vl) := cell_blk HYF.out rfl
                    have f3 : Y.cell? ⟨fb, 3, none⟩ = some (.int .i64 0) := cell_blk HYF.out rfl
                    clear hoy hyd hry
                    go_wp2_with (first | (with_reducible refine wpList_store_mid (by kernel_rfl) _ _ _ rfl db 0 (#[.bool true, .int .i64 cd, .slice sa d.data.length sc, .bool vl, .int .i64 0, .bool mk, .bool false, .bool st, .int .i64 bfv]) (by kernel_rfl) (by kernel_rfl) hth hsd (by kernel_rfl) ?_) | (rw [← HX.out]) | (with_reducible refine wpList_store_mid (by kernel_rfl) _ _ _ rfl fb 0 (#[.int .i64 cd, .slice sa d.data.length sc, .bool vl, .int .i64 0]) (by kernel_rfl) (by kernel_rfl) hthf hsf (by kernel_rfl) ?_) | (rw [← HY.out]))
                    refine HSA.out.mono ?_
                    rintro e w8 ⟨rfl, hb8⟩
                    have HD9 := Lib.hid (HDY.out.later hb8)
                    have HF9 := Lib.hid ((hb8.block fb (Array.getElem?_eq_some_iff.1 HYF.out).1).trans HYF.out)
                    have HO9 := Lib.hid (HOY.out.keptB hb8)
                    clear hb8 y0 y1 y2 y3 y4 f0 f1 f2 f3 x0 x1 x2 x3 x4
                    go_wp2
                    go_roundw
                    case rel => exact ⟨kk + 1, ws3, sa, d.data.length, sc, cd, vl, by omega, by go_num, HNX.out, ⟨HF9.out, fun _ => ⟨HQ.out.2.1.trans (by rw [HAA.out]), HQ.out.2.2.1.trans (by rw [HAA.out]), by have q := HO9.out; rw [← HAA.out]; exact q⟩⟩, HD9.out⟩
                    case measure => simp [intOf]; omega
                  · have b0 : ((kk : Int) == 0) = false := beq_false_of_ne (by omega)
                    obtain ⟨q1, q2, q3⟩ := HFX.out.2 (by omega)
                    have hcd : cd = cd0 := HQ.out.2.1.trans (by rw [HAA.out]; exact q1.symm)
                    have hvl : vl = v0 := HQ.out.2.2.1.trans (by rw [HAA.out]; exact q2.symm)
                    obtain ⟨hn0, hr0⟩ := q3.row32
                    have hn1 : n0 = d.data.length := by rw [HAA.out]; exact hn0
                    subst hcd hvl hn1
                    have hr2 : IntRowK .u32 X X.heap.size a0 d.data := by rw [HAA.out]; exact hr0
                    have HSA := Lib.hid (sameAns_eq cd vl 0 d.data sa a0 sc c0 X HR1.out hr2 HSML.out)
                    have HDY := Lib.hid (HD8.out.fewer (E' := fun k => k = fb ∨ Value.ownBlock (.slice a0 d.data.length c0) = some k) (fun k h => h.imp id .inl))
                    have f0 : X.cell? ⟨fb, 0, none⟩ = some (.int .i64 cd) := cell_blk HFX.out.1 rfl
                    have f1 : X.cell? ⟨fb, 1, none⟩ = some (.slice a0 d.data.length c0) := cell_blk HFX.out.1 rfl
                    have f2 : X.cell? ⟨fb, 2, none⟩ = some (.bool vl) := cell_blk HFX.out.1 rfl
                    have f3 : X.cell? ⟨fb, 3, none⟩ = some (.int .i64 0) := cell_blk HFX.out.1 rfl
                    clear q1 q2 q3 hn0 hr0 hr2
                    go_wp2_with (first | (with_reducible refine wpList_store_mid (by kernel_rfl) _ _ _ rfl db 0 (#[.bool true, .int .i64 cd, .slice sa d.data.length sc, .bool vl, .int .i64 0, .bool mk, .bool false, .bool st, .int .i64 bfv]) (by kernel_rfl) (by kernel_rfl) hth hsd (by kernel_rfl) ?_) | (rw [← HX.out]))
                    refine HSA.out.mono ?_
                    rintro e w8 ⟨rfl, hb8⟩
                    have HD9 := Lib.hid (HDY.out.later hb8)
                    have HF9 := Lib.hid ((hb8.block fb (Array.getElem?_eq_some_iff.1 HFX.out.1).1).trans HFX.out.1)
                    have HO9 := Lib.hid (fun h => (HFX.out.2 h).2.2.keptB hb8)
                    clear hb8 f0 f1 f2 f3 x0 x1 x2 x3 x4
                    go_wp2
                    go_roundw
                    case rel => exact ⟨kk + 1, ws3, a0, d.data.length, c0, cd, vl, by omega, by go_num, HNX.out, ⟨HF9.out, fun _ => ⟨(HFX.out.2 (by omega)).1, (HFX.out.2 (by omega)).2.1, HO9.out (by omega)⟩⟩, HD9.out⟩
                    case measure => simp [intOf]; omega
            · have HDU := Lib.hid hdu
              clear hinv hfst hdu
              go_wp2
              go_ret
              exact ⟨rfl, HBW.out.trans (HDU.out.below.mono HBW.out.size)⟩
end Go.Proofs.YtocdidkfnbkkhaaGreat
