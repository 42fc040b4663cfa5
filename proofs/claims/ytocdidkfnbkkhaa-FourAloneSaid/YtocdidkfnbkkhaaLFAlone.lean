/- FourAlone answers true. No condition but those in the statements. -/
import Derived.Test.YtocdidkfnbkkhaaFSame
import Derived.BigQuiet
import Derived.IntWalk
import Derived.Deep.MidRow
import Derived.Deep.Upon
import Derived.BigRegion
import Derived.Shelf.Abstract
import Derived.Deep.RegionHeld3
namespace Go.Proofs.Ytocdidkfnbkkhaa
open Go.RowKit Go.Sort
set_option linter.unusedVariables false
set_option linter.unusedSimpArgs false
set_option linter.unusedVariables false
set_option linter.unusedSimpArgs false

open Go.Proofs.Ytocdidkfnbkkhaa.Simp
set_option maxRecDepth 100000
set_option maxHeartbeats 6400000
theorem lalone_b (zs : List Int) (A : Option Addr) (cap : Nat) (pr ta tb : Int) (w : World) (hc : zs.length ≤ cap) (hm : cap ≤ maxLen) (hrow : IntRowK .u32 w w.heap.size A zs) (h32 : W32 zs) (hp : 0 ≤ pr ∧ pr ≤ 65535) (ha : 0 ≤ ta ∧ ta ≤ 65535) (hb : 0 ≤ tb ∧ tb ≤ 65535) :
    Calls Try.prog 4 #[.slice A zs.length cap, .int .u16 pr, .agg #[.int .u16 ta, .int .u16 tb]] w fun e w' => e = .returned (.bool true) ∧ Below w.heap.size w w' := by
  obtain ⟨W0, HW0⟩ : ∃ u, Hid (u = w.alloc (.cells #[.int .u16 ta, .int .u16 tb] 48)) := ⟨_, rfl⟩
  have hB0 : Below w.heap.size w W0 := by rw [HW0.out]; exact (Below.refl _ _).alloc (Nat.le_refl _) _
  have hz0 : W0.heap[w.heap.size]? = some (.cells #[.int .u16 ta, .int .u16 tb] 48 (0, 0)) := by rw [HW0.out]; exact heap_alloc_new w _
  have HZ0 := Lib.hid hz0; have HB0 := Lib.hid hB0; have HROW := Lib.hid hrow; have H32 := Lib.hid h32
  obtain ⟨p0, p1⟩ := hp
  obtain ⟨a0, a1⟩ := ha
  obtain ⟨b0, b1⟩ := hb
  clear hz0 hB0 hrow h32
  by_cases hl1 : zs.length < 1
  · have s1 : (zs.length : Int) < 1 := by omega
    go_enter Try.func4, Try.ntmps4
    go_wp2_with (rw [← HW0.out])
    refine (wakes_b W0).mono ?_
    rintro e wv ⟨rfl, hbv⟩
    go_wp2
    go_ret
    exact ⟨rfl, HB0.out.trans (hbv.mono HB0.out.size)⟩
  have s1 : ¬ ((zs.length : Int) < 1) := by omega
  by_cases hl2 : 16 < zs.length
  · have s2 : (16 : Int) < (zs.length : Int) := by omega
    go_enter Try.func4, Try.ntmps4
    go_wp2_with (rw [← HW0.out])
    refine (wakes_b W0).mono ?_
    rintro e wv ⟨rfl, hbv⟩
    go_wp2
    go_ret
    exact ⟨rfl, HB0.out.trans (hbv.mono HB0.out.size)⟩
  have s2 : ¬ ((16 : Int) < (zs.length : Int)) := by omega
  obtain ⟨g, off, rfl, hg, hcell⟩ := HROW.out (by omega)
  have HCELL := Lib.hid hcell; have HG := Lib.hid hg
  clear hcell hg
  have hF : FrOf (cfg2 16 pr) 0 (fr2 16 pr) := frOf2 (n := 16) (by omega) (by omega) (by omega) (by omega)
  have hwf : CfgWf (cfg2 16 pr) := cfg2_wf (i64_of (by omega)) (i64_of (by omega))
  have hfw := cfg2_few 16 pr
  have hsz := cfg2_size (n := 16) (per := pr) (by omega) (by omega) (by omega) (by omega)
  have HF := Lib.hid hF; have HWF := Lib.hid hwf; have HFW := Lib.hid hfw; have HSZ0 := Lib.hid hsz
  have HTW := Lib.hid (fun (w : World) => two_at 16 16 pr w (by rfl) (by omega) (by omega))
  have HMN := Lib.hid (fun (w : World) => memNew_at 77 77 (by rfl) w (by omega))
  clear hF hwf hfw hsz
  go_enter Try.func4, Try.ntmps4
  go_wp2_with (rw [← HW0.out])
  refine (wakes_b W0).mono ?_
  rintro e wv ⟨rfl, hbv⟩
  have HBV := Lib.hid (HB0.out.trans (hbv.mono HB0.out.size))
  have HZV := Lib.hid ((hbv.block _ (Array.getElem?_eq_some_iff.1 HZ0.out).1).trans HZ0.out)
  clear hbv
  go_wp2_with fail
  refine (HTW.out wv).mono ?_
  rintro e w1 ⟨x, rfl, hx, hb1⟩
  obtain ⟨W, HW, hB, hWs, bx⟩ := one_cbox w1 (cfg2 16 pr) x 31
  have hxW := hx.later hB
  have hb1w := HBV.out.trans (hb1.mono HBV.out.size)
  have HBW := Lib.hid (hb1w.trans (hB.mono hb1w.size))
  have HXW := Lib.hid hxW
  have HZW := Lib.hid (((hb1.trans (hB.mono hb1.size)).block _ (Array.getElem?_eq_some_iff.1 HZV.out).1).trans HZV.out)
  have HSZ : Hid (Calls Try.prog 9 #[.agg #[.slice x.pa 2 x.pc, .slice x.ca 1 x.cc, .int .i64 1, .slice x.aa 1 x.ac, .int .i64 1, .slice x.ba 1 x.bc]] W fun e w' => e = .returned (.int .i64 77) ∧ Below W.heap.size W w') := Lib.hid (by
    have q := rsize_b (cfg2 16 pr) x W hxW HWF.out HFW.out
    rw [HSZ0.out] at q
    exact q)
  have HBX : Hid (∀ W' : World, Below W.heap.size W W' → W'.cell? ⟨w1.heap.size, 0, none⟩ = some (.slice x.pa 2 x.pc) ∧ W'.cell? ⟨w1.heap.size, 1, none⟩ = some (.slice x.ca 1 x.cc) ∧ W'.cell? ⟨w1.heap.size, 2, none⟩ = some (.int .i64 1) ∧ W'.cell? ⟨w1.heap.size, 3, none⟩ = some (.slice x.aa 1 x.ac) ∧ W'.cell? ⟨w1.heap.size, 4, none⟩ = some (.int .i64 1) ∧ W'.cell? ⟨w1.heap.size, 5, none⟩ = some (.slice x.ba 1 x.bc)) := Lib.hid (fun W' h => bx W' h)
  obtain ⟨c0, c1, c2, c3, c4, c5⟩ := HBX.out W (Below.refl _ _)
  have HW2 : Hid (W = w1.alloc (.cells #[.slice x.pa 2 x.pc, .slice x.ca 1 x.cc, .int .i64 1, .slice x.aa 1 x.ac, .int .i64 1, .slice x.ba 1 x.bc] 31)) := HW
  clear hb1 hB hx hxW hWs bx HW hb1w
  go_wp2_with (rw [← HW2.out])
  refine HSZ.out.mono ?_
  rintro e w2 ⟨rfl, hb2⟩
  have HB2 := Lib.hid hb2
  clear hb2 c0 c1 c2 c3 c4 c5
  go_wp2_with fail
  refine (HMN.out w2).mono ?_
  rintro e w3 ⟨mb, rb, rfl, hm1, hm2, hmem, hb3⟩
  have HD0 : Hid (Duo W w3 W.heap.size (fun _ => False) mb rb (fr2 16 pr) (List.replicate 77 0) none none) := Lib.hid (Duo.first (HB2.out.trans (hb3.mono HB2.out.size)) hmem ⟨by have := HB2.out.size; omega, by have := HB2.out.size; omega, Nat.le_refl _⟩ (by
    have q := HF.out.fin
    rw [HSZ0.out] at q
    rw [List.length_replicate]
    exact q) (w32_zero _) (fun _ h => h.elim))
  have hz3 := (HD0.out.below.block _ (Array.getElem?_eq_some_iff.1 HZW.out).1).trans HZW.out
  have t0 : w3.cell? ⟨w.heap.size, 0, none⟩ = some (.int .u16 ta) := cell_blk hz3 rfl
  have t1 : w3.cell? ⟨w.heap.size, 1, none⟩ = some (.int .u16 tb) := cell_blk hz3 rfl
  obtain ⟨c0, c1, c2, c3, c4, c5⟩ := HBX.out w3 HD0.out.below
  have HNW : Hid (Calls Try.prog 12 #[.agg #[.slice x.pa 2 x.pc, .slice x.ca 1 x.cc, .int .i64 1, .slice x.aa 1 x.ac, .int .i64 1, .slice x.ba 1 x.bc], .int .i64 0, .slice (some ⟨g, off, none⟩) zs.length cap] w3 (GivesNewW w3 (fr2 16 pr) zs)) := Lib.hid (newW_b (cfg2 16 pr) x 0 (fr2 16 pr) zs g off cap w3 (HXW.out.later HD0.out.below) HWF.out HFW.out HF.out (fun k y hk => by
    have hk2 : k < zs.length := (List.getElem?_eq_some_iff.1 hk).1
    have h1 := HCELL.out k hk2
    have h2 : zs.getD k 0 = y := by simp [List.getD_eq_getElem?_getD, hk]
    rw [h2] at h1
    have hbw := HBW.out.trans (HD0.out.below.mono HBW.out.size)
    exact (hbw.cell (p := ⟨g, off + k, none⟩) HG.out).trans h1) ⟨by omega, by show zs.length ≤ 16; omega⟩)
  clear hm1 hm2 hmem hb3 hz3
  go_wp2_with fail
  refine HNW.out.mono ?_
  rintro e w4 ⟨wq, Sw, rfl, hat4, hS4, hb4⟩
  have HD1 := Lib.hid (HD0.out.newW hat4 hS4 hb4 H32.out)
  clear hat4 hS4 hb4 c0 c1 c2 c3 c4 c5 t0 t1
  go_wp2
  go_loopw [13, 56] (fun sv ix wr => ∃ (j : Nat) (t : FS) (mm : List Int) (wp wi : Nat), j ≤ zs.length + 6 ∧ ix = .int .i64 j ∧ sv = .bool (decide (4 ≤ j)) ∧ ((j ≤ 5 + zs.length ∧ WS 16 (List.replicate 77 0) zs ta t mm j wp wi) ∨ (j = 6 + zs.length ∧ (t.no = -1 ∧ fP mm = wp ∧ fI mm = wi ∧ wp ≤ 1 ∧ wi ≤ 1 ∧ rd mm (bf 16 wp wi) = (zs.length : Int) ∧ rd mm (bf 16 wp wi + 1) = ta % 4294967296 ∧ (∀ k, k < zs.length → rd mm (bf 16 wp wi + 2 + k) = zs.getD k 0)))) ∧ Duo W wr W.heap.size (fun _ => False) mb rb (fr2 16 pr) mm (some (wq, t)) none) (fun _ ix _ => zs.length + 6 - (intOf ix).toNat)
  case atStart => exact ⟨0, _, _, _, _, by omega, rfl, rfl, .inl ⟨by omega, ws_start (by simp)⟩, HD1.out⟩
  case round =>
    obtain ⟨j, t, mm, wp, wi, hj, rfl, rfl, hws, hduo⟩ := hrel
    by_cases hj6 : j < zs.length + 6
    · have hws2 := (hws.resolve_right (fun h => by omega)).2
      have HPI : Hid (j = 5 + zs.length → wp ≤ 1 ∧ wi ≤ 1) := Lib.hid (fun h => ⟨(hws2.hp (by omega)).2, (hws2.hi (by omega)).2⟩)
      have HST := Lib.hid (hduo.stW ta)
      obtain ⟨wp', wi', hst⟩ := hws2.step (per := pr) (now := ta) (by omega)
      have HST2 := Lib.hid hst
      have s4 : (j : Int) < (zs.length : Int) + 6 := by omega
      clear hws hws2 hduo hst
      by_cases hjl : j < 5 + zs.length
      · have HJ := Lib.hid hjl
        by_cases hj3 : j < 3
        · have HJ := Lib.hid (And.intro hjl hj3)
          have hs4 : decide (4 ≤ j) = false := decide_eq_false (by omega)
          rw [hs4]
          go_wp2_with fail
          refine HST.out.mono ?_
          rintro e w7 ⟨dn, mk, st, bfv, s3, ws3, rfl, ⟨d, hd, rfl, rfl, rfl, rfl, -⟩, hd2, -⟩
          have hst := HST2.out
          rw [hd] at hst
          obtain ⟨h1, h1b, h2⟩ := hst.1 (by have := HJ.out; omega)
          have h1b : d.stamped = false := h1b.trans (decide_eq_false (by have := HJ.out; omega))
          rw [h1b]
          have HWS := Lib.hid h2
          clear h1 h2 h1b
          have HD7 := Lib.hid hd2
          clear hst hd2 hd hs4 HST HST2
          go_wp2
          go_roundw
          case rel => exact ⟨j + 1, _, _, wp', wi', by omega, by go_num, by rw [show decide (4 ≤ j + 1) = false from decide_eq_false (by omega)], .inl ⟨by omega, HWS.out⟩, HD7.out.later ((Below.refl _ _).alloc (Nat.le_refl _) _)⟩
          case measure => simp [intOf]; omega
        · by_cases hj4 : j = 3
          · have HJ := Lib.hid (And.intro hjl hj4)
            have hs4 : decide (4 ≤ j) = false := decide_eq_false (by omega)
            rw [hs4]
            go_wp2_with fail
            refine HST.out.mono ?_
            rintro e w7 ⟨dn, mk, st, bfv, s3, ws3, rfl, ⟨d, hd, rfl, rfl, rfl, rfl, -⟩, hd2, -⟩
            have hst := HST2.out
            rw [hd] at hst
            obtain ⟨h1, h1b, h2⟩ := hst.1 (by have := HJ.out; omega)
            have h1b : d.stamped = true := h1b.trans (decide_eq_true (by have := HJ.out; omega))
            rw [h1b]
            have HWS := Lib.hid h2
            clear h1 h2 h1b
            have HD7 := Lib.hid hd2
            clear hst hd2 hd hs4 HST HST2
            go_wp2
            go_roundw
            case rel => exact ⟨j + 1, _, _, wp', wi', by omega, by go_num, by rw [show decide (4 ≤ j + 1) = true from decide_eq_true (by omega)], .inl ⟨by omega, HWS.out⟩, HD7.out.later ((Below.refl _ _).alloc (Nat.le_refl _) _)⟩
            case measure => simp [intOf]; omega
          · have HJ := Lib.hid (And.intro hjl (And.intro hj3 hj4))
            have hs4 : decide (4 ≤ j) = true := decide_eq_true (by omega)
            rw [hs4]
            go_wp2_with fail
            refine HST.out.mono ?_
            rintro e w7 ⟨dn, mk, st, bfv, s3, ws3, rfl, ⟨d, hd, rfl, rfl, rfl, rfl, -⟩, hd2, -⟩
            have hst := HST2.out
            rw [hd] at hst
            obtain ⟨h1, h1b, h2⟩ := hst.1 (by have := HJ.out; omega)
            have h1b : d.stamped = false := h1b.trans (decide_eq_false (by have := HJ.out; omega))
            rw [h1b]
            have HWS := Lib.hid h2
            clear h1 h2 h1b
            have HD7 := Lib.hid hd2
            clear hst hd2 hd hs4 HST HST2
            go_wp2
            go_roundw
            case rel => exact ⟨j + 1, _, _, wp', wi', by omega, by go_num, by rw [show decide (4 ≤ j + 1) = true from decide_eq_true (by omega)], .inl ⟨by omega, HWS.out⟩, HD7.out.later ((Below.refl _ _).alloc (Nat.le_refl _) _)⟩
            case measure => simp [intOf]; omega
      · have hje : j = 5 + zs.length := by omega
        have HJ := Lib.hid hje
        have HPI := Lib.hid (HPI.out hje)
        clear hje
        have hs4 : decide (4 ≤ j) = true := decide_eq_true (by omega)
        rw [hs4]
        go_wp2_with fail
        refine HST.out.mono ?_
        rintro e w7 ⟨dn, mk, st, bfv, s3, ws3, rfl, ⟨d, hd, rfl, rfl, rfl, rfl, -⟩, hd2, -⟩
        have hst := HST2.out
        rw [hd] at hst
        obtain ⟨h1, h1b, h2⟩ := hst.2 (by have := HJ.out; omega)
        have h1b : d.stamped = false := h1b
        rw [h1b]
        have HWE : Hid (s3.no = -1 ∧ fP ws3 = wp ∧ fI ws3 = wi ∧ wp ≤ 1 ∧ wi ≤ 1 ∧ rd ws3 (bf 16 wp wi) = (zs.length : Int) ∧ rd ws3 (bf 16 wp wi + 1) = ta % 4294967296 ∧ (∀ k, k < zs.length → rd ws3 (bf 16 wp wi + 2 + k) = zs.getD k 0)) := Lib.hid ⟨h2.1, h2.2.2.1, h2.2.2.2.1, HPI.out.1, HPI.out.2, h2.2.2.2.2.1, h2.2.2.2.2.2.1, h2.2.2.2.2.2.2⟩
        clear h1 h2 h1b
        have HD7 := Lib.hid hd2
        clear hst hd2 hd hs4 HST HST2
        go_wp2
        go_roundw
        case rel => exact ⟨j + 1, _, _, wp, wi, by omega, by go_num, by rw [show decide (4 ≤ j + 1) = true from decide_eq_true (by omega)], .inr ⟨by omega, HWE.out⟩, HD7.out.later ((Below.refl _ _).alloc (Nat.le_refl _) _)⟩
        case measure => simp [intOf]; omega
    · obtain ⟨hje, hend⟩ := hws.resolve_left (fun h => by omega)
      obtain rfl : j = zs.length + 6 := by omega
      have HEND := Lib.hid hend
      have HDW := Lib.hid hduo
      have s4 : ¬ (((zs.length + 6 : Nat) : Int) < (zs.length : Int) + 6) := by omega
      rw [show decide (4 ≤ zs.length + 6) = true from decide_eq_true (by omega)]
      clear hws hend hduo hje hj6 s4
      obtain ⟨z1, z2, z3, z4, z5, z6, z7, z8⟩ := HEND.out
      have hfB : fB 16 mm = bf 16 wp wi := by unfold fB; rw [z2, z3]
      have hfL : fL 16 mm = (zs.length : Int) := by
        unfold fL lenOf
        rw [hfB, z6]
        exact if_pos (by show (zs.length : Int) ≤ ((16 : Nat) : Int); omega)
      have hfS : fS 16 mm = ta := by unfold fS; rw [hfB, z7]; omega
      have hfD : fD 16 mm zs.length = zs := by
        unfold fD
        rw [hfB]
        apply List.ext_getElem
        · simp
        · intro i h1 h2
          simp only [List.getElem_map, List.getElem_range]
          rw [z8 i h2]
          simp [List.getD_eq_getElem?_getD, h2]
      obtain ⟨vb, hvb⟩ : ∃ v, decide (ta + tb - ta ≤ pr) = v := ⟨_, rfl⟩
      have hv2 : decide (ta + tb - ta ≤ pr) = vb := hvb
      have hAns : fAns 16 pr mm (ta + tb) = { did0 with done := true, data := zs, valid := vb } := by
        unfold fAns
        rw [if_neg (by omega), hfL, hfS, Int.toNat_natCast, hfD, hvb]
      have HANS := Lib.hid hAns; have HFL := Lib.hid hfL; have HV2 := Lib.hid hv2
      have HNN : Hid (∀ a, 0 ≤ rd mm a) := Lib.hid (fun a => (HDW.out.w32 a).1)
      have HT1 := Lib.hid z1
      have HNR := Lib.hid (newR_b (cfg2 16 pr) x 0 (fr2 16 pr) wr (HXW.out.later HDW.out.below) HWF.out HFW.out HF.out)
      have HNR : Hid (Calls Try.prog 14 #[.agg #[.slice x.pa 2 x.pc, .slice x.ca 1 x.cc, .int .i64 1, .slice x.aa 1 x.ac, .int .i64 1, .slice x.ba 1 x.bc], .int .i64 0] wr (GivesNewR wr (fr2 16 pr))) := HNR
      obtain ⟨c0, c1, c2, c3, c4, c5⟩ := HBX.out wr HDW.out.below
      clear z1 z2 z3 z4 z5 z6 z7 z8 hfB hfL hfS hfD hvb hv2 hAns
      go_wp2_with fail
      refine HNR.out.mono ?_
      rintro e w5 ⟨rq, Sr, rfl, hat5, hS5, hb5⟩
      have HD5 := Lib.hid (HDW.out.newR hat5 hS5 hb5 (show W32 [] from fun a => by unfold rd; simp))
      clear hat5 hS5 hb5 c0 c1 c2 c3 c4 c5
      obtain ⟨db, hdb⟩ : ∃ d, d = w5.heap.size := ⟨_, rfl⟩
      obtain ⟨w6, HW6⟩ : ∃ u, Hid (u = w5.alloc (.cells #[.bool false, .int .i64 0, .slice none 0 0, .bool false, .int .i64 0, .bool false, .bool false, .bool false, .int .i64 0] 53)) := ⟨_, rfl⟩
      have hz6 : w6.heap[db]? = some (.cells #[.bool false, .int .i64 0, .slice none 0 0, .bool false, .int .i64 0, .bool false, .bool false, .bool false, .int .i64 0] 53 (0, 0)) := by rw [HW6.out, hdb]; exact heap_alloc_new _ _
      have HZ6 := Lib.hid hz6
      have HD6 : Hid (Duo W w6 W.heap.size (fun k => k = db) mb rb (fr2 16 pr) mm (some (wq, t)) (some (rq, Simp.start []))) := Lib.hid (HD5.out.only (T := fun _ => False) (by rw [HW6.out]; exact (Only.refl _ _).alloc _) (fun _ _ h => h.elim) (fun k e => .inr ⟨by omega, by have := (Array.getElem?_eq_some_iff.1 hz6).1; omega⟩))
      have HDB := Lib.hid hdb
      have HDBW : Hid (W.heap.size ≤ db) := Lib.hid (by have := HD5.out.below.size; omega)
      clear hdb hz6
      go_wp2_with (first | (simp only [← HDB.out]; rw [← HW6.out]) | (rw [← HW6.out]))
      go_loopw [73] (fun ix wr => ∃ (j : Nat) (t2 : FS) (mm2 : List Int), j ≤ zs.length + 5 ∧ ix = .int .i64 j ∧ ((j ≤ 4 + zs.length ∧ RS 16 mm t2 mm2 j ∧ ∃ cs : Array Value, wr.heap[db]? = some (.cells cs 53 (0, 0)) ∧ cs.size = 9) ∨ (j = 5 + zs.length ∧ t2.no = -1 ∧ ∃ a n c, wr.heap[db]? = some (.cells #[.bool true, .int .i64 0, .slice a n c, .bool vb, .int .i64 0, .bool false, .bool false, .bool false, .int .i64 0] 53 (0, 0)) ∧ OwnsOff wr 0 41 1 (.slice a n c) n (wcells zs))) ∧ Duo W wr W.heap.size (fun k => k = db) mb rb (fr2 16 pr) mm2 (some (wq, t)) (some (rq, t2))) (fun ix _ => zs.length + 5 - (intOf ix).toNat)
      case atStart => exact ⟨0, _, _, by omega, rfl, .inl ⟨by omega, rs_start 16 mm, _, HZ6.out, rfl⟩, HD6.out⟩
      case round =>
        obtain ⟨j, t2, mm2, hj, rfl, hrs, hduo⟩ := hrel
        by_cases hj6 : j < zs.length + 5
        · obtain ⟨-, hrs2, cs, hbox, hcs⟩ := hrs.resolve_right (fun h => by omega)
          have HST := Lib.hid (hduo.stR (ta + tb) (by omega))
          have HST2 := Lib.hid (hrs2.step (per := pr) (now := ta + tb) HNN.out)
          have HBOX := Lib.hid hbox; have HCS := Lib.hid hcs
          have s4 : (j : Int) < (zs.length : Int) + 5 := by omega
          clear hrs hrs2 hduo hbox hcs
          go_wp2_with fail
          refine HST.out.mono ?_
          rintro e w7 ⟨sa, sc, sn, dn, cd, vl, mk, st, bfv, s3, ws3, rfl, ⟨d, hd, e1, e2, e3, e4, e5, e6, hln, hown, -⟩, hd7, -, hng, ho7⟩
          have hst := HST2.out
          rw [hd] at hst
          have hB7 := ho7.at_ HBOX.out (fun h => h.1 rfl)
          have hth : w7.there db 0 (#[.bool dn, .int .i64 cd, .slice sa sn sc, .bool vl, .int .i64 0, .bool mk, .bool false, .bool st, .int .i64 bfv] : Array Value).size := there_at hB7 (by rw [HCS.out]; rfl)
          have hsd : (Try.prog.info? 53).map (·.size) = some (#[.bool dn, .int .i64 cd, .slice sa sn sc, .bool vl, .int .i64 0, .bool mk, .bool false, .bool st, .int .i64 bfv] : Array Value).size := did_size
          have HBX7 : Hid ((w7.setCells db 0 [.bool dn, .int .i64 cd, .slice sa sn sc, .bool vl, .int .i64 0, .bool mk, .bool false, .bool st, .int .i64 bfv]).heap[db]? = some (.cells #[.bool dn, .int .i64 cd, .slice sa sn sc, .bool vl, .int .i64 0, .bool mk, .bool false, .bool st, .int .i64 bfv] 53 (0, 0))) := Lib.hid (blk_over hB7 HCS.out [.bool dn, .int .i64 cd, .slice sa sn sc, .bool vl, .int .i64 0, .bool mk, .bool false, .bool st, .int .i64 bfv] rfl)
          have hos := Only.sets (S := fun k => k = db) rfl [.bool dn, .int .i64 cd, .slice sa sn sc, .bool vl, .int .i64 0, .bool mk, .bool false, .bool st, .int .i64 bfv] 0 (Only.refl _ w7)
          have HD7 := Lib.hid (hd7.only hos (fun k _ e => ⟨e, by rw [e]; exact HDBW.out⟩) (E' := fun k => k = db) (fun k h => .inl h))
          have HOW7 : Hid (OwnsOff (w7.setCells db 0 [.bool dn, .int .i64 cd, .slice sa sn sc, .bool vl, .int .i64 0, .bool mk, .bool false, .bool st, .int .i64 bfv]) 0 41 1 (.slice sa sn sc) sn (wcells d.data)) := Lib.hid (hown.kept hos (fun k hk => (hng k hk).1))
          have HQ := Lib.hid (And.intro e1 (And.intro e2 (And.intro e3 (And.intro e4 (And.intro e5 e6)))))
          have HHST := Lib.hid hst
          clear hst hd hown hng ho7 hd7 hos hB7 e1 e2 e3 e4 e5 e6 hln HST HST2
          go_wp2_with (with_reducible refine wpList_store_mid (by kernel_rfl) _ _ _ rfl db 0 (#[.bool dn, .int .i64 cd, .slice sa sn sc, .bool vl, .int .i64 0, .bool mk, .bool false, .bool st, .int .i64 bfv]) (by kernel_rfl) (by kernel_rfl) hth hsd (by kernel_rfl) ?_)
          by_cases hje : j < 4 + zs.length
          · go_roundw
            case rel =>
              rcases HHST.out with h | h
              · exact ⟨j + 1, _, _, by omega, by go_num, .inl ⟨by omega, h.2.1, _, HBX7.out, rfl⟩, HD7.out⟩
              · have := HFL.out
                rcases h.2.2.2 with h | h <;> omega
            case measure => simp [intOf]; omega
          · go_roundw
            case rel =>
              rcases HHST.out with h | h
              · have := HFL.out
                have := h.2.2.1
                omega
              · have hde : d = { did0 with done := true, data := zs, valid := vb } := h.1.trans HANS.out
                obtain ⟨e1, e2, e3, e4, e5, e6⟩ := HQ.out
                subst hde
                have hb := HBX7.out
                have hw := HOW7.out
                rw [e1, e2, e3, e4, e5, e6] at hb hw
                have hno : s3.no = -1 := h.2.2.1
                have hd := HD7.out
                rw [e1, e2, e3, e4, e5, e6] at hd
                (try rw [e1, e2, e3, e4, e5, e6])
                exact ⟨j + 1, _, _, by omega, by go_num, .inr ⟨by omega, hno, sa, sn, sc, hb, hw⟩, hd⟩
            case measure => simp [intOf]; omega
        · obtain ⟨-, hno2, a, n, c, hbox, hown⟩ := hrs.resolve_left (fun h => by omega)
          obtain ⟨rfl, hrow1⟩ := hown.row32
          have hrow2 := ((HROW.out.below (HBW.out.trans (hduo.below.mono HBW.out.size))).more (HBW.out.trans (hduo.below.mono HBW.out.size)).size)
          have s4 : ¬ ((j : Int) < (zs.length : Int) + 5) := by omega
          have HSA := Lib.hid (sameAns_eq 0 vb 0 zs a (some ⟨g, off, none⟩) c cap wr hrow1 hrow2 (by omega))
          have d0 := cell_blk hbox (i := 0) rfl
          have d1 := cell_blk hbox (i := 1) rfl
          have d2 := cell_blk hbox (i := 2) rfl
          have d3 := cell_blk hbox (i := 3) rfl
          have d4 := cell_blk hbox (i := 4) rfl
          have HDY := Lib.hid hduo
          have hv2 := HV2.out
          have HNO2 := Lib.hid hno2
          clear hrs hduo hbox hown hrow1 hrow2 hno2 hj hj6
          go_wp2_with fail
          refine HSA.out.mono ?_
          rintro e w8 ⟨rfl, hb8⟩
          have HD8 := Lib.hid (HDY.out.later hb8)
          clear hb8 d0 d1 d2 d3 d4
          go_wp2_with fail
          refine (HD8.out.stR (ta + tb) (by omega)).mono ?_
          rintro e w9 ⟨sa, sc, sn, dn, cd, vl, mk, st, bfv, s3, ws3, rfl, ⟨d, hd, rfl, rfl, rfl, rfl, rfl, rfl, rfl, hown9, -⟩, hd9, -, -, -⟩
          rw [rstep_over (by have := HNO2.out; omega)] at hd
          obtain ⟨-, -, rfl⟩ : t2 = s3 ∧ mm2 = ws3 ∧ did0 = d := by simpa using hd
          have HSD1 : Hid (Calls Try.prog 17 #[.agg #[.bool false, .int .i64 0, .slice sa 0 sc, .bool false, .int .i64 0, .bool false, .bool false, .bool false, .int .i64 0], .agg #[.bool false, .int .i64 0, .slice none 0 0, .bool false, .int .i64 0, .bool false, .bool false, .bool false, .int .i64 0]] w9 fun e w' => e = .returned (.bool true) ∧ Below w9.heap.size w9 w') := Lib.hid (sameDid_eq false 0 false 0 false false false 0 [] sa none sc 0 w9 (fun h => by simp at h) (fun h => by simp at h) (by simp))
          have HD9 := Lib.hid hd9
          clear hd hown9 hd9
          go_wp2_with fail
          refine HSD1.out.mono ?_
          rintro e w10 ⟨rfl, hb10⟩
          have HD10 := Lib.hid (HD9.out.later hb10)
          clear hb10
          go_wp2_with fail
          refine (HD10.out.stW (ta + tb)).mono ?_
          rintro e w11 ⟨dn, mk, st, bfv, s4', ws4, rfl, ⟨d, hd, rfl, rfl, rfl, rfl, -⟩, hd11, -⟩
          rw [wstep_over (by have := HT1.out; omega)] at hd
          obtain ⟨-, -, rfl⟩ : t = s4' ∧ ws3 = ws4 ∧ did0 = d := by simpa using hd
          have HSD2 : Hid (Calls Try.prog 17 #[.agg #[.bool false, .int .i64 0, .slice none 0 0, .bool false, .int .i64 0, .bool false, .bool false, .bool false, .int .i64 0], .agg #[.bool false, .int .i64 0, .slice none 0 0, .bool false, .int .i64 0, .bool false, .bool false, .bool false, .int .i64 0]] w11 fun e w' => e = .returned (.bool true) ∧ Below w11.heap.size w11 w') := Lib.hid (sameDid_eq false 0 false 0 false false false 0 [] none none 0 0 w11 (fun h => by simp at h) (fun h => by simp at h) (by simp))
          have HD11 := Lib.hid hd11
          clear hd hd11
          go_wp2_with fail
          refine HSD2.out.mono ?_
          rintro e w12 ⟨rfl, hb12⟩
          have HD12 := Lib.hid (HD11.out.later hb12)
          clear hb12
          go_wp2
          go_ret
          exact ⟨rfl, HBW.out.trans (HD12.out.below.mono HBW.out.size)⟩
end Go.Proofs.Ytocdidkfnbkkhaa
