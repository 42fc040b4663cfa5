/- FourKeeps answers true. No condition but those in the statements. -/
import Derived.Test.YtocdidkfnbkkhaaGreatFRow
import Derived.Test.YtocdidkfnbkkhaaGreatGH
import Derived.Test.YtocdidkfnbkkhaaGreatFMay
import Derived.BigQuiet
import Derived.IntWalk
import Derived.Deep.MidRow
import Derived.Deep.Upon
import Derived.BigRegion
import Derived.Shelf.Abstract
import Derived.Deep.RegionHeld3
namespace Go.Proofs.YtocdidkfnbkkhaaGreat
open Go.RowKit Go.Sort
set_option linter.unusedVariables false
set_option linter.unusedSimpArgs false
set_option linter.unusedVariables false
set_option linter.unusedSimpArgs false

open Go.Proofs.YtocdidkfnbkkhaaGreat.Simp
set_option maxRecDepth 100000
set_option maxHeartbeats 6400000
theorem Simp.PInv.len {N : Nat} {P : Pl} (h : PInv N P) : P.m.length = 13 + 4 * N := by
  obtain ⟨c, wn, wp, wi, nn, rn, rp, ri, hi, _⟩ := h
  exact hi.hl
theorem own1_ch {N : Nat} {m m' : List Int} (h : Own1 N m m') : ∃ a : Nat, 1 ≤ a ∧ a < 12 + 4 * N ∧ ∀ j, m'.getD j 0 ≠ m.getD j 0 → j = a := by
  rcases h with rfl | ⟨a, v, h1, h2, rfl⟩
  · exact ⟨1, by omega, by omega, fun j hj => absurd rfl hj⟩
  · exact ⟨a, h1, h2, fun j hj => set_differs hj⟩
theorem own2_ch {N : Nat} {m m' : List Int} (h : Own2 N m m') : ∃ a : Nat, 12 + 4 * N ≤ a ∧ a < 13 + 4 * N ∧ ∀ j, m'.getD j 0 ≠ m.getD j 0 → j = a := by
  rcases h with rfl | ⟨v, rfl⟩
  · exact ⟨12 + 4 * N, by omega, by omega, fun j hj => absurd rfl hj⟩
  · exact ⟨12 + 4 * N, by omega, by omega, fun j hj => set_differs hj⟩
section
variable {W w w' : World} {E : Nat → Prop} {pb mb rb N K wq rq : Nat} {per : Int} {x : CfgAt} {P : Pl}
theorem PAt.later (h : PAt W w E pb mb rb N per x (K) (P) wq rq) (hb : Below w.heap.size w w') : PAt W w' E pb mb rb N per x (K) (P) wq rq := ⟨(hb.block pb h.lt).trans h.blk, h.duo.later hb, h.pe, h.cfg, h.nn, h.lim⟩
theorem PAt.fewE (h : PAt W w E pb mb rb N per x (K) (P) wq rq) {E' : Nat → Prop} (hE : ∀ k, E' k → E k) (hp : E' pb) : PAt W w E' pb mb rb N per x (K) (P) wq rq := ⟨h.blk, h.duo.fewer hE, ⟨hp, h.pe.2⟩, h.cfg, h.nn, h.lim⟩
theorem PAt.moreE (h : PAt W w E pb mb rb N per x (K) (P) wq rq) (hb : Below w.heap.size w w') {g : Nat} (hg : w.heap.size ≤ g ∧ g < w'.heap.size) : PAt W w' (fun k => E k ∨ k = g) pb mb rb N per x (K) (P) wq rq :=
  ⟨(hb.block pb h.lt).trans h.blk, h.duo.only (T := fun _ => False) (Only.of_below hb) (fun _ _ h => h.elim) (fun k hk => hk.imp id (fun e => by subst e; exact hg)), ⟨.inl h.pe.1, h.pe.2⟩, h.cfg, h.nn, h.lim⟩
end
theorem lkeeps_b (wd : Int) (bs : List Bool) (A : Option Addr) (cap : Nat) (w : World) (hw : 0 ≤ wd ∧ wd ≤ 255) (hc : bs.length ≤ cap) (hm : cap ≤ maxLen) (hnil : A = none → bs = []) (hrow : BoolRowIn w w.heap.size A bs) : Calls Tryz.prog 4 #[.int .u8 wd, .slice A bs.length cap] w fun e w' => e = .returned (.bool true) ∧ Below w.heap.size w w' := by
  obtain ⟨N, hN⟩ : ∃ N : Nat, 1 + wd % 4 = (N : Int) := ⟨(1 + wd % 4).toNat, by omega⟩
  have hN1 : 1 ≤ N ∧ N ≤ 4 := by omega
  have hF : FrOf (cfg2 N 5) 0 (fr2 N 5) := frOf2 hN1.1 (by omega) (by omega) (by omega)
  have hwf : CfgWf (cfg2 N 5) := cfg2_wf (i64_of (by omega)) (i64_of (by omega))
  have hfw := cfg2_few N 5
  have hsz := cfg2_size (n := N) (per := 5) (by omega) (by omega) (by omega) (by omega)
  have HTW := Lib.hid (fun (v : Int) (w : World) (hv : v = (N : Int)) => two_at v N 5 w hv (by omega) (by omega))
  have HMN := Lib.hid (fun (v : Int) (w : World) (hv : v = ((13 + 4 * N : Nat) : Int)) => memNew_at (13 + 4 * N) v hv w (by omega))
  have htm : wd.tmod 4 = wd % 4 := Int.tmod_eq_emod_of_nonneg hw.1
  have HROW := Lib.hid hrow
  have HHN := Lib.hid hN
  have HF := Lib.hid hF; have HWF := Lib.hid hwf; have HFW := Lib.hid hfw; have HSZ0 := Lib.hid hsz
  have wd0 := hw.1
  have wd1 := hw.2
  clear hF hwf hfw hsz hrow hN hw
  by_cases hl : 200 < bs.length
  · have hl2 : (200 : Int) < (bs.length : Int) := by omega
    clear htm
    go_enter Tryz.func4, Tryz.ntmps4
    go_wp2_with fail
    refine (wakes_b w).mono ?_
    rintro e wv ⟨rfl, hbv⟩
    go_wp2
    go_ret
    exact ⟨rfl, hbv⟩
  have hl2 : ¬ ((200 : Int) < (bs.length : Int)) := by omega
  go_enter Tryz.func4, Tryz.ntmps4
  go_wp2_with fail
  refine (wakes_b w).mono ?_
  rintro e wv ⟨rfl, hbv⟩
  have HBV := Lib.hid hbv
  clear hbv
  go_wp2_with fail
  refine (HTW.out _ wv ?_).mono ?_
  · have := HHN.out; (try rw [htm]); omega
  rintro e w1 ⟨x, rfl, hx, hb1⟩
  clear htm
  obtain ⟨W, HW, hB, hWs, bx⟩ := one_cbox w1 (cfg2 N 5) x 29
  have hxW := hx.later hB
  have hb1w := HBV.out.trans (hb1.mono HBV.out.size)
  have HBW := Lib.hid (hb1w.trans (hB.mono hb1w.size))
  have HXW := Lib.hid hxW
  have HSZ : Hid (Calls Tryz.prog 10 #[.agg #[.slice x.pa 2 x.pc, .slice x.ca 1 x.cc, .int .i64 1, .slice x.aa 1 x.ac, .int .i64 1, .slice x.ba 1 x.bc]] W fun e w' => e = .returned (.int .i64 (13 + 4 * (N : Int))) ∧ Below W.heap.size W w') := Lib.hid (by
    have q := rsize_b (cfg2 N 5) x W hxW HWF.out HFW.out
    rw [HSZ0.out] at q
    exact q)
  have HBX : Hid (∀ W' : World, Below W.heap.size W W' → W'.cell? ⟨w1.heap.size, 0, none⟩ = some (.slice x.pa 2 x.pc) ∧ W'.cell? ⟨w1.heap.size, 1, none⟩ = some (.slice x.ca 1 x.cc) ∧ W'.cell? ⟨w1.heap.size, 2, none⟩ = some (.int .i64 1) ∧ W'.cell? ⟨w1.heap.size, 3, none⟩ = some (.slice x.aa 1 x.ac) ∧ W'.cell? ⟨w1.heap.size, 4, none⟩ = some (.int .i64 1) ∧ W'.cell? ⟨w1.heap.size, 5, none⟩ = some (.slice x.ba 1 x.bc)) := Lib.hid (fun W' h => bx W' h)
  obtain ⟨c0, c1, c2, c3, c4, c5⟩ := HBX.out W (Below.refl _ _)
  have HW2 : Hid (W = w1.alloc (.cells #[.slice x.pa 2 x.pc, .slice x.ca 1 x.cc, .int .i64 1, .slice x.aa 1 x.ac, .int .i64 1, .slice x.ba 1 x.bc] 29)) := HW
  clear hb1 hB hx hxW hWs bx HW hb1w
  go_wp2_with (rw [← HW2.out])
  refine HSZ.out.mono ?_
  rintro e w2 ⟨rfl, hb2⟩
  have HB2 := Lib.hid hb2
  clear hb2 c0 c1 c2 c3 c4 c5
  go_wp2_with fail
  refine (HMN.out _ w2 ?_).mono ?_
  · first | rfl | (push_cast; rfl) | omega
  rintro e w3 ⟨mb, rb, rfl, hm1, hm2, hmem, hb3⟩
  have HD0 : Hid (Duo W w3 W.heap.size (fun _ => False) mb rb (fr2 N 5) (List.replicate (13 + 4 * N) 0) none none) := Lib.hid (Duo.first (HB2.out.trans (hb3.mono HB2.out.size)) hmem ⟨by have := HB2.out.size; omega, by have := HB2.out.size; omega, Nat.le_refl _⟩ (by
    have q := HF.out.fin
    rw [HSZ0.out] at q
    rw [List.length_replicate]
    rwa [show (13 + 4 * (N : Int)).toNat = 13 + 4 * N by omega] at q) (w32_zero _) (fun _ h => h.elim))
  have HMB : Hid (W.heap.size ≤ mb ∧ W.heap.size ≤ rb) := Lib.hid ⟨by have := HB2.out.size; omega, by have := HB2.out.size; omega⟩
  clear hm1 hm2 hmem hb3
  obtain ⟨c0, c1, c2, c3, c4, c5⟩ := HBX.out w3 HD0.out.below
  obtain ⟨pb, hpb⟩ : ∃ p, p = w3.heap.size := ⟨_, rfl⟩
  obtain ⟨w4, HW4⟩ : ∃ u, Hid (u = w3.alloc (.cells #[.slice x.pa 2 x.pc, .slice x.ca 1 x.cc, .int .i64 1, .slice x.aa 1 x.ac, .int .i64 1, .slice x.ba 1 x.bc, .pointer (some ⟨mb, 0, none⟩), .pointer none, .pointer none, .int .u32 0, .int .u32 0, .int .u32 0, .int .u32 0, .int .u32 0, .int .u32 0, .int .i64 0, .int .i64 0] 66)) := ⟨_, rfl⟩
  have HP4 : Hid (PAt W w4 (fun k => k = pb) pb mb rb N 5 x 0 ⟨List.replicate (13 + 4 * N) 0, none, none, 0, 0, 0, 0, 0, 0, 0, 0⟩ 0 0) := Lib.hid (by
    have hB4 : w4.heap[pb]? = some (.cells #[.slice x.pa 2 x.pc, .slice x.ca 1 x.cc, .int .i64 1, .slice x.aa 1 x.ac, .int .i64 1, .slice x.ba 1 x.bc, .pointer (some ⟨mb, 0, none⟩), .pointer none, .pointer none, .int .u32 0, .int .u32 0, .int .u32 0, .int .u32 0, .int .u32 0, .int .u32 0, .int .i64 0, .int .i64 0] 66 (0, 0)) := by rw [HW4.out, hpb]; exact heap_alloc_new _ _
    have hl4 := (Array.getElem?_eq_some_iff.1 hB4).1
    refine ⟨hB4, HD0.out.only (T := fun _ => False) (by rw [HW4.out]; exact (Only.refl _ _).alloc _) (fun _ _ h => h.elim) (fun k e => .inr ⟨by omega, by omega⟩), ⟨rfl, by have := HD0.out.below.size; omega⟩, HXW.out, ⟨hN1.1, hN1.2, by omega, by omega⟩, ?_⟩
    exact ⟨Int.le_refl _, Int.le_refl _, Int.le_refl _, Int.le_refl _, Int.le_refl _, Int.le_refl _⟩)
  have HPB := Lib.hid hpb
  clear hpb
  go_wp2_with (first | (simp only [← HPB.out]; rw [← HW4.out]))
  go_loopw [43] (fun ix wr => ∃ (k : Nat) (P : Pl) (wq rq : Nat), k ≤ bs.length ∧ ix = .int .i64 k ∧ PInv N P ∧ PAt W wr (fun k => k = pb) pb mb rb N 5 x (2 * k) P wq rq) (fun ix _ => bs.length - (intOf ix).toNat)
  case atStart => exact ⟨0, _, 0, 0, Nat.zero_le _, rfl, play_zero hN1.1 (by omega), HP4.out⟩
  case round =>
    obtain ⟨k, P, wq, rq, hk, rfl, hinv, hp⟩ := hrel
    by_cases hkl : k < bs.length
    · have hbw := HBW.out.trans (hp.duo.below.mono HBW.out.size)
      obtain ⟨b, o, rfl, -, hcell⟩ := HROW.out.at_ hkl
      have ca := hcell wr hbw
      obtain ⟨a, ha⟩ : ∃ a, bs.getD k false = a := ⟨_, rfl⟩
      rw [ha] at ca
      have HINV := Lib.hid hinv; have HP := Lib.hid hp
      clear ha hcell hbw hinv hp
      go_wp2_with fail
      refine (memWords_b mb rb P.m wr HP.out.duo.mem HP.out.duo.fin.max).mono ?_
      rintro e w5 ⟨g, rfl, hg, hwg, hb5⟩
      have HP5 := Lib.hid (HP.out.moreE hb5 ⟨hg, hwg.lt⟩)
      have HGP : Hid (g ≠ pb) := Lib.hid (by have := HP.out.lt; omega)
      have HWG5 := Lib.hid hwg
      have hpl := HINV.out.len
      rw [hpl]
      clear hg hwg hb5 ca hpl
      cases a
      · go_wp2_with fail
        refine (read_b (k : Int) (by omega) HP5.out (by omega) (playR_ok (per := 5) HINV.out (k : Int)).1).mono ?_
        rintro e w6 ⟨rfl, rq', hp6, ho6⟩
        have HI2 := Lib.hid (playR_ok (per := 5) HINV.out (k : Int)).2.1
        obtain ⟨ad, hch⟩ := own2_ch (playR_ok (per := 5) HINV.out (k : Int)).2.2
        obtain ⟨P', hP'⟩ : ∃ Q, (playR N 5 P (k : Int)).1 = Q := ⟨_, rfl⟩
        rw [hP'] at HI2 hch hp6
        have HCHG := Lib.hid hch
        have HWG6 := Lib.hid (HWG5.out.of (ho6.block g HWG5.out.lt (fun h => h.1.elim (fun h => h (.inr rfl)) HGP.out)))
        have HP6 := Lib.hid hp6
        clear hp6 ho6 hch hP'
        go_wp2_with fail
        refine (memWords_b mb rb _ w6 HP6.out.duo.mem HP6.out.duo.fin.max).mono ?_
        rintro e w7 ⟨g2, rfl, hg2, hwg2, hb7⟩
        have HP7 := Lib.hid (HP6.out.later hb7)
        have HWG7 := Lib.hid (HWG6.out.of (hb7.block g HWG6.out.lt))
        have HWG2 := Lib.hid hwg2
        have HLN : Hid (P'.m.length = 13 + 4 * N ∧ P.m.length = 13 + 4 * N) := Lib.hid ⟨(HI2.out.len), HINV.out.len⟩
        have hln := HLN.out.1
        clear hg2 hwg2 hb7
        rw [hln]
        clear hln
        go_wp2
        go_loopw [12, 60] (fun cv ix wv => ∃ (i : Nat) (cnt : Int), i ≤ 13 + 4 * N ∧ ix = .int .i64 i ∧ cv = .int .i64 cnt ∧ 0 ≤ cnt ∧ (cnt ≤ if ad < i then 1 else 0) ∧ Below w7.heap.size w7 wv) (fun _ ix _ => 13 + 4 * N - (intOf ix).toNat)
        case atStart => exact ⟨0, 0, by omega, rfl, rfl, Int.le_refl _, by rw [if_neg (by omega)]; exact Int.le_refl _, Below.refl _ _⟩
        case round =>
          obtain ⟨i, cnt, hi, rfl, rfl, hc0, hc1, hbv⟩ := hrel
          by_cases hil : i < 13 + 4 * N
          · have e2 := (HWG2.out.of (hbv.block g2 HWG2.out.lt)).cell (k := i) (by rw [HLN.out.1]; exact hil)
            have e1 := (HWG7.out.of (hbv.block g HWG7.out.lt)).cell (k := i) (by rw [HLN.out.2]; exact hil)
            obtain ⟨y2, hy2⟩ : ∃ y, P'.m.getD i 0 = y := ⟨_, rfl⟩
            obtain ⟨y1, hy1⟩ : ∃ y, P.m.getD i 0 = y := ⟨_, rfl⟩
            rw [hy2] at e2
            rw [hy1] at e1
            have hpl := HLN.out.2
            have HY := Lib.hid (And.intro hy1 hy2)
            have HC := Lib.hid (And.intro hc0 hc1)
            have s1 : (i : Int) < 13 + 4 * (N : Int) := by omega
            have s3 : (i : Int) < (P.m.length : Int) := by omega
            have HBV7 := Lib.hid hbv
            clear hy1 hy2 hc1 hbv hpl
            cases hq : (y2 == y1) with
            | true =>
              go_wp2
              go_roundw
              case rel => exact ⟨i + 1, cnt, by omega, by go_num, rfl, HC.out.1, by have := HC.out.2; split at this <;> split <;> omega, HBV7.out⟩
              case measure => simp [intOf]; omega
            | false =>
              have hia : i = ad := HCHG.out.2.2 i (by
                have h1 := HY.out.1
                have h2 := HY.out.2
                show P'.m.getD i 0 ≠ P.m.getD i 0
                rw [h1, h2]
                exact ne_of_beq_false hq)
              subst hia
              have hlo := HCHG.out.1
              have hhi := HCHG.out.2.1
              have hcn : cnt ≤ 0 := by have := HC.out.2; rw [if_neg (by omega)] at this; exact this
              have hn0 : ((i : Int) == 0) = false := beq_false_of_ne (by omega)
              have hbw := HP7.out.duo.below.trans (HBV7.out.mono HP7.out.duo.below.size)
              obtain ⟨c0, c1, c2, c3, c4, c5⟩ := HBX.out _ hbw
              have HMY : Hid (Calls Tryz.prog 24 #[.agg #[.slice x.pa 2 x.pc, .slice x.ca 1 x.cc, .int .i64 1, .slice x.aa 1 x.ac, .int .i64 1, .slice x.ba 1 x.bc], .int .i64 1, .int .i64 (i : Int)] wr fun e w' => e = .returned (.bool true) ∧ Below wr.heap.size wr w') := Lib.hid (by
                have q := rmay_b (cfg2 N 5) x 1 (i : Int) wr (HXW.out.later hbw) HWF.out HFW.out
                rw [show mayB (cfg2 N 5) 1 ((i : Nat) : Int) = true from by rw [show ((i : Nat) : Int) = 12 + 4 * (N : Int) by omega]; exact cfg2_may1 (by omega) (by omega) (by omega) (by omega)] at q
                exact q)
              clear hbw
              go_wp2_with fail
              refine HMY.out.mono ?_
              rintro e w8 ⟨rfl, hb8⟩
              have HB8 := Lib.hid (HBV7.out.trans (hb8.mono HBV7.out.size))
              clear hb8 c0 c1 c2 c3 c4 c5 e1 e2
              go_wp2
              go_roundw
              case rel => exact ⟨i + 1, cnt + 1, by omega, by go_num, by go_num, by omega, by rw [if_pos (by omega)]; omega, HB8.out⟩
              case measure => simp [intOf]; omega
          · have hcn : cnt ≤ 1 := by split at hc1 <;> omega
            have s1 : ¬ ((i : Int) < 13 + 4 * (N : Int)) := by omega
            have hn1 : ¬ (1 < cnt) := by omega
            have HPE := Lib.hid ((HP7.out.later hbv).fewE (E' := fun k => k = pb) (fun k h => .inl h) rfl)
            clear hc1 hbv
            go_wp2
            go_roundw
            case rel => exact ⟨k + 1, P', wq, rq', by omega, by go_num, HI2.out, by rw [show 2 * (k + 1) = 2 * k + 1 + 1 by omega]; exact HPE.out.more⟩
            case measure => simp [intOf]; omega
      · go_wp2_with fail
        refine (write_b (k : Int) HP5.out (by omega)).mono ?_
        rintro e w6 ⟨rfl, wq', hp6, ho6⟩
        rw [(playW_ok (per := 5) HINV.out (k : Int)).1]
        have HI2 := Lib.hid (playW_ok (per := 5) HINV.out (k : Int)).2.1
        obtain ⟨ad, hch⟩ := own1_ch (playW_ok (per := 5) HINV.out (k : Int)).2.2
        obtain ⟨P', hP'⟩ : ∃ Q, (playW N 5 P (k : Int)).1 = Q := ⟨_, rfl⟩
        rw [hP'] at HI2 hch hp6
        have HCHG := Lib.hid hch
        have HWG6 := Lib.hid (HWG5.out.of (ho6.block g HWG5.out.lt (fun h => h.1.elim (fun h => h (.inr rfl)) HGP.out)))
        have HP6 := Lib.hid hp6
        clear hp6 ho6 hch hP'
        go_wp2_with fail
        refine (memWords_b mb rb _ w6 HP6.out.duo.mem HP6.out.duo.fin.max).mono ?_
        rintro e w7 ⟨g2, rfl, hg2, hwg2, hb7⟩
        have HP7 := Lib.hid (HP6.out.later hb7)
        have HWG7 := Lib.hid (HWG6.out.of (hb7.block g HWG6.out.lt))
        have HWG2 := Lib.hid hwg2
        have HLN : Hid (P'.m.length = 13 + 4 * N ∧ P.m.length = 13 + 4 * N) := Lib.hid ⟨(HI2.out.len), HINV.out.len⟩
        have hln := HLN.out.1
        clear hg2 hwg2 hb7
        rw [hln]
        clear hln
        go_wp2
        go_loopw [12, 60] (fun cv ix wv => ∃ (i : Nat) (cnt : Int), i ≤ 13 + 4 * N ∧ ix = .int .i64 i ∧ cv = .int .i64 cnt ∧ 0 ≤ cnt ∧ (cnt ≤ if ad < i then 1 else 0) ∧ Below w7.heap.size w7 wv) (fun _ ix _ => 13 + 4 * N - (intOf ix).toNat)
        case atStart => exact ⟨0, 0, by omega, rfl, rfl, Int.le_refl _, by rw [if_neg (by omega)]; exact Int.le_refl _, Below.refl _ _⟩
        case round =>
          obtain ⟨i, cnt, hi, rfl, rfl, hc0, hc1, hbv⟩ := hrel
          by_cases hil : i < 13 + 4 * N
          · have e2 := (HWG2.out.of (hbv.block g2 HWG2.out.lt)).cell (k := i) (by rw [HLN.out.1]; exact hil)
            have e1 := (HWG7.out.of (hbv.block g HWG7.out.lt)).cell (k := i) (by rw [HLN.out.2]; exact hil)
            obtain ⟨y2, hy2⟩ : ∃ y, P'.m.getD i 0 = y := ⟨_, rfl⟩
            obtain ⟨y1, hy1⟩ : ∃ y, P.m.getD i 0 = y := ⟨_, rfl⟩
            rw [hy2] at e2
            rw [hy1] at e1
            have hpl := HLN.out.2
            have HY := Lib.hid (And.intro hy1 hy2)
            have HC := Lib.hid (And.intro hc0 hc1)
            have s1 : (i : Int) < 13 + 4 * (N : Int) := by omega
            have s3 : (i : Int) < (P.m.length : Int) := by omega
            have HBV7 := Lib.hid hbv
            clear hy1 hy2 hc1 hbv hpl
            cases hq : (y2 == y1) with
            | true =>
              go_wp2
              go_roundw
              case rel => exact ⟨i + 1, cnt, by omega, by go_num, rfl, HC.out.1, by have := HC.out.2; split at this <;> split <;> omega, HBV7.out⟩
              case measure => simp [intOf]; omega
            | false =>
              have hia : i = ad := HCHG.out.2.2 i (by
                have h1 := HY.out.1
                have h2 := HY.out.2
                show P'.m.getD i 0 ≠ P.m.getD i 0
                rw [h1, h2]
                exact ne_of_beq_false hq)
              subst hia
              have hlo := HCHG.out.1
              have hhi := HCHG.out.2.1
              have hcn : cnt ≤ 0 := by have := HC.out.2; rw [if_neg (by omega)] at this; exact this
              have hn0 : ((i : Int) == 0) = false := beq_false_of_ne (by omega)
              have hbw := HP7.out.duo.below.trans (HBV7.out.mono HP7.out.duo.below.size)
              obtain ⟨c0, c1, c2, c3, c4, c5⟩ := HBX.out _ hbw
              have HMY : Hid (Calls Tryz.prog 24 #[.agg #[.slice x.pa 2 x.pc, .slice x.ca 1 x.cc, .int .i64 1, .slice x.aa 1 x.ac, .int .i64 1, .slice x.ba 1 x.bc], .int .i64 0, .int .i64 (i : Int)] wr fun e w' => e = .returned (.bool true) ∧ Below wr.heap.size wr w') := Lib.hid (by
                have q := rmay_b (cfg2 N 5) x 0 (i : Int) wr (HXW.out.later hbw) HWF.out HFW.out
                rw [show mayB (cfg2 N 5) 0 ((i : Nat) : Int) = true from cfg2_may0 (by omega) (by omega) (by omega) (by omega) (by omega) (by omega)] at q
                exact q)
              clear hbw
              go_wp2_with fail
              refine HMY.out.mono ?_
              rintro e w8 ⟨rfl, hb8⟩
              have HB8 := Lib.hid (HBV7.out.trans (hb8.mono HBV7.out.size))
              clear hb8 c0 c1 c2 c3 c4 c5 e1 e2
              go_wp2
              go_roundw
              case rel => exact ⟨i + 1, cnt + 1, by omega, by go_num, by go_num, by omega, by rw [if_pos (by omega)]; omega, HB8.out⟩
              case measure => simp [intOf]; omega
          · have hcn : cnt ≤ 1 := by split at hc1 <;> omega
            have s1 : ¬ ((i : Int) < 13 + 4 * (N : Int)) := by omega
            have hn1 : ¬ (1 < cnt) := by omega
            have HPE := Lib.hid ((HP7.out.later hbv).fewE (E' := fun k => k = pb) (fun k h => .inl h) rfl)
            clear hc1 hbv
            go_wp2
            go_roundw
            case rel => exact ⟨k + 1, P', wq', rq, by omega, by go_num, HI2.out, by rw [show 2 * (k + 1) = 2 * k + 2 by omega]; exact HPE.out⟩
            case measure => simp [intOf]; omega
    · have HP := Lib.hid hp
      clear hinv hp
      go_wp2
      go_ret
      exact ⟨rfl, HBW.out.trans (HP.out.duo.below.mono HBW.out.size)⟩
end Go.Proofs.YtocdidkfnbkkhaaGreat
