/- Texts of the ring, joined, what is used of them. No condition but those in the statements. -/
import Derived.BigQuiet
import Derived.BigRegion
import Derived.Deep.MidRow
import Derived.Deep.RegionHeld3
import Derived.Deep.Upon
import Derived.IntWalk
import Derived.Shelf.Abstract
import Derived.Test.YtfdgokkngejbhaaGreatQMK
import Derived.Test.YtfdgokkngejbhaaGreatQgI
namespace Go.Proofs.YtfdgokkngejbhaaGreat
open Go.RowKit Go.Sort
set_option linter.unusedVariables false
set_option linter.unusedSimpArgs false
set_option linter.unusedVariables false
set_option linter.unusedSimpArgs false
open Go.Proofs.YtfdgokkngejbhaaGreat.Simp
set_option maxRecDepth 100000
set_option maxHeartbeats 12800000
theorem ownS_ch {N D : Nat} {m m' : List Int} (h : OwnS N D m m') : ∃ a : Nat, 1 ≤ a ∧ a < 2 + D * (N + 1) ∧ ∀ j, m'.getD j 0 ≠ m.getD j 0 → j = a := by
  rcases h with rfl | ⟨a, v, h1, h2, rfl⟩
  · exact ⟨1, by omega, by omega, fun j hj => absurd rfl hj⟩
  · exact ⟨a, h1, h2, fun j hj => set_differs hj⟩
theorem ownR_ch {N D : Nat} {m m' : List Int} (h : OwnR N D m m') : ∃ a : Nat, 2 + D * (N + 1) ≤ a ∧ a < 3 + D * (N + 1) ∧ ∀ j, m'.getD j 0 ≠ m.getD j 0 → j = a := by
  rcases h with rfl | ⟨v, rfl⟩
  · exact ⟨2 + D * (N + 1), by omega, by omega, fun j hj => absurd rfl hj⟩
  · exact ⟨2 + D * (N + 1), by omega, by omega, fun j hj => set_differs hj⟩
theorem cfgQ_chan {N D : Nat} {boot : Int} (h1 : 1 ≤ N) (h2 : N ≤ 16) (h3 : D = 1 ∨ D = 2 ∨ D = 4 ∨ D = 8) : chanB (cfgQ N D boot) 0 = true := by unfold chanB; rw [cfgQ_ok h1 h2 h3]; rfl
theorem cfgQ_spans {N D : Nat} {boot : Int} (h1 : 1 ≤ N) (h2 : N ≤ 16) (h3 : D = 1 ∨ D = 2 ∨ D = 4 ∨ D = 8) : srcSpan (cfgQ N D boot) 0 = (1, 1 + ((D * (N + 1) : Nat) : Int)) ∧ dstSpan (cfgQ N D boot) 0 = (1 + (1 + ((D * (N + 1) : Nat) : Int)), 1) := by
  have hc := cfgQ_chan (boot := boot) h1 h2 h3
  have hs := cfgQ_srcN (boot := boot) h1 h2 h3
  unfold srcSpan dstSpan
  rw [if_pos hc, if_pos hc, show (0 : Int).toNat = 0 from rfl, hs]
  exact ⟨rfl, rfl⟩
theorem cfgQ_may0 {N D : Nat} {boot : Int} {a : Nat} (h1 : 1 ≤ N) (h2 : N ≤ 16) (h3 : D = 1 ∨ D = 2 ∨ D = 4 ∨ D = 8) (ha : 1 ≤ a) (hb : a < 2 + D * (N + 1)) : mayB (cfgQ N D boot) 0 ((a : Nat) : Int) = true := by
  have hs := (cfgQ_spans (boot := boot) h1 h2 h3).1
  have hpos : 1 ≤ D * (N + 1) := Nat.mul_pos (by omega) (by omega)
  have hlim := Nat.mul_le_mul (show D ≤ 8 by omega) (show N + 1 ≤ 17 by omega)
  obtain ⟨M, hM⟩ : ∃ M, D * (N + 1) = M := ⟨_, rfl⟩
  rw [hM] at hs hb hpos hlim
  have hc : chMay (cfgQ N D boot) 0 a 0 = true := by
    unfold chMay
    rw [show ((0 : Nat) : Int) = 0 from rfl, hs]
    have : hasS (1, 1 + (M : Int)) a = true := by
      unfold hasS One.hasB One.rightB
      simp
      omega
    rw [this]; rfl
  unfold mayB
  rw [show (cfgQ N D boot).chans.length = 1 from rfl, scan_true (k := 0) (by decide) hc, Bool.or_true]
theorem cfgQ_may1 {N D : Nat} {boot : Int} {a : Nat} (h1 : 1 ≤ N) (h2 : N ≤ 16) (h3 : D = 1 ∨ D = 2 ∨ D = 4 ∨ D = 8) (ha : 2 + D * (N + 1) ≤ a) (hb : a < 3 + D * (N + 1)) : mayB (cfgQ N D boot) 1 ((a : Nat) : Int) = true := by
  have hd := (cfgQ_spans (boot := boot) h1 h2 h3).2
  have hpos : 1 ≤ D * (N + 1) := Nat.mul_pos (by omega) (by omega)
  have hlim := Nat.mul_le_mul (show D ≤ 8 by omega) (show N + 1 ≤ 17 by omega)
  obtain ⟨M, hM⟩ : ∃ M, D * (N + 1) = M := ⟨_, rfl⟩
  rw [hM] at hd ha hb hpos hlim
  have hc : chMay (cfgQ N D boot) 1 a 0 = true := by
    unfold chMay
    rw [show ((0 : Nat) : Int) = 0 from rfl, hd]
    have : hasS (1 + (1 + (M : Int)), 1) a = true := by
      unfold hasS One.hasB One.rightB
      simp
      omega
    rw [this, Bool.or_eq_true]; exact .inr rfl
  unfold mayB
  rw [show (cfgQ N D boot).chans.length = 1 from rfl, scan_true (k := 0) (by decide) hc, Bool.or_true]
theorem lrkeeps_b (a b : Int) (bs : List Bool) (A : Option Addr) (cap : Nat) (w : World) (hw : (0 ≤ a ∧ a ≤ 255) ∧ (0 ≤ b ∧ b ≤ 255)) (hc : bs.length ≤ cap) (hm : cap ≤ maxLen) (hnil : A = none → bs = []) (hrow : BoolRowIn w w.heap.size A bs) : Calls Tryz.prog 6 #[.agg #[.int .u8 a, .int .u8 b], .slice A bs.length cap] w fun e w' => e = .returned (.bool true) ∧ Below w.heap.size w w' := by
  have h0 : (0 : Int) ≤ 4294967294 ∧ (4294967294 : Int) ≤ 4294967295 := by decide
  obtain ⟨N, hN⟩ : ∃ N : Nat, 1 + a % 4 = (N : Int) := ⟨(1 + a % 4).toNat, by omega⟩
  obtain ⟨D, hD, hDQ⟩ : ∃ D : Nat, (∀ v : Int, (b % 4 = 0 → v = 1) → (b % 4 = 1 → v = 2) → (b % 4 = 2 → v = 4) → (b % 4 = 3 → v = 8) → v = (D : Int)) ∧ (D = 1 ∨ D = 2 ∨ D = 4 ∨ D = 8) := depthQ_is b
  have hN1 : 1 ≤ N ∧ N ≤ 4 := by omega
  have htm : a.tmod 4 = a % 4 := Int.tmod_eq_emod_of_nonneg hw.1.1
  have htn : b.tmod 4 = b % 4 := Int.tmod_eq_emod_of_nonneg hw.2.1
  have HTW := Lib.hid (fun (v1 v2 : Int) (w : World) (h1 : v1 = (N : Int)) (h2 : v2 = (D : Int)) => two_atQ v1 v2 N D 4294967294 w h1 h2 (by omega) h0)
  have HBG := Lib.hid (fun (x : CfgAt) (w : World) (hx : CfgIn w w.heap.size (cfgQ N D 4294967294) x) => begin_atQ N D 4294967294 x w hx hN1 hDQ h0)
  have HROW := Lib.hid hrow
  have HHN := Lib.hid hN; have HHD := Lib.hid hD; have HDQ := Lib.hid hDQ; have H0 := Lib.hid h0; have HAB := Lib.hid hw
  clear hN hD hDQ h0 hw hrow
  by_cases hl : 300 < bs.length
  · have hl2 : (300 : Int) < (bs.length : Int) := by omega
    clear htm htn
    go_enter Tryz.func6, Tryz.ntmps6
    go_wp2_with fail
    obtain ⟨w0, HW0⟩ : ∃ u, Hid (u = w.alloc (.cells #[.int .u8 a, .int .u8 b] 70)) := ⟨_, rfl⟩
    rw [← HW0.out]
    refine (wakesQ_b w0).mono ?_
    rintro e wv ⟨rfl, hbv⟩
    go_wp2
    go_ret
    have hb0 : Below w.heap.size w w0 := by rw [HW0.out]; exact (Below.refl _ _).alloc (Nat.le_refl _) _
    exact ⟨rfl, hb0.trans (hbv.mono hb0.size)⟩
  have hl2 : ¬ ((300 : Int) < (bs.length : Int)) := by omega
  go_enter Tryz.func6, Tryz.ntmps6
  go_wp2_with fail
  obtain ⟨w0, HW0⟩ : ∃ u, Hid (u = w.alloc (.cells #[.int .u8 a, .int .u8 b] 70)) := ⟨_, rfl⟩
  obtain ⟨hb, hhb⟩ : ∃ h, h = w.heap.size := ⟨_, rfl⟩
  rw [← HW0.out]
  simp only [← hhb]
  refine (wakesQ_b w0).mono ?_
  rintro e wv ⟨rfl, hbv⟩
  have hblk : w0.heap[hb]? = some (.cells #[.int .u8 a, .int .u8 b] 70 (0, 0)) := by rw [HW0.out, hhb]; exact heap_alloc_new _ _
  have hblv := (hbv.block hb (Array.getElem?_eq_some_iff.1 hblk).1).trans hblk
  have k0 : wv.cell? ⟨hb, 0, none⟩ = some (.int .u8 a) := cell_blk hblv rfl
  have k1 : wv.cell? ⟨hb, 1, none⟩ = some (.int .u8 b) := cell_blk hblv rfl
  have HBV : Hid (Below w.heap.size w wv) := Lib.hid (by
    have hb0 : Below w.heap.size w w0 := by rw [HW0.out]; exact (Below.refl _ _).alloc (Nat.le_refl _) _
    exact hb0.trans (hbv.mono hb0.size))
  clear hbv hblk hblv hhb
  go_wp2_with fail
  refine (HTW.out _ _ wv ?_ ?_).mono ?_
  · have := HHN.out; have := HAB.out; rw [IntWalk.wrap64_in a (by omega), htm, IntWalk.wrap64_in _ (by omega)]; omega
  · have := HAB.out
    refine HHD.out _ ?_ ?_ ?_ ?_
    all_goals (intro hz; rw [hz]; first | exact (IntWalk.wrap64_in 1 (by decide)) | exact (IntWalk.wrap64_in 2 (by decide)) | exact (IntWalk.wrap64_in 4 (by decide)) | exact (IntWalk.wrap64_in 8 (by decide)))
  rintro e W ⟨x, rfl, hx, hb1⟩
  have HXW := Lib.hid hx
  have HBW := Lib.hid (HBV.out.trans (hb1.mono HBV.out.size))
  clear hb1 hx k0 k1 htm htn
  go_wp2_with fail
  refine (HBG.out x W HXW.out).mono ?_
  rintro e v2 ⟨pb, mb, rb, bb, br, rfl, hp0⟩
  have HP0 := Lib.hid hp0
  clear hp0
  obtain ⟨L, hL⟩ : ∃ L, L = 3 + D * (N + 1) := ⟨_, rfl⟩
  have HL := Lib.hid hL
  have HHA : Hid (1 ≤ N ∧ N ≤ 16) := Lib.hid (by omega)
  have hLb : L ≤ 50 := by
    have hD8 : D ≤ 8 := by have := HDQ.out; omega
    have hmul := Nat.mul_le_mul hD8 (show N + 1 ≤ 5 by omega)
    omega
  clear hL
  go_wp2
  go_loopw [35] (fun ix wr => ∃ (k : Nat) (P : Ql) (sq rq : Nat), k ≤ bs.length ∧ ix = .int .i64 k ∧ QInv N D 4294967294 P ∧ PQAt W wr (fun k => k = pb) pb mb rb bb br N D 4294967294 x k P sq rq) (fun ix _ => bs.length - (intOf ix).toNat)
  case atStart => exact ⟨0, _, 0, 0, Nat.zero_le _, rfl, (q_zero hN1.1 (by omega) HDQ.out (by decide)).inv, HP0.out⟩
  case round =>
    obtain ⟨k, P, sq, rq, hk, rfl, hinv, hp⟩ := hrel
    by_cases hkl : k < bs.length
    · have hbw := HBW.out.trans (hp.below.mono HBW.out.size)
      obtain ⟨b', o, rfl, -, hcell⟩ := HROW.out.at_ hkl
      have ca := hcell wr hbw
      obtain ⟨ac, ha⟩ : ∃ a, bs.getD k false = a := ⟨_, rfl⟩
      rw [ha] at ca
      have h6c : wr.cell? ⟨pb, 6, none⟩ = some (.pointer (some ⟨mb, 0, none⟩)) := cell_blk hp.blk rfl
      obtain ⟨bs5, hq5, -, -⟩ := hp.quo
      have HINV := Lib.hid hinv; have HP := Lib.hid hp; have HQ5 := Lib.hid hq5
      clear ha hcell hbw hinv hp hq5
      go_wp2_with fail
      refine (memWords_b mb rb P.m wr HQ5.out.mem HQ5.out.fin.max).mono ?_
      rintro e w5 ⟨g, rfl, hg, hwg, hb5⟩
      have HP5 := Lib.hid (HP.out.moreE hb5 ⟨hg, hwg.lt⟩)
      have HGP : Hid (g ≠ pb) := Lib.hid (by have := HP.out.lt; omega)
      have HWG5 := Lib.hid hwg
      have hpl : P.m.length = L := HINV.out.len.trans HL.out.symm
      rw [hpl]
      obtain ⟨l1, l2, l3, l4, l5, l6, l7, l8, l9, l10⟩ := HP5.out.lim
      obtain ⟨z, hz⟩ : ∃ z, P.sent - P.got = z := ⟨_, rfl⟩
      have HZ := Lib.hid hz
      have n0 : IntKind.i64.wrap (P.sent - P.got) = z := by rw [hz]; exact IntWalk.i64_in _ (by omega)
      have q12 : ∀ p : Regrown, (grow (redrawn w5 p.d) p.os).cell? ⟨pb, 12, none⟩ = some (.int .i64 P.sent) := fun p => cell_regrown (cell_blk HP5.out.blk rfl) p.d p.os
      have q13 : ∀ p : Regrown, (grow (redrawn w5 p.d) p.os).cell? ⟨pb, 13, none⟩ = some (.int .i64 P.got) := fun p => cell_regrown (cell_blk HP5.out.blk rfl) p.d p.os
      have hbc := Below.refl w5.heap.size w5
      clear hg hwg hb5 ca hpl h6c hz l1 l2 l3 l4 l5 l6 l7 l8 l9 l10
      go_wp2
      with_reducible refine wp_on hbc (by kernel_rfl) (by kernel_rfl) ?_
      (repeat (go_big_quiet_step (fail)))
      with_reducible refine wpQuiet_nil ?_
      intro wc hbc
      have HP6 := Lib.hid (HP5.out.later hbc)
      have HWG6 := Lib.hid (HWG5.out.of (hbc.block g HWG5.out.lt))
      clear q12 q13 hbc n0
      cases ac
      · cases hr : P.r with
        | none =>
          have x9 : wc.cell? ⟨pb, 9, none⟩ = some (.pointer none) := by have q : wc.cell? ⟨pb, 9, none⟩ = some (pqW P.r rq) := (cell_blk HP6.out.blk rfl); rw [hr] at q; exact q
          obtain ⟨q0, hq0⟩ : ∃ q, (z == 0) = q := ⟨_, rfl⟩
          obtain ⟨qb, hqb⟩ : ∃ q : Bool, q = q0 := ⟨_, rfl⟩
          have HQZ : Hid (qb = true → (playQ N D 4294967294 P).1.m = P.m) := Lib.hid (fun h => (playQ_ok HINV.out).2.2.2.1 hr (by rw [hqb] at h; rw [← hq0] at h; have h := eq_of_beq h; rw [← HZ.out] at h; omega))
          rw [← hqb] at hq0
          clear hqb
          clear hr
          go_wp2_with fail
          refine (recv_b HP6.out (by omega) (playQ_ok HINV.out).1).mono ?_
          clear x9 hq0
          rintro e w6 ⟨rfl, rq', hp6, ho6⟩
          have HI2 := Lib.hid (playQ_ok HINV.out).2.1
          obtain ⟨ad, hch⟩ := ownR_ch (playQ_ok HINV.out).2.2.1
          obtain ⟨P', hP'⟩ : ∃ Q, (playQ N D 4294967294 P).1 = Q := ⟨_, rfl⟩
          rw [hP'] at HI2 hch hp6 HQZ
          have HCHG := Lib.hid hch
          have HWG7 := Lib.hid (HWG6.out.of (ho6.block g HWG6.out.lt (fun h => h.1.elim (fun h => h (.inr rfl)) HGP.out)))
          have HP7 := Lib.hid hp6
          clear hp6 ho6 hch hP'
          obtain ⟨bs6, hq6, -, -⟩ := HP7.out.quo
          have h6c : w6.cell? ⟨pb, 6, none⟩ = some (.pointer (some ⟨mb, 0, none⟩)) := cell_blk HP7.out.blk rfl
          have HQ6 := Lib.hid hq6
          clear hq6
          go_wp2_with fail
          refine (memWords_b mb rb _ w6 HQ6.out.mem HQ6.out.fin.max).mono ?_
          rintro e w7 ⟨g2, rfl, hg2, hwg2, hb7⟩
          have HP8 := Lib.hid (HP7.out.later hb7)
          have HWG8 := Lib.hid (HWG7.out.of (hb7.block g HWG7.out.lt))
          have HWG2 := Lib.hid hwg2
          have HLN : Hid (P'.m.length = L ∧ P.m.length = L) := Lib.hid ⟨HI2.out.len.trans HL.out.symm, HINV.out.len.trans HL.out.symm⟩
          have hln := HLN.out.1
          clear hg2 hwg2 hb7 h6c
          rw [hln]
          clear hln
          go_wp2
          go_loopw [12, 90] (fun cv ix wv => ∃ (i : Nat) (cnt : Int), i ≤ L ∧ ix = .int .i64 i ∧ cv = .int .i64 cnt ∧ 0 ≤ cnt ∧ (cnt ≤ if ad < i then 1 else 0) ∧ (qb = true → cnt = 0) ∧ Below w7.heap.size w7 wv) (fun _ ix _ => L - (intOf ix).toNat)
          case atStart => exact ⟨0, 0, by omega, rfl, rfl, Int.le_refl _, by rw [if_neg (by omega)]; exact Int.le_refl _, fun _ => rfl, Below.refl _ _⟩
          case round =>
            obtain ⟨i, cnt, hi, rfl, rfl, hc0, hc1, hcq, hbv⟩ := hrel
            by_cases hil : i < L
            · have e2 := (HWG2.out.of (hbv.block g2 HWG2.out.lt)).cell (k := i) (by rw [HLN.out.1]; exact hil)
              have e1 := (HWG8.out.of (hbv.block g HWG8.out.lt)).cell (k := i) (by rw [HLN.out.2]; exact hil)
              obtain ⟨y2, hy2⟩ : ∃ y, P'.m.getD i 0 = y := ⟨_, rfl⟩
              obtain ⟨y1, hy1⟩ : ∃ y, P.m.getD i 0 = y := ⟨_, rfl⟩
              rw [hy2] at e2
              rw [hy1] at e1
              have HY := Lib.hid (And.intro hy1 hy2)
              have HC := Lib.hid (And.intro hc0 (And.intro hc1 hcq))
              have s1 : (i : Int) < (L : Int) := by omega
              have HBV7 := Lib.hid hbv
              clear hy1 hy2 hc1 hcq hbv
              cases hq : (y2 == y1) with
              | true =>
                go_wp2
                go_roundw
                case rel => exact ⟨i + 1, cnt, by omega, by go_num, rfl, HC.out.1, by have := HC.out.2.1; split at this <;> split <;> omega, HC.out.2.2, HBV7.out⟩
                case measure => simp [intOf]; omega
              | false =>
                have hdf : P'.m.getD i 0 ≠ P.m.getD i 0 := by
                  have h1 := HY.out.1
                  have h2 := HY.out.2
                  rw [h1, h2]
                  exact ne_of_beq_false hq
                have hia : i = ad := HCHG.out.2.2 i hdf
                have hnq : ¬ (qb = true) := fun h => hdf (by rw [HQZ.out h])
                subst hia
                have hcn : cnt ≤ 0 := by have := HC.out.2.1; rw [if_neg (by omega)] at this; exact this
                have hn0 : ((i : Int) == 0) = false := beq_false_of_ne (by have := HCHG.out.1; omega)
                have hp9 := HP8.out.later HBV7.out
                have HMY : Hid (Calls Tryz.prog 32 #[.agg #[.slice x.pa 2 x.pc, .slice x.ca 1 x.cc, .int .i64 1, .slice x.aa 1 x.ac, .int .i64 1, .slice x.ba 1 x.bc], .int .i64 1, .int .i64 (i : Int)] wr fun e w' => e = .returned (.bool true) ∧ Below wr.heap.size wr w') := Lib.hid (by
                  have q := rmay_b (cfgQ N D 4294967294) x 1 (i : Int) wr (hp9.cfg.later hp9.below) hp9.wf (cfgQ_few N D 4294967294)
                  rw [show mayB (cfgQ N D 4294967294) 1 ((i : Nat) : Int) = true from cfgQ_may1 HHA.out.1 HHA.out.2 HDQ.out HCHG.out.1 HCHG.out.2.1] at q
                  exact q)
                have c0 : wr.cell? ⟨pb, 0, none⟩ = some (.slice x.pa 2 x.pc) := cell_blk hp9.blk rfl
                have c1 : wr.cell? ⟨pb, 1, none⟩ = some (.slice x.ca 1 x.cc) := cell_blk hp9.blk rfl
                have c2 : wr.cell? ⟨pb, 2, none⟩ = some (.int .i64 1) := cell_blk hp9.blk rfl
                have c3 : wr.cell? ⟨pb, 3, none⟩ = some (.slice x.aa 1 x.ac) := cell_blk hp9.blk rfl
                have c4 : wr.cell? ⟨pb, 4, none⟩ = some (.int .i64 1) := cell_blk hp9.blk rfl
                have c5 : wr.cell? ⟨pb, 5, none⟩ = some (.slice x.ba 1 x.bc) := cell_blk hp9.blk rfl
                have HNQ := Lib.hid hnq
                clear hp9 hdf hnq
                go_wp2_with fail
                refine HMY.out.mono ?_
                rintro e w8 ⟨rfl, hb8⟩
                have HB8 := Lib.hid (HBV7.out.trans (hb8.mono HBV7.out.size))
                clear hb8 c0 c1 c2 c3 c4 c5 e1 e2
                go_wp2
                go_roundw
                case rel => exact ⟨i + 1, cnt + 1, by omega, by go_num, by go_num, by omega, by rw [if_pos (by omega)]; omega, fun h => absurd h HNQ.out, HB8.out⟩
                case measure => simp [intOf]; omega
            · have hcn : cnt ≤ 1 := by split at hc1 <;> omega
              have s1 : ¬ ((i : Int) < (L : Int)) := by omega
              have hn1 : ¬ (1 < cnt) := by omega
              have HPE := Lib.hid ((HP8.out.later hbv).fewE (E' := fun k => k = pb) (fun k h => .inl h) rfl)
              clear hc1 hbv
              cases hqb : qb with
              | true =>
                obtain rfl : cnt = 0 := hcq hqb
                clear hcq
                (try subst hqb)
                go_wp2
                go_roundw
                case rel => exact ⟨k + 1, P', sq, rq', by omega, by go_num, HI2.out, HPE.out⟩
                case measure => simp [intOf]; omega
              | false =>
                clear hcq
                (try subst hqb)
                go_wp2
                go_roundw
                case rel => exact ⟨k + 1, P', sq, rq', by omega, by go_num, HI2.out, HPE.out⟩
                case measure => simp [intOf]; omega
        | some t =>
          have x9 : wc.cell? ⟨pb, 9, none⟩ = some (.pointer (some ⟨rq, 0, none⟩)) := by have q : wc.cell? ⟨pb, 9, none⟩ = some (pqW P.r rq) := (cell_blk HP6.out.blk rfl); rw [hr] at q; exact q
          obtain ⟨qb, hqf⟩ : ∃ q : Bool, false = q := ⟨_, rfl⟩
          have HQF := Lib.hid hqf
          have HQZ : Hid (qb = true → (playQ N D 4294967294 P).1.m = P.m) := Lib.hid (fun h => by rw [← hqf] at h; cases h)
          clear hqf
          clear hr
          go_wp2_with fail
          refine (recv_b HP6.out (by omega) (playQ_ok HINV.out).1).mono ?_
          clear x9
          rintro e w6 ⟨rfl, rq', hp6, ho6⟩
          have HI2 := Lib.hid (playQ_ok HINV.out).2.1
          obtain ⟨ad, hch⟩ := ownR_ch (playQ_ok HINV.out).2.2.1
          obtain ⟨P', hP'⟩ : ∃ Q, (playQ N D 4294967294 P).1 = Q := ⟨_, rfl⟩
          rw [hP'] at HI2 hch hp6 HQZ
          have HCHG := Lib.hid hch
          have HWG7 := Lib.hid (HWG6.out.of (ho6.block g HWG6.out.lt (fun h => h.1.elim (fun h => h (.inr rfl)) HGP.out)))
          have HP7 := Lib.hid hp6
          clear hp6 ho6 hch hP'
          obtain ⟨bs6, hq6, -, -⟩ := HP7.out.quo
          have h6c : w6.cell? ⟨pb, 6, none⟩ = some (.pointer (some ⟨mb, 0, none⟩)) := cell_blk HP7.out.blk rfl
          have HQ6 := Lib.hid hq6
          clear hq6
          go_wp2_with fail
          refine (memWords_b mb rb _ w6 HQ6.out.mem HQ6.out.fin.max).mono ?_
          rintro e w7 ⟨g2, rfl, hg2, hwg2, hb7⟩
          have HP8 := Lib.hid (HP7.out.later hb7)
          have HWG8 := Lib.hid (HWG7.out.of (hb7.block g HWG7.out.lt))
          have HWG2 := Lib.hid hwg2
          have HLN : Hid (P'.m.length = L ∧ P.m.length = L) := Lib.hid ⟨HI2.out.len.trans HL.out.symm, HINV.out.len.trans HL.out.symm⟩
          have hln := HLN.out.1
          clear hg2 hwg2 hb7 h6c
          rw [hln]
          clear hln
          go_wp2
          go_loopw [12, 90] (fun cv ix wv => ∃ (i : Nat) (cnt : Int), i ≤ L ∧ ix = .int .i64 i ∧ cv = .int .i64 cnt ∧ 0 ≤ cnt ∧ (cnt ≤ if ad < i then 1 else 0) ∧ (qb = true → cnt = 0) ∧ Below w7.heap.size w7 wv) (fun _ ix _ => L - (intOf ix).toNat)
          case atStart => exact ⟨0, 0, by omega, rfl, rfl, Int.le_refl _, by rw [if_neg (by omega)]; exact Int.le_refl _, fun _ => rfl, Below.refl _ _⟩
          case round =>
            obtain ⟨i, cnt, hi, rfl, rfl, hc0, hc1, hcq, hbv⟩ := hrel
            by_cases hil : i < L
            · have e2 := (HWG2.out.of (hbv.block g2 HWG2.out.lt)).cell (k := i) (by rw [HLN.out.1]; exact hil)
              have e1 := (HWG8.out.of (hbv.block g HWG8.out.lt)).cell (k := i) (by rw [HLN.out.2]; exact hil)
              obtain ⟨y2, hy2⟩ : ∃ y, P'.m.getD i 0 = y := ⟨_, rfl⟩
              obtain ⟨y1, hy1⟩ : ∃ y, P.m.getD i 0 = y := ⟨_, rfl⟩
              rw [hy2] at e2
              rw [hy1] at e1
              have HY := Lib.hid (And.intro hy1 hy2)
              have HC := Lib.hid (And.intro hc0 (And.intro hc1 hcq))
              have s1 : (i : Int) < (L : Int) := by omega
              have HBV7 := Lib.hid hbv
              clear hy1 hy2 hc1 hcq hbv
              cases hq : (y2 == y1) with
              | true =>
                go_wp2
                go_roundw
                case rel => exact ⟨i + 1, cnt, by omega, by go_num, rfl, HC.out.1, by have := HC.out.2.1; split at this <;> split <;> omega, HC.out.2.2, HBV7.out⟩
                case measure => simp [intOf]; omega
              | false =>
                have hdf : P'.m.getD i 0 ≠ P.m.getD i 0 := by
                  have h1 := HY.out.1
                  have h2 := HY.out.2
                  rw [h1, h2]
                  exact ne_of_beq_false hq
                have hia : i = ad := HCHG.out.2.2 i hdf
                have hnq : ¬ (qb = true) := fun h => hdf (by rw [HQZ.out h])
                subst hia
                have hcn : cnt ≤ 0 := by have := HC.out.2.1; rw [if_neg (by omega)] at this; exact this
                have hn0 : ((i : Int) == 0) = false := beq_false_of_ne (by have := HCHG.out.1; omega)
                have hp9 := HP8.out.later HBV7.out
                have HMY : Hid (Calls Tryz.prog 32 #[.agg #[.slice x.pa 2 x.pc, .slice x.ca 1 x.cc, .int .i64 1, .slice x.aa 1 x.ac, .int .i64 1, .slice x.ba 1 x.bc], .int .i64 1, .int .i64 (i : Int)] wr fun e w' => e = .returned (.bool true) ∧ Below wr.heap.size wr w') := Lib.hid (by
                  have q := rmay_b (cfgQ N D 4294967294) x 1 (i : Int) wr (hp9.cfg.later hp9.below) hp9.wf (cfgQ_few N D 4294967294)
                  rw [show mayB (cfgQ N D 4294967294) 1 ((i : Nat) : Int) = true from cfgQ_may1 HHA.out.1 HHA.out.2 HDQ.out HCHG.out.1 HCHG.out.2.1] at q
                  exact q)
                have c0 : wr.cell? ⟨pb, 0, none⟩ = some (.slice x.pa 2 x.pc) := cell_blk hp9.blk rfl
                have c1 : wr.cell? ⟨pb, 1, none⟩ = some (.slice x.ca 1 x.cc) := cell_blk hp9.blk rfl
                have c2 : wr.cell? ⟨pb, 2, none⟩ = some (.int .i64 1) := cell_blk hp9.blk rfl
                have c3 : wr.cell? ⟨pb, 3, none⟩ = some (.slice x.aa 1 x.ac) := cell_blk hp9.blk rfl
                have c4 : wr.cell? ⟨pb, 4, none⟩ = some (.int .i64 1) := cell_blk hp9.blk rfl
                have c5 : wr.cell? ⟨pb, 5, none⟩ = some (.slice x.ba 1 x.bc) := cell_blk hp9.blk rfl
                have HNQ := Lib.hid hnq
                clear hp9 hdf hnq
                go_wp2_with fail
                refine HMY.out.mono ?_
                rintro e w8 ⟨rfl, hb8⟩
                have HB8 := Lib.hid (HBV7.out.trans (hb8.mono HBV7.out.size))
                clear hb8 c0 c1 c2 c3 c4 c5 e1 e2
                go_wp2
                go_roundw
                case rel => exact ⟨i + 1, cnt + 1, by omega, by go_num, by go_num, by omega, by rw [if_pos (by omega)]; omega, fun h => absurd h HNQ.out, HB8.out⟩
                case measure => simp [intOf]; omega
            · have hcn : cnt ≤ 1 := by split at hc1 <;> omega
              have s1 : ¬ ((i : Int) < (L : Int)) := by omega
              have hn1 : ¬ (1 < cnt) := by omega
              have HPE := Lib.hid ((HP8.out.later hbv).fewE (E' := fun k => k = pb) (fun k h => .inl h) rfl)
              clear hc1 hbv
              clear hcq
              go_wp2
              go_roundw
              case rel => exact ⟨k + 1, P', sq, rq', by omega, by go_num, HI2.out, HPE.out⟩
              case measure => simp [intOf]; omega
      · cases hr : P.r with
        | none =>
          cases hs : P.s with
          | none =>
            have x9 : wc.cell? ⟨pb, 9, none⟩ = some (.pointer none) := by have q : wc.cell? ⟨pb, 9, none⟩ = some (pqW P.r rq) := (cell_blk HP6.out.blk rfl); rw [hr] at q; exact q
            have x8 : wc.cell? ⟨pb, 8, none⟩ = some (.pointer none) := by have q : wc.cell? ⟨pb, 8, none⟩ = some (pqW P.s sq) := (cell_blk HP6.out.blk rfl); rw [hs] at q; exact q
            obtain ⟨q0, hq0⟩ : ∃ q, (z == 0) = q := ⟨_, rfl⟩
            obtain ⟨q1, hq1⟩ : ∃ q, (z == (D : Int)) = q := ⟨_, rfl⟩
            obtain ⟨b', o, hca, hch⟩ := chanQ HP6.out.cfg HP6.out.wf
            have h4 : wc.cell? ⟨b', o + 4, none⟩ = some (.int .i64 (D : Int)) := by have q := (hch wc HP6.out.below).2.1; simpa using q
            have x1 : wc.cell? ⟨pb, 1, none⟩ = some (.slice (some ⟨b', o, none⟩) 1 x.cc) := by rw [← hca]; exact cell_blk HP6.out.blk rfl
            clear hca hch
            obtain ⟨qb, hqb⟩ : ∃ q : Bool, q = q1 := ⟨_, rfl⟩
            have HQZ : Hid (qb = true → (playS N D P).1.m = P.m) := Lib.hid (fun h => (playS_ok (boot := 4294967294) HINV.out).2.2.2.1 hs (by rw [hqb] at h; rw [← hq1] at h; have h := eq_of_beq h; rw [← HZ.out] at h; omega))
            rw [← hqb] at hq1
            clear hqb
            clear hr hs
            go_wp2_with fail
            refine (send_b HP6.out (by omega) (playS_ok (boot := 4294967294) HINV.out).1).mono ?_
            clear x9 x8 h4 x1 hq0 hq1
            rintro e w6 ⟨rfl, sq', hp6, ho6⟩
            have HI2 := Lib.hid (playS_ok (boot := 4294967294) HINV.out).2.1
            obtain ⟨ad, hch⟩ := ownS_ch (playS_ok (boot := 4294967294) HINV.out).2.2.1
            obtain ⟨P', hP'⟩ : ∃ Q, (playS N D P).1 = Q := ⟨_, rfl⟩
            rw [hP'] at HI2 hch hp6 HQZ
            have HCHG := Lib.hid hch
            have HWG7 := Lib.hid (HWG6.out.of (ho6.block g HWG6.out.lt (fun h => h.1.elim (fun h => h (.inr rfl)) HGP.out)))
            have HP7 := Lib.hid hp6
            clear hp6 ho6 hch hP'
            obtain ⟨bs6, hq6, -, -⟩ := HP7.out.quo
            have h6c : w6.cell? ⟨pb, 6, none⟩ = some (.pointer (some ⟨mb, 0, none⟩)) := cell_blk HP7.out.blk rfl
            have HQ6 := Lib.hid hq6
            clear hq6
            go_wp2_with fail
            refine (memWords_b mb rb _ w6 HQ6.out.mem HQ6.out.fin.max).mono ?_
            rintro e w7 ⟨g2, rfl, hg2, hwg2, hb7⟩
            have HP8 := Lib.hid (HP7.out.later hb7)
            have HWG8 := Lib.hid (HWG7.out.of (hb7.block g HWG7.out.lt))
            have HWG2 := Lib.hid hwg2
            have HLN : Hid (P'.m.length = L ∧ P.m.length = L) := Lib.hid ⟨HI2.out.len.trans HL.out.symm, HINV.out.len.trans HL.out.symm⟩
            have hln := HLN.out.1
            clear hg2 hwg2 hb7 h6c
            rw [hln]
            clear hln
            go_wp2
            go_loopw [12, 90] (fun cv ix wv => ∃ (i : Nat) (cnt : Int), i ≤ L ∧ ix = .int .i64 i ∧ cv = .int .i64 cnt ∧ 0 ≤ cnt ∧ (cnt ≤ if ad < i then 1 else 0) ∧ (qb = true → cnt = 0) ∧ Below w7.heap.size w7 wv) (fun _ ix _ => L - (intOf ix).toNat)
            case atStart => exact ⟨0, 0, by omega, rfl, rfl, Int.le_refl _, by rw [if_neg (by omega)]; exact Int.le_refl _, fun _ => rfl, Below.refl _ _⟩
            case round =>
              obtain ⟨i, cnt, hi, rfl, rfl, hc0, hc1, hcq, hbv⟩ := hrel
              by_cases hil : i < L
              · have e2 := (HWG2.out.of (hbv.block g2 HWG2.out.lt)).cell (k := i) (by rw [HLN.out.1]; exact hil)
                have e1 := (HWG8.out.of (hbv.block g HWG8.out.lt)).cell (k := i) (by rw [HLN.out.2]; exact hil)
                obtain ⟨y2, hy2⟩ : ∃ y, P'.m.getD i 0 = y := ⟨_, rfl⟩
                obtain ⟨y1, hy1⟩ : ∃ y, P.m.getD i 0 = y := ⟨_, rfl⟩
                rw [hy2] at e2
                rw [hy1] at e1
                have HY := Lib.hid (And.intro hy1 hy2)
                have HC := Lib.hid (And.intro hc0 (And.intro hc1 hcq))
                have s1 : (i : Int) < (L : Int) := by omega
                have HBV7 := Lib.hid hbv
                clear hy1 hy2 hc1 hcq hbv
                cases hq : (y2 == y1) with
                | true =>
                  go_wp2
                  go_roundw
                  case rel => exact ⟨i + 1, cnt, by omega, by go_num, rfl, HC.out.1, by have := HC.out.2.1; split at this <;> split <;> omega, HC.out.2.2, HBV7.out⟩
                  case measure => simp [intOf]; omega
                | false =>
                  have hdf : P'.m.getD i 0 ≠ P.m.getD i 0 := by
                    have h1 := HY.out.1
                    have h2 := HY.out.2
                    rw [h1, h2]
                    exact ne_of_beq_false hq
                  have hia : i = ad := HCHG.out.2.2 i hdf
                  have hnq : ¬ (qb = true) := fun h => hdf (by rw [HQZ.out h])
                  subst hia
                  have hcn : cnt ≤ 0 := by have := HC.out.2.1; rw [if_neg (by omega)] at this; exact this
                  have hn0 : ((i : Int) == 0) = false := beq_false_of_ne (by have := HCHG.out.1; omega)
                  have hp9 := HP8.out.later HBV7.out
                  have HMY : Hid (Calls Tryz.prog 32 #[.agg #[.slice x.pa 2 x.pc, .slice x.ca 1 x.cc, .int .i64 1, .slice x.aa 1 x.ac, .int .i64 1, .slice x.ba 1 x.bc], .int .i64 0, .int .i64 (i : Int)] wr fun e w' => e = .returned (.bool true) ∧ Below wr.heap.size wr w') := Lib.hid (by
                    have q := rmay_b (cfgQ N D 4294967294) x 0 (i : Int) wr (hp9.cfg.later hp9.below) hp9.wf (cfgQ_few N D 4294967294)
                    rw [show mayB (cfgQ N D 4294967294) 0 ((i : Nat) : Int) = true from cfgQ_may0 HHA.out.1 HHA.out.2 HDQ.out HCHG.out.1 HCHG.out.2.1] at q
                    exact q)
                  have c0 : wr.cell? ⟨pb, 0, none⟩ = some (.slice x.pa 2 x.pc) := cell_blk hp9.blk rfl
                  have c1 : wr.cell? ⟨pb, 1, none⟩ = some (.slice x.ca 1 x.cc) := cell_blk hp9.blk rfl
                  have c2 : wr.cell? ⟨pb, 2, none⟩ = some (.int .i64 1) := cell_blk hp9.blk rfl
                  have c3 : wr.cell? ⟨pb, 3, none⟩ = some (.slice x.aa 1 x.ac) := cell_blk hp9.blk rfl
                  have c4 : wr.cell? ⟨pb, 4, none⟩ = some (.int .i64 1) := cell_blk hp9.blk rfl
                  have c5 : wr.cell? ⟨pb, 5, none⟩ = some (.slice x.ba 1 x.bc) := cell_blk hp9.blk rfl
                  have HNQ := Lib.hid hnq
                  clear hp9 hdf hnq
                  go_wp2_with fail
                  refine HMY.out.mono ?_
                  rintro e w8 ⟨rfl, hb8⟩
                  have HB8 := Lib.hid (HBV7.out.trans (hb8.mono HBV7.out.size))
                  clear hb8 c0 c1 c2 c3 c4 c5 e1 e2
                  go_wp2
                  go_roundw
                  case rel => exact ⟨i + 1, cnt + 1, by omega, by go_num, by go_num, by omega, by rw [if_pos (by omega)]; omega, fun h => absurd h HNQ.out, HB8.out⟩
                  case measure => simp [intOf]; omega
              · have hcn : cnt ≤ 1 := by split at hc1 <;> omega
                have s1 : ¬ ((i : Int) < (L : Int)) := by omega
                have hn1 : ¬ (1 < cnt) := by omega
                have HPE := Lib.hid ((HP8.out.later hbv).fewE (E' := fun k => k = pb) (fun k h => .inl h) rfl)
                clear hc1 hbv
                cases hqb : qb with
                | true =>
                  obtain rfl : cnt = 0 := hcq hqb
                  clear hcq
                  (try subst hqb)
                  go_wp2
                  go_roundw
                  case rel => exact ⟨k + 1, P', sq', rq, by omega, by go_num, HI2.out, HPE.out⟩
                  case measure => simp [intOf]; omega
                | false =>
                  clear hcq
                  (try subst hqb)
                  go_wp2
                  go_roundw
                  case rel => exact ⟨k + 1, P', sq', rq, by omega, by go_num, HI2.out, HPE.out⟩
                  case measure => simp [intOf]; omega
          | some t =>
            have x9 : wc.cell? ⟨pb, 9, none⟩ = some (.pointer none) := by have q : wc.cell? ⟨pb, 9, none⟩ = some (pqW P.r rq) := (cell_blk HP6.out.blk rfl); rw [hr] at q; exact q
            have x8 : wc.cell? ⟨pb, 8, none⟩ = some (.pointer (some ⟨sq, 0, none⟩)) := by have q : wc.cell? ⟨pb, 8, none⟩ = some (pqW P.s sq) := (cell_blk HP6.out.blk rfl); rw [hs] at q; exact q
            obtain ⟨q0, hq0⟩ : ∃ q, (z == 0) = q := ⟨_, rfl⟩
            obtain ⟨qb, hqf⟩ : ∃ q : Bool, false = q := ⟨_, rfl⟩
            have HQF := Lib.hid hqf
            have HQZ : Hid (qb = true → (playS N D P).1.m = P.m) := Lib.hid (fun h => by rw [← hqf] at h; cases h)
            clear hqf
            clear hr hs
            go_wp2_with fail
            refine (send_b HP6.out (by omega) (playS_ok (boot := 4294967294) HINV.out).1).mono ?_
            clear x9 x8 hq0
            rintro e w6 ⟨rfl, sq', hp6, ho6⟩
            have HI2 := Lib.hid (playS_ok (boot := 4294967294) HINV.out).2.1
            obtain ⟨ad, hch⟩ := ownS_ch (playS_ok (boot := 4294967294) HINV.out).2.2.1
            obtain ⟨P', hP'⟩ : ∃ Q, (playS N D P).1 = Q := ⟨_, rfl⟩
            rw [hP'] at HI2 hch hp6 HQZ
            have HCHG := Lib.hid hch
            have HWG7 := Lib.hid (HWG6.out.of (ho6.block g HWG6.out.lt (fun h => h.1.elim (fun h => h (.inr rfl)) HGP.out)))
            have HP7 := Lib.hid hp6
            clear hp6 ho6 hch hP'
            obtain ⟨bs6, hq6, -, -⟩ := HP7.out.quo
            have h6c : w6.cell? ⟨pb, 6, none⟩ = some (.pointer (some ⟨mb, 0, none⟩)) := cell_blk HP7.out.blk rfl
            have HQ6 := Lib.hid hq6
            clear hq6
            go_wp2_with fail
            refine (memWords_b mb rb _ w6 HQ6.out.mem HQ6.out.fin.max).mono ?_
            rintro e w7 ⟨g2, rfl, hg2, hwg2, hb7⟩
            have HP8 := Lib.hid (HP7.out.later hb7)
            have HWG8 := Lib.hid (HWG7.out.of (hb7.block g HWG7.out.lt))
            have HWG2 := Lib.hid hwg2
            have HLN : Hid (P'.m.length = L ∧ P.m.length = L) := Lib.hid ⟨HI2.out.len.trans HL.out.symm, HINV.out.len.trans HL.out.symm⟩
            have hln := HLN.out.1
            clear hg2 hwg2 hb7 h6c
            rw [hln]
            clear hln
            go_wp2
            go_loopw [12, 90] (fun cv ix wv => ∃ (i : Nat) (cnt : Int), i ≤ L ∧ ix = .int .i64 i ∧ cv = .int .i64 cnt ∧ 0 ≤ cnt ∧ (cnt ≤ if ad < i then 1 else 0) ∧ (qb = true → cnt = 0) ∧ Below w7.heap.size w7 wv) (fun _ ix _ => L - (intOf ix).toNat)
            case atStart => exact ⟨0, 0, by omega, rfl, rfl, Int.le_refl _, by rw [if_neg (by omega)]; exact Int.le_refl _, fun _ => rfl, Below.refl _ _⟩
            case round =>
              obtain ⟨i, cnt, hi, rfl, rfl, hc0, hc1, hcq, hbv⟩ := hrel
              by_cases hil : i < L
              · have e2 := (HWG2.out.of (hbv.block g2 HWG2.out.lt)).cell (k := i) (by rw [HLN.out.1]; exact hil)
                have e1 := (HWG8.out.of (hbv.block g HWG8.out.lt)).cell (k := i) (by rw [HLN.out.2]; exact hil)
                obtain ⟨y2, hy2⟩ : ∃ y, P'.m.getD i 0 = y := ⟨_, rfl⟩
                obtain ⟨y1, hy1⟩ : ∃ y, P.m.getD i 0 = y := ⟨_, rfl⟩
                rw [hy2] at e2
                rw [hy1] at e1
                have HY := Lib.hid (And.intro hy1 hy2)
                have HC := Lib.hid (And.intro hc0 (And.intro hc1 hcq))
                have s1 : (i : Int) < (L : Int) := by omega
                have HBV7 := Lib.hid hbv
                clear hy1 hy2 hc1 hcq hbv
                cases hq : (y2 == y1) with
                | true =>
                  go_wp2
                  go_roundw
                  case rel => exact ⟨i + 1, cnt, by omega, by go_num, rfl, HC.out.1, by have := HC.out.2.1; split at this <;> split <;> omega, HC.out.2.2, HBV7.out⟩
                  case measure => simp [intOf]; omega
                | false =>
                  have hdf : P'.m.getD i 0 ≠ P.m.getD i 0 := by
                    have h1 := HY.out.1
                    have h2 := HY.out.2
                    rw [h1, h2]
                    exact ne_of_beq_false hq
                  have hia : i = ad := HCHG.out.2.2 i hdf
                  have hnq : ¬ (qb = true) := fun h => hdf (by rw [HQZ.out h])
                  subst hia
                  have hcn : cnt ≤ 0 := by have := HC.out.2.1; rw [if_neg (by omega)] at this; exact this
                  have hn0 : ((i : Int) == 0) = false := beq_false_of_ne (by have := HCHG.out.1; omega)
                  have hp9 := HP8.out.later HBV7.out
                  have HMY : Hid (Calls Tryz.prog 32 #[.agg #[.slice x.pa 2 x.pc, .slice x.ca 1 x.cc, .int .i64 1, .slice x.aa 1 x.ac, .int .i64 1, .slice x.ba 1 x.bc], .int .i64 0, .int .i64 (i : Int)] wr fun e w' => e = .returned (.bool true) ∧ Below wr.heap.size wr w') := Lib.hid (by
                    have q := rmay_b (cfgQ N D 4294967294) x 0 (i : Int) wr (hp9.cfg.later hp9.below) hp9.wf (cfgQ_few N D 4294967294)
                    rw [show mayB (cfgQ N D 4294967294) 0 ((i : Nat) : Int) = true from cfgQ_may0 HHA.out.1 HHA.out.2 HDQ.out HCHG.out.1 HCHG.out.2.1] at q
                    exact q)
                  have c0 : wr.cell? ⟨pb, 0, none⟩ = some (.slice x.pa 2 x.pc) := cell_blk hp9.blk rfl
                  have c1 : wr.cell? ⟨pb, 1, none⟩ = some (.slice x.ca 1 x.cc) := cell_blk hp9.blk rfl
                  have c2 : wr.cell? ⟨pb, 2, none⟩ = some (.int .i64 1) := cell_blk hp9.blk rfl
                  have c3 : wr.cell? ⟨pb, 3, none⟩ = some (.slice x.aa 1 x.ac) := cell_blk hp9.blk rfl
                  have c4 : wr.cell? ⟨pb, 4, none⟩ = some (.int .i64 1) := cell_blk hp9.blk rfl
                  have c5 : wr.cell? ⟨pb, 5, none⟩ = some (.slice x.ba 1 x.bc) := cell_blk hp9.blk rfl
                  have HNQ := Lib.hid hnq
                  clear hp9 hdf hnq
                  go_wp2_with fail
                  refine HMY.out.mono ?_
                  rintro e w8 ⟨rfl, hb8⟩
                  have HB8 := Lib.hid (HBV7.out.trans (hb8.mono HBV7.out.size))
                  clear hb8 c0 c1 c2 c3 c4 c5 e1 e2
                  go_wp2
                  go_roundw
                  case rel => exact ⟨i + 1, cnt + 1, by omega, by go_num, by go_num, by omega, by rw [if_pos (by omega)]; omega, fun h => absurd h HNQ.out, HB8.out⟩
                  case measure => simp [intOf]; omega
              · have hcn : cnt ≤ 1 := by split at hc1 <;> omega
                have s1 : ¬ ((i : Int) < (L : Int)) := by omega
                have hn1 : ¬ (1 < cnt) := by omega
                have HPE := Lib.hid ((HP8.out.later hbv).fewE (E' := fun k => k = pb) (fun k h => .inl h) rfl)
                clear hc1 hbv
                clear hcq
                go_wp2
                go_roundw
                case rel => exact ⟨k + 1, P', sq', rq, by omega, by go_num, HI2.out, HPE.out⟩
                case measure => simp [intOf]; omega
        | some tr =>
          cases hs : P.s with
          | none =>
            have x9 : wc.cell? ⟨pb, 9, none⟩ = some (.pointer (some ⟨rq, 0, none⟩)) := by have q : wc.cell? ⟨pb, 9, none⟩ = some (pqW P.r rq) := (cell_blk HP6.out.blk rfl); rw [hr] at q; exact q
            have x8 : wc.cell? ⟨pb, 8, none⟩ = some (.pointer none) := by have q : wc.cell? ⟨pb, 8, none⟩ = some (pqW P.s sq) := (cell_blk HP6.out.blk rfl); rw [hs] at q; exact q
            obtain ⟨q1, hq1⟩ : ∃ q, (z == (D : Int)) = q := ⟨_, rfl⟩
            obtain ⟨b', o, hca, hch⟩ := chanQ HP6.out.cfg HP6.out.wf
            have h4 : wc.cell? ⟨b', o + 4, none⟩ = some (.int .i64 (D : Int)) := by have q := (hch wc HP6.out.below).2.1; simpa using q
            have x1 : wc.cell? ⟨pb, 1, none⟩ = some (.slice (some ⟨b', o, none⟩) 1 x.cc) := by rw [← hca]; exact cell_blk HP6.out.blk rfl
            clear hca hch
            obtain ⟨qb, hqb⟩ : ∃ q : Bool, q = q1 := ⟨_, rfl⟩
            have HQZ : Hid (qb = true → (playS N D P).1.m = P.m) := Lib.hid (fun h => (playS_ok (boot := 4294967294) HINV.out).2.2.2.1 hs (by rw [hqb] at h; rw [← hq1] at h; have h := eq_of_beq h; rw [← HZ.out] at h; omega))
            rw [← hqb] at hq1
            clear hqb
            clear hr hs
            go_wp2_with fail
            refine (send_b HP6.out (by omega) (playS_ok (boot := 4294967294) HINV.out).1).mono ?_
            clear x9 x8 h4 x1 hq1
            rintro e w6 ⟨rfl, sq', hp6, ho6⟩
            have HI2 := Lib.hid (playS_ok (boot := 4294967294) HINV.out).2.1
            obtain ⟨ad, hch⟩ := ownS_ch (playS_ok (boot := 4294967294) HINV.out).2.2.1
            obtain ⟨P', hP'⟩ : ∃ Q, (playS N D P).1 = Q := ⟨_, rfl⟩
            rw [hP'] at HI2 hch hp6 HQZ
            have HCHG := Lib.hid hch
            have HWG7 := Lib.hid (HWG6.out.of (ho6.block g HWG6.out.lt (fun h => h.1.elim (fun h => h (.inr rfl)) HGP.out)))
            have HP7 := Lib.hid hp6
            clear hp6 ho6 hch hP'
            obtain ⟨bs6, hq6, -, -⟩ := HP7.out.quo
            have h6c : w6.cell? ⟨pb, 6, none⟩ = some (.pointer (some ⟨mb, 0, none⟩)) := cell_blk HP7.out.blk rfl
            have HQ6 := Lib.hid hq6
            clear hq6
            go_wp2_with fail
            refine (memWords_b mb rb _ w6 HQ6.out.mem HQ6.out.fin.max).mono ?_
            rintro e w7 ⟨g2, rfl, hg2, hwg2, hb7⟩
            have HP8 := Lib.hid (HP7.out.later hb7)
            have HWG8 := Lib.hid (HWG7.out.of (hb7.block g HWG7.out.lt))
            have HWG2 := Lib.hid hwg2
            have HLN : Hid (P'.m.length = L ∧ P.m.length = L) := Lib.hid ⟨HI2.out.len.trans HL.out.symm, HINV.out.len.trans HL.out.symm⟩
            have hln := HLN.out.1
            clear hg2 hwg2 hb7 h6c
            rw [hln]
            clear hln
            go_wp2
            go_loopw [12, 90] (fun cv ix wv => ∃ (i : Nat) (cnt : Int), i ≤ L ∧ ix = .int .i64 i ∧ cv = .int .i64 cnt ∧ 0 ≤ cnt ∧ (cnt ≤ if ad < i then 1 else 0) ∧ (qb = true → cnt = 0) ∧ Below w7.heap.size w7 wv) (fun _ ix _ => L - (intOf ix).toNat)
            case atStart => exact ⟨0, 0, by omega, rfl, rfl, Int.le_refl _, by rw [if_neg (by omega)]; exact Int.le_refl _, fun _ => rfl, Below.refl _ _⟩
            case round =>
              obtain ⟨i, cnt, hi, rfl, rfl, hc0, hc1, hcq, hbv⟩ := hrel
              by_cases hil : i < L
              · have e2 := (HWG2.out.of (hbv.block g2 HWG2.out.lt)).cell (k := i) (by rw [HLN.out.1]; exact hil)
                have e1 := (HWG8.out.of (hbv.block g HWG8.out.lt)).cell (k := i) (by rw [HLN.out.2]; exact hil)
                obtain ⟨y2, hy2⟩ : ∃ y, P'.m.getD i 0 = y := ⟨_, rfl⟩
                obtain ⟨y1, hy1⟩ : ∃ y, P.m.getD i 0 = y := ⟨_, rfl⟩
                rw [hy2] at e2
                rw [hy1] at e1
                have HY := Lib.hid (And.intro hy1 hy2)
                have HC := Lib.hid (And.intro hc0 (And.intro hc1 hcq))
                have s1 : (i : Int) < (L : Int) := by omega
                have HBV7 := Lib.hid hbv
                clear hy1 hy2 hc1 hcq hbv
                cases hq : (y2 == y1) with
                | true =>
                  go_wp2
                  go_roundw
                  case rel => exact ⟨i + 1, cnt, by omega, by go_num, rfl, HC.out.1, by have := HC.out.2.1; split at this <;> split <;> omega, HC.out.2.2, HBV7.out⟩
                  case measure => simp [intOf]; omega
                | false =>
                  have hdf : P'.m.getD i 0 ≠ P.m.getD i 0 := by
                    have h1 := HY.out.1
                    have h2 := HY.out.2
                    rw [h1, h2]
                    exact ne_of_beq_false hq
                  have hia : i = ad := HCHG.out.2.2 i hdf
                  have hnq : ¬ (qb = true) := fun h => hdf (by rw [HQZ.out h])
                  subst hia
                  have hcn : cnt ≤ 0 := by have := HC.out.2.1; rw [if_neg (by omega)] at this; exact this
                  have hn0 : ((i : Int) == 0) = false := beq_false_of_ne (by have := HCHG.out.1; omega)
                  have hp9 := HP8.out.later HBV7.out
                  have HMY : Hid (Calls Tryz.prog 32 #[.agg #[.slice x.pa 2 x.pc, .slice x.ca 1 x.cc, .int .i64 1, .slice x.aa 1 x.ac, .int .i64 1, .slice x.ba 1 x.bc], .int .i64 0, .int .i64 (i : Int)] wr fun e w' => e = .returned (.bool true) ∧ Below wr.heap.size wr w') := Lib.hid (by
                    have q := rmay_b (cfgQ N D 4294967294) x 0 (i : Int) wr (hp9.cfg.later hp9.below) hp9.wf (cfgQ_few N D 4294967294)
                    rw [show mayB (cfgQ N D 4294967294) 0 ((i : Nat) : Int) = true from cfgQ_may0 HHA.out.1 HHA.out.2 HDQ.out HCHG.out.1 HCHG.out.2.1] at q
                    exact q)
                  have c0 : wr.cell? ⟨pb, 0, none⟩ = some (.slice x.pa 2 x.pc) := cell_blk hp9.blk rfl
                  have c1 : wr.cell? ⟨pb, 1, none⟩ = some (.slice x.ca 1 x.cc) := cell_blk hp9.blk rfl
                  have c2 : wr.cell? ⟨pb, 2, none⟩ = some (.int .i64 1) := cell_blk hp9.blk rfl
                  have c3 : wr.cell? ⟨pb, 3, none⟩ = some (.slice x.aa 1 x.ac) := cell_blk hp9.blk rfl
                  have c4 : wr.cell? ⟨pb, 4, none⟩ = some (.int .i64 1) := cell_blk hp9.blk rfl
                  have c5 : wr.cell? ⟨pb, 5, none⟩ = some (.slice x.ba 1 x.bc) := cell_blk hp9.blk rfl
                  have HNQ := Lib.hid hnq
                  clear hp9 hdf hnq
                  go_wp2_with fail
                  refine HMY.out.mono ?_
                  rintro e w8 ⟨rfl, hb8⟩
                  have HB8 := Lib.hid (HBV7.out.trans (hb8.mono HBV7.out.size))
                  clear hb8 c0 c1 c2 c3 c4 c5 e1 e2
                  go_wp2
                  go_roundw
                  case rel => exact ⟨i + 1, cnt + 1, by omega, by go_num, by go_num, by omega, by rw [if_pos (by omega)]; omega, fun h => absurd h HNQ.out, HB8.out⟩
                  case measure => simp [intOf]; omega
              · have hcn : cnt ≤ 1 := by split at hc1 <;> omega
                have s1 : ¬ ((i : Int) < (L : Int)) := by omega
                have hn1 : ¬ (1 < cnt) := by omega
                have HPE := Lib.hid ((HP8.out.later hbv).fewE (E' := fun k => k = pb) (fun k h => .inl h) rfl)
                clear hc1 hbv
                cases hqb : qb with
                | true =>
                  obtain rfl : cnt = 0 := hcq hqb
                  clear hcq
                  (try subst hqb)
                  go_wp2
                  go_roundw
                  case rel => exact ⟨k + 1, P', sq', rq, by omega, by go_num, HI2.out, HPE.out⟩
                  case measure => simp [intOf]; omega
                | false =>
                  clear hcq
                  (try subst hqb)
                  go_wp2
                  go_roundw
                  case rel => exact ⟨k + 1, P', sq', rq, by omega, by go_num, HI2.out, HPE.out⟩
                  case measure => simp [intOf]; omega
          | some t =>
            have x9 : wc.cell? ⟨pb, 9, none⟩ = some (.pointer (some ⟨rq, 0, none⟩)) := by have q : wc.cell? ⟨pb, 9, none⟩ = some (pqW P.r rq) := (cell_blk HP6.out.blk rfl); rw [hr] at q; exact q
            have x8 : wc.cell? ⟨pb, 8, none⟩ = some (.pointer (some ⟨sq, 0, none⟩)) := by have q : wc.cell? ⟨pb, 8, none⟩ = some (pqW P.s sq) := (cell_blk HP6.out.blk rfl); rw [hs] at q; exact q
            obtain ⟨qb, hqf⟩ : ∃ q : Bool, false = q := ⟨_, rfl⟩
            have HQF := Lib.hid hqf
            have HQZ : Hid (qb = true → (playS N D P).1.m = P.m) := Lib.hid (fun h => by rw [← hqf] at h; cases h)
            clear hqf
            clear hr hs
            go_wp2_with fail
            refine (send_b HP6.out (by omega) (playS_ok (boot := 4294967294) HINV.out).1).mono ?_
            clear x9 x8
            rintro e w6 ⟨rfl, sq', hp6, ho6⟩
            have HI2 := Lib.hid (playS_ok (boot := 4294967294) HINV.out).2.1
            obtain ⟨ad, hch⟩ := ownS_ch (playS_ok (boot := 4294967294) HINV.out).2.2.1
            obtain ⟨P', hP'⟩ : ∃ Q, (playS N D P).1 = Q := ⟨_, rfl⟩
            rw [hP'] at HI2 hch hp6 HQZ
            have HCHG := Lib.hid hch
            have HWG7 := Lib.hid (HWG6.out.of (ho6.block g HWG6.out.lt (fun h => h.1.elim (fun h => h (.inr rfl)) HGP.out)))
            have HP7 := Lib.hid hp6
            clear hp6 ho6 hch hP'
            obtain ⟨bs6, hq6, -, -⟩ := HP7.out.quo
            have h6c : w6.cell? ⟨pb, 6, none⟩ = some (.pointer (some ⟨mb, 0, none⟩)) := cell_blk HP7.out.blk rfl
            have HQ6 := Lib.hid hq6
            clear hq6
            go_wp2_with fail
            refine (memWords_b mb rb _ w6 HQ6.out.mem HQ6.out.fin.max).mono ?_
            rintro e w7 ⟨g2, rfl, hg2, hwg2, hb7⟩
            have HP8 := Lib.hid (HP7.out.later hb7)
            have HWG8 := Lib.hid (HWG7.out.of (hb7.block g HWG7.out.lt))
            have HWG2 := Lib.hid hwg2
            have HLN : Hid (P'.m.length = L ∧ P.m.length = L) := Lib.hid ⟨HI2.out.len.trans HL.out.symm, HINV.out.len.trans HL.out.symm⟩
            have hln := HLN.out.1
            clear hg2 hwg2 hb7 h6c
            rw [hln]
            clear hln
            go_wp2
            go_loopw [12, 90] (fun cv ix wv => ∃ (i : Nat) (cnt : Int), i ≤ L ∧ ix = .int .i64 i ∧ cv = .int .i64 cnt ∧ 0 ≤ cnt ∧ (cnt ≤ if ad < i then 1 else 0) ∧ (qb = true → cnt = 0) ∧ Below w7.heap.size w7 wv) (fun _ ix _ => L - (intOf ix).toNat)
            case atStart => exact ⟨0, 0, by omega, rfl, rfl, Int.le_refl _, by rw [if_neg (by omega)]; exact Int.le_refl _, fun _ => rfl, Below.refl _ _⟩
            case round =>
              obtain ⟨i, cnt, hi, rfl, rfl, hc0, hc1, hcq, hbv⟩ := hrel
              by_cases hil : i < L
              · have e2 := (HWG2.out.of (hbv.block g2 HWG2.out.lt)).cell (k := i) (by rw [HLN.out.1]; exact hil)
                have e1 := (HWG8.out.of (hbv.block g HWG8.out.lt)).cell (k := i) (by rw [HLN.out.2]; exact hil)
                obtain ⟨y2, hy2⟩ : ∃ y, P'.m.getD i 0 = y := ⟨_, rfl⟩
                obtain ⟨y1, hy1⟩ : ∃ y, P.m.getD i 0 = y := ⟨_, rfl⟩
                rw [hy2] at e2
                rw [hy1] at e1
                have HY := Lib.hid (And.intro hy1 hy2)
                have HC := Lib.hid (And.intro hc0 (And.intro hc1 hcq))
                have s1 : (i : Int) < (L : Int) := by omega
                have HBV7 := Lib.hid hbv
                clear hy1 hy2 hc1 hcq hbv
                cases hq : (y2 == y1) with
                | true =>
                  go_wp2
                  go_roundw
                  case rel => exact ⟨i + 1, cnt, by omega, by go_num, rfl, HC.out.1, by have := HC.out.2.1; split at this <;> split <;> omega, HC.out.2.2, HBV7.out⟩
                  case measure => simp [intOf]; omega
                | false =>
                  have hdf : P'.m.getD i 0 ≠ P.m.getD i 0 := by
                    have h1 := HY.out.1
                    have h2 := HY.out.2
                    rw [h1, h2]
                    exact ne_of_beq_false hq
                  have hia : i = ad := HCHG.out.2.2 i hdf
                  have hnq : ¬ (qb = true) := fun h => hdf (by rw [HQZ.out h])
                  subst hia
                  have hcn : cnt ≤ 0 := by have := HC.out.2.1; rw [if_neg (by omega)] at this; exact this
                  have hn0 : ((i : Int) == 0) = false := beq_false_of_ne (by have := HCHG.out.1; omega)
                  have hp9 := HP8.out.later HBV7.out
                  have HMY : Hid (Calls Tryz.prog 32 #[.agg #[.slice x.pa 2 x.pc, .slice x.ca 1 x.cc, .int .i64 1, .slice x.aa 1 x.ac, .int .i64 1, .slice x.ba 1 x.bc], .int .i64 0, .int .i64 (i : Int)] wr fun e w' => e = .returned (.bool true) ∧ Below wr.heap.size wr w') := Lib.hid (by
                    have q := rmay_b (cfgQ N D 4294967294) x 0 (i : Int) wr (hp9.cfg.later hp9.below) hp9.wf (cfgQ_few N D 4294967294)
                    rw [show mayB (cfgQ N D 4294967294) 0 ((i : Nat) : Int) = true from cfgQ_may0 HHA.out.1 HHA.out.2 HDQ.out HCHG.out.1 HCHG.out.2.1] at q
                    exact q)
                  have c0 : wr.cell? ⟨pb, 0, none⟩ = some (.slice x.pa 2 x.pc) := cell_blk hp9.blk rfl
                  have c1 : wr.cell? ⟨pb, 1, none⟩ = some (.slice x.ca 1 x.cc) := cell_blk hp9.blk rfl
                  have c2 : wr.cell? ⟨pb, 2, none⟩ = some (.int .i64 1) := cell_blk hp9.blk rfl
                  have c3 : wr.cell? ⟨pb, 3, none⟩ = some (.slice x.aa 1 x.ac) := cell_blk hp9.blk rfl
                  have c4 : wr.cell? ⟨pb, 4, none⟩ = some (.int .i64 1) := cell_blk hp9.blk rfl
                  have c5 : wr.cell? ⟨pb, 5, none⟩ = some (.slice x.ba 1 x.bc) := cell_blk hp9.blk rfl
                  have HNQ := Lib.hid hnq
                  clear hp9 hdf hnq
                  go_wp2_with fail
                  refine HMY.out.mono ?_
                  rintro e w8 ⟨rfl, hb8⟩
                  have HB8 := Lib.hid (HBV7.out.trans (hb8.mono HBV7.out.size))
                  clear hb8 c0 c1 c2 c3 c4 c5 e1 e2
                  go_wp2
                  go_roundw
                  case rel => exact ⟨i + 1, cnt + 1, by omega, by go_num, by go_num, by omega, by rw [if_pos (by omega)]; omega, fun h => absurd h HNQ.out, HB8.out⟩
                  case measure => simp [intOf]; omega
              · have hcn : cnt ≤ 1 := by split at hc1 <;> omega
                have s1 : ¬ ((i : Int) < (L : Int)) := by omega
                have hn1 : ¬ (1 < cnt) := by omega
                have HPE := Lib.hid ((HP8.out.later hbv).fewE (E' := fun k => k = pb) (fun k h => .inl h) rfl)
                clear hc1 hbv
                clear hcq
                go_wp2
                go_roundw
                case rel => exact ⟨k + 1, P', sq', rq, by omega, by go_num, HI2.out, HPE.out⟩
                case measure => simp [intOf]; omega
    · have HP := Lib.hid hp
      clear hinv hp
      go_wp2
      go_ret
      exact ⟨rfl, HBW.out.trans (HP.out.below.mono HBW.out.size)⟩
end Go.Proofs.YtfdgokkngejbhaaGreat
