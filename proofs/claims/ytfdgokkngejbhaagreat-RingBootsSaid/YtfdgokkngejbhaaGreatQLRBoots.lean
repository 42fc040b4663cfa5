/- Texts of the ring, joined, what is used of them. No condition but those in the statements. -/
import Derived.BigQuiet
import Derived.BigRegion
import Derived.Deep.CutRange
import Derived.Deep.MidRow
import Derived.Deep.RegionHeld3
import Derived.Deep.Upon
import Derived.IntWalk
import Derived.Shelf.Abstract
import Derived.Test.YtfdgokkngejbhaaGreatQRBt
namespace Go.Proofs.YtfdgokkngejbhaaGreat
open Go.RowKit Go.Sort
set_option linter.unusedVariables false
set_option linter.unusedSimpArgs false
set_option linter.unusedVariables false
set_option linter.unusedSimpArgs false
open Go.Proofs.YtfdgokkngejbhaaGreat.Simp
set_option maxRecDepth 100000
set_option maxHeartbeats 12800000
theorem Pair.later {W1 w w' : World} {n2 m2 n4 pb mb rb bb br pb2 mb2 rb2 bb2 br2 N D K1 K2 : Nat} {boot boot2 : Int} {x x2 : CfgAt} {P Q : Ql} (h : Pair W1 n2 m2 n4 pb mb rb bb br pb2 mb2 rb2 bb2 br2 N D boot boot2 x x2 w (K1) (K2) (P) (Q)) (hb : Below w.heap.size w w') : Pair W1 n2 m2 n4 pb mb rb bb br pb2 mb2 rb2 bb2 br2 N D boot boot2 x x2 w' (K1) (K2) (P) (Q) := by
  obtain ⟨⟨Wq, Ep, Eq, sq, rq, sq2, rq2, hp, hq, hm, hr, hc⟩, st⟩ := h
  obtain ⟨bs, hpq, hl, hbb⟩ := hp.quo
  have hp' : PQAt W1 w' (fun k => Ep k ∨ (w.heap.size ≤ k ∧ k < w'.heap.size)) pb mb rb bb br N D boot x (K1) (P) sq rq :=
    ⟨(hb.block pb hp.lt).trans hp.blk, ⟨bs, hpq.only (T := fun _ => False) (Only.of_below hb) (fun _ _ h => h.elim) (fun k h => h), hl, hbb⟩, ⟨.inl hp.pe.1, hp.pe.2⟩, hp.cfg, hp.nn, hp.lim, hp.u32⟩
  exact ⟨⟨Wq, _, Eq, _, _, _, _, hp', hq.later hb, hm, fun k h1 h2 => .inl (hr k h1 h2), fun k h1 h2 => if h3 : k < w.heap.size then (hc k h1 h3).imp .inl id else .inl (.inr ⟨by omega, h2⟩)⟩, st⟩
theorem Simp.QInvN.noneR {N D : Nat} {boot sn rn : Int} {P : Ql} (h : QInvN N D boot P sn rn) : P.r = none ↔ rn = 0 := by
  rcases h.2.2.1 with ⟨y, x, _⟩ | ⟨s, e, x, _⟩
  · exact ⟨fun _ => x, fun _ => y⟩
  · exact ⟨fun z => (by rw [z] at e; cases e), fun z => by omega⟩
theorem playQ_s {N D : Nat} {boot : Int} (P : Ql) : (playQ N D boot P).1.s = P.s := by
  unfold playQ
  split
  · unfold rc1; simp only; split; rfl; split; rfl; split <;> rfl
  · unfold rc1; simp only; split; rfl; split; rfl; split <;> rfl
theorem Pair.below {W1 w : World} {n2 m2 n4 pb mb rb bb br pb2 mb2 rb2 bb2 br2 N D K1 K2 : Nat} {boot boot2 : Int} {x x2 : CfgAt} {P Q : Ql} (h : Pair W1 n2 m2 n4 pb mb rb bb br pb2 mb2 rb2 bb2 br2 N D boot boot2 x x2 w (K1) (K2) (P) (Q)) : Below W1.heap.size W1 w := by
  obtain ⟨⟨Wq, Ep, Eq, sq, rq, sq2, rq2, hp, hq, hm, hr, hc⟩, st⟩ := h
  exact hp.below
theorem lrboots_b (a b b1 b2 : Int) (bs : List Bool) (A : Option Addr) (cap : Nat) (w : World) (hw : (0 ≤ a ∧ a ≤ 255) ∧ (0 ≤ b ∧ b ≤ 255)) (h01 : 0 ≤ b1 ∧ b1 ≤ 4294967295) (h02 : 0 ≤ b2 ∧ b2 ≤ 4294967295) (hc : bs.length ≤ cap) (hm : cap ≤ maxLen) (hnil : A = none → bs = []) (hrow : BoolRowIn w w.heap.size A bs) : Calls Tryz.prog 7 #[.agg #[.int .u8 a, .int .u8 b], .agg #[.int .u32 b1, .int .u32 b2], .slice A bs.length cap] w fun e w' => e = .returned (.bool true) ∧ Below w.heap.size w w' := by
  obtain ⟨N, hN⟩ : ∃ N : Nat, 1 + a % 4 = (N : Int) := ⟨(1 + a % 4).toNat, by omega⟩
  obtain ⟨D, hD, hDQ⟩ : ∃ D : Nat, (∀ v : Int, (b % 4 = 0 → v = 1) → (b % 4 = 1 → v = 2) → (b % 4 = 2 → v = 4) → (b % 4 = 3 → v = 8) → v = (D : Int)) ∧ (D = 1 ∨ D = 2 ∨ D = 4 ∨ D = 8) := depthQ_is b
  have hN1 : 1 ≤ N ∧ N ≤ 4 := by omega
  have htm : a.tmod 4 = a % 4 := Int.tmod_eq_emod_of_nonneg hw.1.1
  have HTW := Lib.hid (fun (bt : Int) (h0 : 0 ≤ bt ∧ bt ≤ 4294967295) (v1 v2 : Int) (w : World) (h1 : v1 = (N : Int)) (h2 : v2 = (D : Int)) => two_atQn v1 v2 N D bt w h1 h2 (by omega) h0)
  have HBG := Lib.hid (fun (bt : Int) (h0 : 0 ≤ bt ∧ bt ≤ 4294967295) (x : CfgAt) (w : World) (hx : CfgIn w w.heap.size (cfgQ N D bt) x) => begin_atQ N D bt x w hx hN1 hDQ h0)
  have HROW := Lib.hid hrow
  have HV1 : Hid (RowKit.wrap64 (1 + (RowKit.wrap64 a).tmod 4) = (N : Int)) := Lib.hid (by rw [IntWalk.wrap64_in a (by omega), htm, IntWalk.wrap64_in _ (by omega)]; omega)
  have HV2 : Hid (RowKit.wrap64 (2 ^ (b % 4).toNat) = (D : Int)) := Lib.hid (by
    refine hD _ ?_ ?_ ?_ ?_
    all_goals (intro hz; rw [hz]; first | exact (IntWalk.wrap64_in 1 (by decide)) | exact (IntWalk.wrap64_in 2 (by decide)) | exact (IntWalk.wrap64_in 4 (by decide)) | exact (IntWalk.wrap64_in 8 (by decide))))
  have hb0 : 0 ≤ b := hw.2.1
  have HDQ := Lib.hid hDQ; have H01 := Lib.hid h01; have H02 := Lib.hid h02
  clear hN hD hDQ h01 h02 hrow htm hw
  by_cases hl : 400 < bs.length
  · have hl2 : (400 : Int) < (bs.length : Int) := by omega
    go_enter Tryz.func7, Tryz.ntmps7
    go_wp2_with fail
    obtain ⟨w0, HW0⟩ : ∃ u, Hid (u = ((w.alloc (.cells #[.int .u8 a, .int .u8 b] 70)).alloc (.cells #[.int .u32 b1, .int .u32 b2] 79))) := ⟨_, rfl⟩
    rw [← HW0.out]
    refine (wakesQ_b w0).mono ?_
    rintro e wv ⟨rfl, hbv⟩
    go_wp2
    go_ret
    have hb0 : Below w.heap.size w w0 := by rw [HW0.out]; exact ((Below.refl _ _).alloc (Nat.le_refl _) _).alloc (by simp) _
    exact ⟨rfl, hb0.trans (hbv.mono hb0.size)⟩
  have hl2 : ¬ ((400 : Int) < (bs.length : Int)) := by omega
  go_enter Tryz.func7, Tryz.ntmps7
  go_wp2_with fail
  obtain ⟨w0, HW0⟩ : ∃ u, Hid (u = ((w.alloc (.cells #[.int .u8 a, .int .u8 b] 70)).alloc (.cells #[.int .u32 b1, .int .u32 b2] 79))) := ⟨_, rfl⟩
  obtain ⟨hc2, hhc⟩ : ∃ h, h = w.heap.size + 1 := ⟨_, rfl⟩
  obtain ⟨hb, hhb⟩ : ∃ h, h = w.heap.size := ⟨_, rfl⟩
  rw [← HW0.out]
  simp only [← hhc]
  simp only [← hhb]
  refine (wakesQ_b w0).mono ?_
  rintro e wv ⟨rfl, hbv⟩
  have hblk : w0.heap[hb]? = some (.cells #[.int .u8 a, .int .u8 b] 70 (0, 0)) := by rw [HW0.out, hhb]; exact (Below.heap_alloc _ _ _ (by simp)).trans (heap_alloc_new _ _)
  have hblk2 : w0.heap[hc2]? = some (.cells #[.int .u32 b1, .int .u32 b2] 79 (0, 0)) := by rw [HW0.out, hhc]; exact heap_new_q _ _ (by simp)
  have hblv := (hbv.block hb (Array.getElem?_eq_some_iff.1 hblk).1).trans hblk
  have hblv2 := (hbv.block hc2 (Array.getElem?_eq_some_iff.1 hblk2).1).trans hblk2
  have HKC : Hid (∀ W', Below wv.heap.size wv W' → W'.cell? ⟨hb, 0, none⟩ = some (.int .u8 a) ∧ W'.cell? ⟨hb, 1, none⟩ = some (.int .u8 b) ∧ W'.cell? ⟨hc2, 0, none⟩ = some (.int .u32 b1) ∧ W'.cell? ⟨hc2, 1, none⟩ = some (.int .u32 b2)) := Lib.hid (fun W' h => by
    have y1 := (h.block hb (Array.getElem?_eq_some_iff.1 hblv).1).trans hblv
    have y2 := (h.block hc2 (Array.getElem?_eq_some_iff.1 hblv2).1).trans hblv2
    exact ⟨cell_blk y1 rfl, cell_blk y1 rfl, cell_blk y2 rfl, cell_blk y2 rfl⟩)
  have HBV : Hid (Below w.heap.size w wv) := Lib.hid (by
    have hb0 : Below w.heap.size w w0 := by rw [HW0.out]; exact ((Below.refl _ _).alloc (Nat.le_refl _) _).alloc (by simp) _
    exact hb0.trans (hbv.mono hb0.size))
  obtain ⟨k0, k1, k2, k3⟩ := HKC.out wv (Below.refl _ _)
  clear hbv hblk hblk2 hblv hblv2 hhb hhc
  go_wp2_with fail
  refine (HTW.out b1 H01.out _ _ wv HV1.out HV2.out).mono ?_
  rintro e W ⟨x, rfl, hx, hb1, -⟩
  have HXW := Lib.hid hx; have HB1 := Lib.hid hb1
  have HBW := Lib.hid (HBV.out.trans (hb1.mono HBV.out.size))
  clear hb1 hx k0 k1 k2 k3
  go_wp2_with fail
  refine (HBG.out b1 H01.out x W HXW.out).mono ?_
  rintro e v2 ⟨pb, mb, rb, bb, br, rfl, hp0⟩
  have HP0 := Lib.hid hp0
  obtain ⟨k0, k1, k2, k3⟩ := HKC.out v2 (HB1.out.trans (hp0.below.mono HB1.out.size))
  clear hp0
  go_wp2_with fail
  refine (HTW.out b2 H02.out _ _ v2 HV1.out HV2.out).mono ?_
  rintro e W2 ⟨x2, rfl, hx2, hb2, hn2⟩
  have HXW2 := Lib.hid hx2; have HB2 := Lib.hid hb2; have HN2 := Lib.hid hn2
  clear hb2 hx2 hn2 k0 k1 k2 k3
  go_wp2_with fail
  refine (HBG.out b2 H02.out x2 W2 HXW2.out).mono ?_
  rintro e v4 ⟨pb2, mb2, rb2, bb2, br2, rfl, hq0⟩
  have HPR0 := Lib.hid (Pair.first HP0.out HB2.out hq0 HN2.out)
  clear hq0 HP0
  generalize v2.heap.size = n2 at HPR0
  generalize W2.heap.size = m2 at HPR0
  generalize v4.heap.size = n4 at HPR0
  go_wp2
  go_loopw [50] (fun ix wr => ∃ (k : Nat) (P Q : Ql) (sn rn : Int), k ≤ bs.length ∧ ix = .int .i64 k ∧ QInvN N D b1 P sn rn ∧ QInvN N D b2 Q sn rn ∧ (P.sent = Q.sent ∧ P.got = Q.got ∧ P.n = Q.n ∧ (P.s = none ↔ sn = 0) ∧ (Q.s = none ↔ sn = 0)) ∧ Pair W n2 m2 n4 pb mb rb bb br pb2 mb2 rb2 bb2 br2 N D b1 b2 x x2 wr k k P Q) (fun ix _ => bs.length - (intOf ix).toNat)
  case atStart => exact ⟨0, _, _, 0, 0, Nat.zero_le _, rfl, q_zero hN1.1 (by omega) HDQ.out H01.out, q_zero hN1.1 (by omega) HDQ.out H02.out, ⟨rfl, rfl, rfl, ⟨fun _ => rfl, fun _ => rfl⟩, ⟨fun _ => rfl, fun _ => rfl⟩⟩, HPR0.out⟩
  case round =>
    clear HPR0
    obtain ⟨k, P, Q, sn, rn, hk, rfl, hi1, hi2, hsm, hp⟩ := hrel
    have HI1 := Lib.hid hi1; have HI2 := Lib.hid hi2; have HSM := Lib.hid hsm; have HPR := Lib.hid hp
    clear hi1 hi2 hsm hp
    by_cases hkl : k < bs.length
    · have hbw := HBW.out.trans (HPR.out.below.mono HBW.out.size)
      obtain ⟨b', o, rfl, -, hcell⟩ := HROW.out.at_ hkl
      have ca := hcell wr hbw
      obtain ⟨ac, ha⟩ : ∃ a, bs.getD k false = a := ⟨_, rfl⟩
      rw [ha] at ca
      clear ha hcell hbw
      go_upto_if 54 with fail
      clear ca
      go_cut [50] from 51 to 120 (fun ix wx => ix = .int .i64 k ∧ ∃ (P Q : Ql) (sn rn : Int), QInvN N D b1 P sn rn ∧ QInvN N D b2 Q sn rn ∧ (P.sent = Q.sent ∧ P.got = Q.got ∧ P.n = Q.n ∧ (P.s = none ↔ sn = 0) ∧ (Q.s = none ↔ sn = 0)) ∧ Pair W n2 m2 n4 pb mb rb bb br pb2 mb2 rb2 bb2 br2 N D b1 b2 x x2 wx (k + 1) (k + 1) P Q)
      case first =>
        cases ac
        · go_wp2_with fail
          refine (HPR.out.recvP (by omega) (playQ_ok HI1.out.inv).1).mono ?_
          rintro e w5 ⟨rfl, hp5⟩
          have HP5 := Lib.hid hp5
          clear hp5
          go_wp2_with fail
          refine (HP5.out.recvQ (by omega) (playQ_ok HI2.out.inv).1).mono ?_
          rintro e w6 ⟨rfl, hp6⟩
          have HP6 := Lib.hid hp6
          clear hp6
          go_wp2
          go_meet
          case rel =>
            obtain ⟨e1, e2, e3, e4, e5⟩ := HSM.out
            obtain ⟨y, hy⟩ : ∃ y, nextR N rn P.sent P.got = y := ⟨_, rfl⟩
            obtain ⟨n1, n2', n3⟩ := playQ_next HI1.out hy
            obtain ⟨m1, m2', m3⟩ := playQ_next (x := y) HI2.out (by rw [← e1, ← e2]; exact hy)
            have s1 := (playQ_ok HI1.out.inv).2.2.2.2
            have s2 := (playQ_ok HI2.out.inv).2.2.2.2
            refine ⟨by trivial, _, _, _, _, n1, m1, ⟨s1.trans (e1.trans s2.symm), n2'.trans m2'.symm, n3.trans (e3.trans m3.symm), ?_, ?_⟩, HP6.out⟩
            · rw [playQ_s]; exact e4
            · rw [playQ_s]; exact e5
        · go_wp2_with fail
          refine (HPR.out.sendP (by omega) (playS_ok HI1.out.inv).1).mono ?_
          rintro e w5 ⟨rfl, hp5⟩
          have HP5 := Lib.hid hp5
          clear hp5
          go_wp2_with fail
          refine (HP5.out.sendQ (by omega) (playS_ok HI2.out.inv).1).mono ?_
          rintro e w6 ⟨rfl, hp6⟩
          have HP6 := Lib.hid hp6
          clear hp6
          go_wp2
          go_meet
          case rel =>
            obtain ⟨e1, e2, e3, e4, e5⟩ := HSM.out
            obtain ⟨y, hy⟩ : ∃ y, nextS N D sn P.sent P.got P.n = y := ⟨_, rfl⟩
            obtain ⟨n1, n2', n3, n4'⟩ := playS_next HI1.out hy
            obtain ⟨m1, m2', m3, m4'⟩ := playS_next (x := y) HI2.out (by rw [← e1, ← e2, ← e3]; exact hy)
            have s1 := (playS_ok HI1.out.inv).2.2.2.2
            have s2 := (playS_ok HI2.out.inv).2.2.2.2
            exact ⟨by trivial, _, _, _, _, n1, m1, ⟨n2'.trans m2'.symm, s1.trans (e2.trans s2.symm), n3.trans m3.symm, n4', m4'⟩, HP6.out⟩
      case rest =>
        clear HI1 HI2 HSM HPR
        obtain ⟨rfl, P, Q, sn, rn, hi1, hi2, hsm, hp⟩ := hcut
        have HI1 := Lib.hid hi1; have HI2 := Lib.hid hi2; have HSM := Lib.hid hsm; have HPR := Lib.hid hp
        clear hi1 hi2 hsm hp
        obtain ⟨w5, hw5⟩ : ∃ u, u = wc := ⟨_, rfl⟩
        rw [← hw5] at HPR ⊢
        clear hw5
        go_wp2
        obtain ⟨⟨Wq, Ep, Eq, sq, rq, sq2, rq2, hpp, hqq, -, -, -⟩, -⟩ := HPR.out
        have HPP := Lib.hid hpp; have HQQ := Lib.hid hqq
        obtain ⟨e1, e2, e3, e4, e5⟩ := HSM.out
        have hrr : P.r = none ↔ Q.r = none := HI1.out.noneR.trans HI2.out.noneR.symm
        have hss : P.s = none ↔ Q.s = none := e4.trans e5.symm
        have HRR := Lib.hid hrr; have HSS := Lib.hid hss
        clear hpp hqq hrr hss e4 e5
        have q12 : ∀ p : Regrown, (grow (redrawn w5 p.d) p.os).cell? ⟨pb, 12, none⟩ = some (.int .i64 P.sent) := fun p => cell_regrown (cell_blk HPP.out.blk rfl) p.d p.os
        have q13 : ∀ p : Regrown, (grow (redrawn w5 p.d) p.os).cell? ⟨pb, 13, none⟩ = some (.int .i64 P.got) := fun p => cell_regrown (cell_blk HPP.out.blk rfl) p.d p.os
        have q14 : ∀ p : Regrown, (grow (redrawn w5 p.d) p.os).cell? ⟨pb, 14, none⟩ = some (.int .i64 P.n) := fun p => cell_regrown (cell_blk HPP.out.blk rfl) p.d p.os
        have q212 : ∀ p : Regrown, (grow (redrawn w5 p.d) p.os).cell? ⟨pb2, 12, none⟩ = some (.int .i64 P.sent) := fun p => cell_regrown (by rw [e1]; exact cell_blk HQQ.out.blk rfl) p.d p.os
        have q213 : ∀ p : Regrown, (grow (redrawn w5 p.d) p.os).cell? ⟨pb2, 13, none⟩ = some (.int .i64 P.got) := fun p => cell_regrown (by rw [e2]; exact cell_blk HQQ.out.blk rfl) p.d p.os
        have q214 : ∀ p : Regrown, (grow (redrawn w5 p.d) p.os).cell? ⟨pb2, 14, none⟩ = some (.int .i64 P.n) := fun p => cell_regrown (by rw [e3]; exact cell_blk HQQ.out.blk rfl) p.d p.os
        cases hs : P.s with
        | none =>
          have hs2 : Q.s = none := HSS.out.1 hs
          cases hr : P.r with
          | none =>
            have hr2 : Q.r = none := HRR.out.1 hr
            have q8 : ∀ p : Regrown, (grow (redrawn w5 p.d) p.os).cell? ⟨pb, 8, none⟩ = some (.pointer none) := fun p => cell_regrown (by have q : w5.cell? ⟨pb, 8, none⟩ = some (pqW P.s sq) := (cell_blk HPP.out.blk rfl); rw [hs] at q; exact q) p.d p.os
            have q28 : ∀ p : Regrown, (grow (redrawn w5 p.d) p.os).cell? ⟨pb2, 8, none⟩ = some (.pointer none) := fun p => cell_regrown (by have q : w5.cell? ⟨pb2, 8, none⟩ = some (pqW Q.s sq2) := (cell_blk HQQ.out.blk rfl); rw [hs2] at q; exact q) p.d p.os
            have q9 : ∀ p : Regrown, (grow (redrawn w5 p.d) p.os).cell? ⟨pb, 9, none⟩ = some (.pointer none) := fun p => cell_regrown (by have q : w5.cell? ⟨pb, 9, none⟩ = some (pqW P.r rq) := (cell_blk HPP.out.blk rfl); rw [hr] at q; exact q) p.d p.os
            have q29 : ∀ p : Regrown, (grow (redrawn w5 p.d) p.os).cell? ⟨pb2, 9, none⟩ = some (.pointer none) := fun p => cell_regrown (by have q : w5.cell? ⟨pb2, 9, none⟩ = some (pqW Q.r rq2) := (cell_blk HQQ.out.blk rfl); rw [hr2] at q; exact q) p.d p.os
            clear hs hs2 hr hr2 e1 e2 e3
            have hbc := Below.refl w5.heap.size w5
            with_reducible refine wp_on hbc (by kernel_rfl) (by kernel_rfl) ?_
            (repeat (go_big_quiet_step (fail)))
            with_reducible refine wpQuiet_nil ?_
            intro wd hbd
            have HBD := Lib.hid hbd
            clear q12 q13 q14 q212 q213 q214 q8 q28 q9 q29 hbc hbd
            go_wp2
            go_roundw
            case rel => exact ⟨k + 1, P, Q, sn, rn, by omega, by go_num, HI1.out, HI2.out, HSM.out, HPR.out.later HBD.out⟩
            case measure => simp [intOf]; omega
          | some tr =>
            cases hr2 : Q.r with
            | none => exact absurd (HRR.out.2 hr2) (by rw [hr]; simp)
            | some tr2 =>
              have q8 : ∀ p : Regrown, (grow (redrawn w5 p.d) p.os).cell? ⟨pb, 8, none⟩ = some (.pointer none) := fun p => cell_regrown (by have q : w5.cell? ⟨pb, 8, none⟩ = some (pqW P.s sq) := (cell_blk HPP.out.blk rfl); rw [hs] at q; exact q) p.d p.os
              have q28 : ∀ p : Regrown, (grow (redrawn w5 p.d) p.os).cell? ⟨pb2, 8, none⟩ = some (.pointer none) := fun p => cell_regrown (by have q : w5.cell? ⟨pb2, 8, none⟩ = some (pqW Q.s sq2) := (cell_blk HQQ.out.blk rfl); rw [hs2] at q; exact q) p.d p.os
              have q9 : ∀ p : Regrown, (grow (redrawn w5 p.d) p.os).cell? ⟨pb, 9, none⟩ = some (.pointer (some ⟨rq, 0, none⟩)) := fun p => cell_regrown (by have q : w5.cell? ⟨pb, 9, none⟩ = some (pqW P.r rq) := (cell_blk HPP.out.blk rfl); rw [hr] at q; exact q) p.d p.os
              have q29 : ∀ p : Regrown, (grow (redrawn w5 p.d) p.os).cell? ⟨pb2, 9, none⟩ = some (.pointer (some ⟨rq2, 0, none⟩)) := fun p => cell_regrown (by have q : w5.cell? ⟨pb2, 9, none⟩ = some (pqW Q.r rq2) := (cell_blk HQQ.out.blk rfl); rw [hr2] at q; exact q) p.d p.os
              clear hs hs2 hr hr2 e1 e2 e3
              have hbc := Below.refl w5.heap.size w5
              with_reducible refine wp_on hbc (by kernel_rfl) (by kernel_rfl) ?_
              (repeat (go_big_quiet_step (fail)))
              with_reducible refine wpQuiet_nil ?_
              intro wd hbd
              have HBD := Lib.hid hbd
              clear q12 q13 q14 q212 q213 q214 q8 q28 q9 q29 hbc hbd
              go_wp2
              go_roundw
              case rel => exact ⟨k + 1, P, Q, sn, rn, by omega, by go_num, HI1.out, HI2.out, HSM.out, HPR.out.later HBD.out⟩
              case measure => simp [intOf]; omega
        | some ts =>
          cases hs2 : Q.s with
          | none => exact absurd (HSS.out.2 hs2) (by rw [hs]; simp)
          | some ts2 =>
            cases hr : P.r with
            | none =>
              have hr2 : Q.r = none := HRR.out.1 hr
              have q8 : ∀ p : Regrown, (grow (redrawn w5 p.d) p.os).cell? ⟨pb, 8, none⟩ = some (.pointer (some ⟨sq, 0, none⟩)) := fun p => cell_regrown (by have q : w5.cell? ⟨pb, 8, none⟩ = some (pqW P.s sq) := (cell_blk HPP.out.blk rfl); rw [hs] at q; exact q) p.d p.os
              have q28 : ∀ p : Regrown, (grow (redrawn w5 p.d) p.os).cell? ⟨pb2, 8, none⟩ = some (.pointer (some ⟨sq2, 0, none⟩)) := fun p => cell_regrown (by have q : w5.cell? ⟨pb2, 8, none⟩ = some (pqW Q.s sq2) := (cell_blk HQQ.out.blk rfl); rw [hs2] at q; exact q) p.d p.os
              have q9 : ∀ p : Regrown, (grow (redrawn w5 p.d) p.os).cell? ⟨pb, 9, none⟩ = some (.pointer none) := fun p => cell_regrown (by have q : w5.cell? ⟨pb, 9, none⟩ = some (pqW P.r rq) := (cell_blk HPP.out.blk rfl); rw [hr] at q; exact q) p.d p.os
              have q29 : ∀ p : Regrown, (grow (redrawn w5 p.d) p.os).cell? ⟨pb2, 9, none⟩ = some (.pointer none) := fun p => cell_regrown (by have q : w5.cell? ⟨pb2, 9, none⟩ = some (pqW Q.r rq2) := (cell_blk HQQ.out.blk rfl); rw [hr2] at q; exact q) p.d p.os
              clear hs hs2 hr hr2 e1 e2 e3
              have hbc := Below.refl w5.heap.size w5
              with_reducible refine wp_on hbc (by kernel_rfl) (by kernel_rfl) ?_
              (repeat (go_big_quiet_step (fail)))
              with_reducible refine wpQuiet_nil ?_
              intro wd hbd
              have HBD := Lib.hid hbd
              clear q12 q13 q14 q212 q213 q214 q8 q28 q9 q29 hbc hbd
              go_wp2
              go_roundw
              case rel => exact ⟨k + 1, P, Q, sn, rn, by omega, by go_num, HI1.out, HI2.out, HSM.out, HPR.out.later HBD.out⟩
              case measure => simp [intOf]; omega
            | some tr =>
              cases hr2 : Q.r with
              | none => exact absurd (HRR.out.2 hr2) (by rw [hr]; simp)
              | some tr2 =>
                have q8 : ∀ p : Regrown, (grow (redrawn w5 p.d) p.os).cell? ⟨pb, 8, none⟩ = some (.pointer (some ⟨sq, 0, none⟩)) := fun p => cell_regrown (by have q : w5.cell? ⟨pb, 8, none⟩ = some (pqW P.s sq) := (cell_blk HPP.out.blk rfl); rw [hs] at q; exact q) p.d p.os
                have q28 : ∀ p : Regrown, (grow (redrawn w5 p.d) p.os).cell? ⟨pb2, 8, none⟩ = some (.pointer (some ⟨sq2, 0, none⟩)) := fun p => cell_regrown (by have q : w5.cell? ⟨pb2, 8, none⟩ = some (pqW Q.s sq2) := (cell_blk HQQ.out.blk rfl); rw [hs2] at q; exact q) p.d p.os
                have q9 : ∀ p : Regrown, (grow (redrawn w5 p.d) p.os).cell? ⟨pb, 9, none⟩ = some (.pointer (some ⟨rq, 0, none⟩)) := fun p => cell_regrown (by have q : w5.cell? ⟨pb, 9, none⟩ = some (pqW P.r rq) := (cell_blk HPP.out.blk rfl); rw [hr] at q; exact q) p.d p.os
                have q29 : ∀ p : Regrown, (grow (redrawn w5 p.d) p.os).cell? ⟨pb2, 9, none⟩ = some (.pointer (some ⟨rq2, 0, none⟩)) := fun p => cell_regrown (by have q : w5.cell? ⟨pb2, 9, none⟩ = some (pqW Q.r rq2) := (cell_blk HQQ.out.blk rfl); rw [hr2] at q; exact q) p.d p.os
                clear hs hs2 hr hr2 e1 e2 e3
                have hbc := Below.refl w5.heap.size w5
                with_reducible refine wp_on hbc (by kernel_rfl) (by kernel_rfl) ?_
                (repeat (go_big_quiet_step (fail)))
                with_reducible refine wpQuiet_nil ?_
                intro wd hbd
                have HBD := Lib.hid hbd
                clear q12 q13 q14 q212 q213 q214 q8 q28 q9 q29 hbc hbd
                go_wp2
                go_roundw
                case rel => exact ⟨k + 1, P, Q, sn, rn, by omega, by go_num, HI1.out, HI2.out, HSM.out, HPR.out.later HBD.out⟩
                case measure => simp [intOf]; omega
    · go_wp2
      go_ret
      exact ⟨rfl, HBW.out.trans (HPR.out.below.mono HBW.out.size)⟩
end Go.Proofs.YtfdgokkngejbhaaGreat
