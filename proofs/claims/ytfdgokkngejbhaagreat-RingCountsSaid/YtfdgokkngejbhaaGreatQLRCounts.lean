/- Texts of the ring, joined, what is used of them. No condition but those in the statements. -/
import Derived.BigQuiet
import Derived.BigRegion
import Derived.Deep.CutRange
import Derived.Deep.MidRow
import Derived.Deep.RegionHeld3
import Derived.Deep.Upon
import Derived.IntWalk
import Derived.Shelf.Abstract
import Derived.Test.YtfdgokkngejbhaaGreatQRCt
namespace Go.Proofs.YtfdgokkngejbhaaGreat
open Go.RowKit Go.Sort
set_option linter.unusedVariables false
set_option linter.unusedSimpArgs false
set_option linter.unusedVariables false
set_option linter.unusedSimpArgs false
open Go.Proofs.YtfdgokkngejbhaaGreat.Simp
set_option maxRecDepth 100000
set_option maxHeartbeats 12800000
structure LockQ (T : Prop) : Prop where
  get : T
theorem cut2 {T G : Prop} (six : T) (body : LockQ T → G) : G := body ⟨six⟩
section
variable {w1 w v w' : World} {B mb rb bb br be : Nat} {E : Nat → Prop} {F : Qr} {ws : List Int} {bs : List Bool} {os og : Option (Nat × QS)}
theorem Quo.countS {S : Nat → Prop} {ob : Nat} {own : Int} {src : Bool} (now : Int) (hq : Quo w1 w B E mb rb bb br F be ws bs os og) (hb : Below w.heap.size w v) (hat : CAt v S ob F be own src 0) (hS : ∀ k, S k → w.heap.size ≤ k) :
    Calls Tryz.prog 23 #[.pointer (some ⟨ob, 0, none⟩), .pointer (some ⟨mb, 0, none⟩), .pointer (some ⟨bb, 0, none⟩), .int .i64 now] v fun e w' => e = .returned (.agg (qdV true 0 (.slice none 0 0) (cntQ F own src ws) true false)) ∧ Quo w1 w' B (fun k => E k ∨ (w.heap.size ≤ k ∧ k < w'.heap.size)) mb rb bb br F be ws bs os og ∧ Only (fun k => S k ∨ k = rb) v w' := by
  have hml := hq.mem.lt
  have hbl := hq.bel.lt
  have hlow := hq.low
  have hwsz := hq.below.size
  have hsv := hb.size
  have hq2 := hq.only (T := fun _ => False) (Only.of_below hb) (fun _ _ h => h.elim) (E' := fun k => E k ∨ (w.heap.size ≤ k ∧ k < v.heap.size)) (fun k h => h)
  have hlS : ∀ k, S k → k < v.heap.size := by obtain ⟨_, _, _, _, _, _, _, _, h5, _⟩ := hat; exact h5
  refine (cstep_b now hat hq2.mem hq2.bel ⟨fun h => by have := hS _ h; omega, fun h => by have := hS _ h; omega, fun h => by have := hS _ h; omega, fun h => by have := hS _ h; omega⟩ hq2.fin).mono ?_
  rintro e w' ⟨rfl, hat', hm', hb', ho⟩
  have hso := ho.size
  exact ⟨rfl, hq2.turn ho (fun k hk a => a.elim (fun a => .inl ⟨.inr ⟨hS k a, hk⟩, by have := hS k a; omega⟩) (fun e => .inr (.inr (.inl e)))) hm' hb' rfl rfl hq2.w32 (fun k h => h.elim (fun h => .inl (.inl h)) (fun h => if hk : k < v.heap.size then .inl (.inr ⟨h.1, hk⟩) else .inr ⟨by omega, h.2⟩)), ho⟩
end
section
variable {W w w' : World} {E : Nat → Prop} {pb mb rb bb br N D K sq rq : Nat} {boot : Int} {x : CfgAt} {P : Ql}
theorem PQAt.turnQ (h : PQAt W w E pb mb rb bb br N D boot x (K) (P) sq rq) {bs : List Bool} (hB : w'.heap[pb]? = w.heap[pb]?) (hq : Quo W w' W.heap.size E mb rb bb br (qr2 N D) 1 P.m bs (atQ P.s sq) (atQ P.r rq)) (hl : bs.length = 2) (hbb : bs.getD 1 false = P.bell) : PQAt W w' E pb mb rb bb br N D boot x (K) (P) sq rq :=
  ⟨hB.trans h.blk, ⟨bs, hq, hl, hbb⟩, h.pe, h.cfg, h.nn, h.lim, h.u32⟩
end
theorem lrcounts_b (a b : Int) (boot : Int) (bs : List Bool) (A : Option Addr) (cap : Nat) (w : World) (hw : (0 ≤ a ∧ a ≤ 255) ∧ (0 ≤ b ∧ b ≤ 255)) (h0 : 0 ≤ boot ∧ boot ≤ 4294967295) (hc : bs.length ≤ cap) (hm : cap ≤ maxLen) (hnil : A = none → bs = []) (hrow : BoolRowIn w w.heap.size A bs) : Calls Tryz.prog 5 #[.agg #[.int .u8 a, .int .u8 b], .int .u32 boot, .slice A bs.length cap] w fun e w' => e = .returned (.bool true) ∧ Below w.heap.size w w' := by
  obtain ⟨N, hN⟩ : ∃ N : Nat, 1 + a % 4 = (N : Int) := ⟨(1 + a % 4).toNat, by omega⟩
  obtain ⟨D, hD, hDQ⟩ : ∃ D : Nat, (∀ v : Int, (b % 4 = 0 → v = 1) → (b % 4 = 1 → v = 2) → (b % 4 = 2 → v = 4) → (b % 4 = 3 → v = 8) → v = (D : Int)) ∧ (D = 1 ∨ D = 2 ∨ D = 4 ∨ D = 8) := depthQ_is b
  have hN1 : 1 ≤ N ∧ N ≤ 4 := by omega
  have htm : a.tmod 4 = a % 4 := Int.tmod_eq_emod_of_nonneg hw.1.1
  have htn : b.tmod 4 = b % 4 := Int.tmod_eq_emod_of_nonneg hw.2.1
  have HTW := Lib.hid (fun (v1 v2 : Int) (w : World) (h1 : v1 = (N : Int)) (h2 : v2 = (D : Int)) => two_atQ v1 v2 N D boot w h1 h2 (by omega) h0)
  have HBG := Lib.hid (fun (x : CfgAt) (w : World) (hx : CfgIn w w.heap.size (cfgQ N D boot) x) => begin_atQ N D boot x w hx hN1 hDQ h0)
  have HROW := Lib.hid hrow
  have HHN := Lib.hid hN; have HHD := Lib.hid hD; have HDQ := Lib.hid hDQ; have H0 := Lib.hid h0; have HAB := Lib.hid hw
  clear hN hD hDQ h0 hw hrow
  by_cases hl : 300 < bs.length
  · have hl2 : (300 : Int) < (bs.length : Int) := by omega
    clear htm htn
    go_enter Tryz.func5, Tryz.ntmps5
    go_wp2_with fail
    obtain ⟨w0, HW0⟩ : ∃ u, Hid (u = w.alloc (.cells #[.int .u8 a, .int .u8 b] 70)) := ⟨_, rfl⟩
    rw [← HW0.out]
    refine (wakesQ_b w0).mono ?_
    rintro e wv ⟨rfl, hbv⟩
    go_wp2
    go_ret
    have hb0 : Below w.heap.size w w0 := by rw [HW0.out]; exact (Below.refl _ _).alloc (Nat.le_refl _) _
    exact ⟨rfl, hb0.trans (hbv.mono hb0.size)⟩
  have hl2 : ¬ ((300 : Int) < (bs.length : Int)) := by omega
  go_enter Tryz.func5, Tryz.ntmps5
  go_wp2_with fail
  obtain ⟨w0, HW0⟩ : ∃ u, Hid (u = w.alloc (.cells #[.int .u8 a, .int .u8 b] 70)) := ⟨_, rfl⟩
  obtain ⟨hb, hhb⟩ : ∃ h, h = w.heap.size := ⟨_, rfl⟩
  rw [← HW0.out]
  simp only [← hhb]
  refine (wakesQ_b w0).mono ?_
  rintro e wv ⟨rfl, hbv⟩
  have hblk : w0.heap[hb]? = some (.cells #[.int .u8 a, .int .u8 b] 70 (0, 0)) := by rw [HW0.out, hhb]; exact heap_alloc_new _ _
  have hblv := (hbv.block hb (Array.getElem?_eq_some_iff.1 hblk).1).trans hblk
  have k0 : wv.cell? ⟨hb, 0, none⟩ = some (.int .u8 a) := cell_blk hblv rfl
  have k1 : wv.cell? ⟨hb, 1, none⟩ = some (.int .u8 b) := cell_blk hblv rfl
  have HBV : Hid (Below w.heap.size w wv) := Lib.hid (by
    have hb0 : Below w.heap.size w w0 := by rw [HW0.out]; exact (Below.refl _ _).alloc (Nat.le_refl _) _
    exact hb0.trans (hbv.mono hb0.size))
  clear hbv hblk hblv hhb
  go_wp2_with fail
  refine (HTW.out _ _ wv ?_ ?_).mono ?_
  · have := HHN.out; have := HAB.out; rw [IntWalk.wrap64_in a (by omega), htm, IntWalk.wrap64_in _ (by omega)]; omega
  · have := HAB.out
    refine HHD.out _ ?_ ?_ ?_ ?_
    all_goals (intro hz; rw [hz]; first | exact (IntWalk.wrap64_in 1 (by decide)) | exact (IntWalk.wrap64_in 2 (by decide)) | exact (IntWalk.wrap64_in 4 (by decide)) | exact (IntWalk.wrap64_in 8 (by decide)))
  rintro e W ⟨x, rfl, hx, hb1⟩
  have HXW := Lib.hid hx
  have HBW := Lib.hid (HBV.out.trans (hb1.mono HBV.out.size))
  clear hb1 hx k0 k1 htm htn
  go_wp2_with fail
  refine (HBG.out x W HXW.out).mono ?_
  rintro e v2 ⟨pb, mb, rb, bb, br, rfl, hp0⟩
  have HP0 := Lib.hid hp0
  clear hp0
  obtain ⟨E, hE⟩ : ∃ E : Nat → Prop, E = fun k => k = pb := ⟨_, rfl⟩
  rw [← hE] at HP0
  clear hE
  go_wp2
  go_loopw [34] (fun ix wr => ∃ (k : Nat) (P : Ql) (sq rq : Nat), k ≤ bs.length ∧ ix = .int .i64 k ∧ QInv N D boot P ∧ PQAt W wr E pb mb rb bb br N D boot x k P sq rq) (fun ix _ => bs.length - (intOf ix).toNat)
  case atStart => exact ⟨0, _, 0, 0, Nat.zero_le _, rfl, (q_zero hN1.1 (by omega) HDQ.out H0.out).inv, HP0.out⟩
  case round =>
    obtain ⟨k, P, sq, rq, hk, rfl, hinv, hp⟩ := hrel
    by_cases hkl : k < bs.length
    · have hbw := HBW.out.trans (hp.below.mono HBW.out.size)
      obtain ⟨b', o, rfl, -, hcell⟩ := HROW.out.at_ hkl
      have ca := hcell wr hbw
      obtain ⟨ac, ha⟩ : ∃ a, bs.getD k false = a := ⟨_, rfl⟩
      rw [ha] at ca
      have HINV := Lib.hid hinv; have HP := Lib.hid hp
      clear ha hcell hbw hinv hp
      go_upto_region 11 with fail
      go_cut [34, 52] from 35 to 150 (fun ix c wx => ix = .int .i64 k ∧ c = .bool false ∧ ∃ (P1 : Ql) (sq1 rq1 : Nat), QInv N D boot P1 ∧ PQAt W wx E pb mb rb bb br N D boot x (k + 1) P1 sq1 rq1)
      case first =>
        cases ac
        · go_wp2_with fail
          refine (recv_b HP.out (by omega) (playQ_ok HINV.out).1).mono ?_
          rintro e w5 ⟨rfl, rq1, hp5, ho5⟩
          have HP5 := Lib.hid hp5
          clear hp5 ho5 ca
          go_wp2
          go_meet
          case rel => exact ⟨by trivial, by trivial, _, sq, rq1, (playQ_ok HINV.out).2.1, HP5.out⟩
        · go_wp2_with fail
          refine (send_b HP.out (by omega) (playS_ok HINV.out).1).mono ?_
          rintro e w5 ⟨rfl, sq1, hp5, ho5⟩
          have HP5 := Lib.hid hp5
          clear hp5 ho5 ca
          go_wp2
          go_meet
          case rel => exact ⟨by trivial, by trivial, _, sq1, rq, (playS_ok HINV.out).2.1, HP5.out⟩
      case rest =>
        clear HINV HP ca
        obtain ⟨rfl, rfl, P1, sq1, rq1, hinv1, hp5⟩ := hcut
        obtain ⟨w5, hw5⟩ : ∃ u, u = wc := ⟨_, rfl⟩
        rw [← hw5] at hp5 ⊢
        have HINV1 := Lib.hid hinv1; have HP5 := Lib.hid hp5
        clear hw5 hinv1 hp5
        go_wp2
        obtain ⟨i1, i2, i3, -, -⟩ := HINV1.out.count
        obtain ⟨l1, l2, l3, l4, l5, l6, l7, l8, l9, l10⟩ := HP5.out.lim
        obtain ⟨z, hz⟩ : ∃ z, P1.sent - P1.got = z := ⟨_, rfl⟩
        have HZ := Lib.hid hz
        have n0 : IntKind.i64.wrap (P1.sent - P1.got) = z := by rw [hz]; exact IntWalk.i64_in _ (by omega)
        have q12 : ∀ p : Regrown, (grow (redrawn w5 p.d) p.os).cell? ⟨pb, 12, none⟩ = some (.int .i64 P1.sent) := fun p => cell_regrown (cell_blk HP5.out.blk rfl) p.d p.os
        have q13 : ∀ p : Regrown, (grow (redrawn w5 p.d) p.os).cell? ⟨pb, 13, none⟩ = some (.int .i64 P1.got) := fun p => cell_regrown (cell_blk HP5.out.blk rfl) p.d p.os
        have hbc := Below.refl w5.heap.size w5
        clear hz i1 i2 i3 l1 l2 l3 l4 l5 l6 l7 l8 l9 l10
        with_reducible refine wp_on hbc (by kernel_rfl) (by kernel_rfl) ?_
        (repeat (go_big_quiet_step (fail)))
        with_reducible refine wpQuiet_nil ?_
        intro w7 hbd
        have HPA := Lib.hid (HP5.out.later hbd)
        clear q12 q13 hbc hbd n0 HP5
        go_upto_region 14 with fail
        go_cut [34, 10, 66] from 35 to 150 (fun ix n q wx => ix = .int .i64 k ∧ n = .int .i64 z ∧ q = .bool P1.s.isNone ∧ PQAt W wx E pb mb rb bb br N D boot x (k + 1) P1 sq1 rq1)
        case first =>
          cases hs : P1.s with
          | none =>
            have Hs := Lib.hid hs
            clear hs
            have x8 : w7.cell? ⟨pb, 8, none⟩ = some (.pointer none) := by have q : w7.cell? ⟨pb, 8, none⟩ = some (pqW P1.s sq1) := (cell_blk HPA.out.blk rfl); rw [Hs.out] at q; exact q
            go_wp2
            go_meet
            case rel => exact ⟨by trivial, by trivial, by rw [Hs.out]; rfl, HPA.out⟩
          | some ts =>
            have Hs := Lib.hid hs
            clear hs
            have x8 : w7.cell? ⟨pb, 8, none⟩ = some (.pointer (some ⟨sq1, 0, none⟩)) := by have q : w7.cell? ⟨pb, 8, none⟩ = some (pqW P1.s sq1) := (cell_blk HPA.out.blk rfl); rw [Hs.out] at q; exact q
            go_wp2
            go_meet
            case rel => exact ⟨by trivial, by trivial, by rw [Hs.out]; rfl, HPA.out⟩
        case rest =>
          clear HPA
          obtain ⟨rfl, rfl, rfl, hpa⟩ := hcut
          have HPA := Lib.hid hpa
          clear hpa
          obtain ⟨qn, hqn⟩ : ∃ q, P1.s.isNone = q := ⟨_, rfl⟩
          have HQN := Lib.hid hqn
          rw [hqn]
          clear hqn
          go_upto_if 66 with fail
          obtain ⟨w6, hw6⟩ : ∃ u, u = wc := ⟨_, rfl⟩
          rw [← hw6] at HPA ⊢
          clear hw6
          go_cut [34, 10] from 35 to 150 (fun ix n wx => ix = .int .i64 k ∧ n = .int .i64 z ∧ PQAt W wx E pb mb rb bb br N D boot x (k + 1) P1 sq1 rq1)
          case first =>
            cases qn with
            | true =>
              have HZC : Hid (cntQ (qr2 N D) P1.tail true P1.m = z) := Lib.hid (by have q := HINV1.out.count; have q2 := q.2.2.2.1 (Option.isNone_iff_eq_none.1 HQN.out); rw [HZ.out] at q2; exact q2)
              go_wp2
              have HPV := HPA
              obtain ⟨bsv, hqv, hlv, hbv⟩ := HPV.out.quo
              have HQV := Lib.hid (hqv.only (T := fun _ => False) (Only.refl _ w6).drew (fun _ _ h => h.elim) (E' := E) (fun k h => .inl h))
              have HBV : Hid (w6.drew.heap[pb]? = some (.cells (qpV (x) (mb) (bb) ((pqW P1.s sq1)) ((pqW P1.r rq1)) (P1.tail) (P1.head) (P1.sent) (P1.got) (P1.n) (P1.steps) (P1.own)) 75 (0, 0))) := Lib.hid HPV.out.blk
              have hplv : pb < w6.drew.heap.size := HPV.out.lt
              have hprb : ¬ pb = rb := fun e => by obtain ⟨_, _, _, _, h3, _⟩ := HQV.out.two; exact (h3 pb HPV.out.pe.1).2.2.1 (.inr (.inl e))
              have hszW : W.heap.size ≤ w6.drew.heap.size := HPV.out.below.size
              have hcn := fun (W' : World) (hb : Below w6.drew.heap.size w6.drew W') => newC_b (cfgQ N D boot) x 0 (qr2 N D) P1.tail true W' (HPV.out.cfg.later ((HPV.out.below.drew).trans (hb.mono hszW))) HPV.out.wf (cfgQ_few N D boot) HPV.out.qrOf ⟨HPV.out.u32.1, HPV.out.u32.2.1⟩
              obtain ⟨f1, f2, f3, f4, f5, f6⟩ := cfgQ_len N D boot
              simp only [cfgCells, f1, f2, f3, f4, f5, f6] at hcn
              have HCN := Lib.hid hcn; have HLB := Lib.hid (And.intro hlv hbv)
              clear hcn f1 f2 f3 f4 f5 f6 hqv hlv hbv
              refine wp_region_held_drew (S := (fun W' => W'.heap[pb]? = some (.cells (qpV (x) (mb) (bb) ((pqW P1.s sq1)) ((pqW P1.r rq1)) (P1.tail) (P1.head) (P1.sent) (P1.got) (P1.n) (P1.steps) (P1.own)) 75 (0, 0)))) (by kernel_rfl) (by exact HBV.out) (fun hHeld => ?_)
              refine wpAnyH_take (i := 0) rfl (by kernel_rfl) (by kernel_rfl) (by kernel_rfl) (fun _ _ _ h => h) (Or.inl ⟨by rfl, by intro w hSw; (have z0 := cell_blk hSw (i := 0) rfl; have z1 := cell_blk hSw (i := 1) rfl; have z2 := cell_blk hSw (i := 2) rfl; have z3 := cell_blk hSw (i := 3) rfl; have z4 := cell_blk hSw (i := 4) rfl; have z5 := cell_blk hSw (i := 5) rfl; have z6 := cell_blk hSw (i := 6) rfl; have z7 := cell_blk hSw (i := 7) rfl; have z10 := cell_blk hSw (i := 10) rfl; clear hSw); (go_simp <;> with_reducible rfl)⟩) (by assumption) ?_
              (try simp only [Act.put, List.setIfInBounds_toArray, List.set_cons_zero, List.set_cons_succ, List.getElem_toArray, List.getElem_cons_zero, List.getElem_cons_succ])
              refine wpAnyH_take (i := 1) rfl (by kernel_rfl) (by kernel_rfl) (by kernel_rfl) (fun _ _ _ h => h) (Or.inl ⟨by rfl, by intro w hSw; (have z0 := cell_blk hSw (i := 0) rfl; have z1 := cell_blk hSw (i := 1) rfl; have z2 := cell_blk hSw (i := 2) rfl; have z3 := cell_blk hSw (i := 3) rfl; have z4 := cell_blk hSw (i := 4) rfl; have z5 := cell_blk hSw (i := 5) rfl; have z6 := cell_blk hSw (i := 6) rfl; have z7 := cell_blk hSw (i := 7) rfl; have z10 := cell_blk hSw (i := 10) rfl; clear hSw); (go_simp <;> with_reducible rfl)⟩) (by assumption) ?_
              (try simp only [Act.put, List.setIfInBounds_toArray, List.set_cons_zero, List.set_cons_succ, List.getElem_toArray, List.getElem_cons_zero, List.getElem_cons_succ])
              refine wpAnyH_take (i := 2) rfl (by kernel_rfl) (by kernel_rfl) (by kernel_rfl) (fun _ _ _ h => h) (Or.inl ⟨by rfl, by intro w hSw; (have z0 := cell_blk hSw (i := 0) rfl; have z1 := cell_blk hSw (i := 1) rfl; have z2 := cell_blk hSw (i := 2) rfl; have z3 := cell_blk hSw (i := 3) rfl; have z4 := cell_blk hSw (i := 4) rfl; have z5 := cell_blk hSw (i := 5) rfl; have z6 := cell_blk hSw (i := 6) rfl; have z7 := cell_blk hSw (i := 7) rfl; have z10 := cell_blk hSw (i := 10) rfl; clear hSw); (go_simp <;> with_reducible rfl)⟩) (by assumption) ?_
              (try simp only [Act.put, List.setIfInBounds_toArray, List.set_cons_zero, List.set_cons_succ, List.getElem_toArray, List.getElem_cons_zero, List.getElem_cons_succ])
              refine wpAnyH_take (i := 3) rfl (by kernel_rfl) (by kernel_rfl) (by kernel_rfl) (fun _ _ _ h => h) (Or.inl ⟨by rfl, by intro w hSw; (have z0 := cell_blk hSw (i := 0) rfl; have z1 := cell_blk hSw (i := 1) rfl; have z2 := cell_blk hSw (i := 2) rfl; have z3 := cell_blk hSw (i := 3) rfl; have z4 := cell_blk hSw (i := 4) rfl; have z5 := cell_blk hSw (i := 5) rfl; have z6 := cell_blk hSw (i := 6) rfl; have z7 := cell_blk hSw (i := 7) rfl; have z10 := cell_blk hSw (i := 10) rfl; clear hSw); (go_simp <;> with_reducible rfl)⟩) (by assumption) ?_
              (try simp only [Act.put, List.setIfInBounds_toArray, List.set_cons_zero, List.set_cons_succ, List.getElem_toArray, List.getElem_cons_zero, List.getElem_cons_succ])
              refine wpAnyH_take (i := 4) rfl (by kernel_rfl) (by kernel_rfl) (by kernel_rfl) (fun _ _ _ h => h) (Or.inl ⟨by rfl, by intro w hSw; (have z0 := cell_blk hSw (i := 0) rfl; have z1 := cell_blk hSw (i := 1) rfl; have z2 := cell_blk hSw (i := 2) rfl; have z3 := cell_blk hSw (i := 3) rfl; have z4 := cell_blk hSw (i := 4) rfl; have z5 := cell_blk hSw (i := 5) rfl; have z6 := cell_blk hSw (i := 6) rfl; have z7 := cell_blk hSw (i := 7) rfl; have z10 := cell_blk hSw (i := 10) rfl; clear hSw); (go_simp <;> with_reducible rfl)⟩) (by assumption) ?_
              (try simp only [Act.put, List.setIfInBounds_toArray, List.set_cons_zero, List.set_cons_succ, List.getElem_toArray, List.getElem_cons_zero, List.getElem_cons_succ])
              refine wpAnyH_take (i := 5) rfl (by kernel_rfl) (by kernel_rfl) (by kernel_rfl) (fun _ _ _ h => h) (Or.inl ⟨by rfl, by intro w hSw; (have z0 := cell_blk hSw (i := 0) rfl; have z1 := cell_blk hSw (i := 1) rfl; have z2 := cell_blk hSw (i := 2) rfl; have z3 := cell_blk hSw (i := 3) rfl; have z4 := cell_blk hSw (i := 4) rfl; have z5 := cell_blk hSw (i := 5) rfl; have z6 := cell_blk hSw (i := 6) rfl; have z7 := cell_blk hSw (i := 7) rfl; have z10 := cell_blk hSw (i := 10) rfl; clear hSw); (go_simp <;> with_reducible rfl)⟩) (by assumption) ?_
              (try simp only [Act.put, List.setIfInBounds_toArray, List.set_cons_zero, List.set_cons_succ, List.getElem_toArray, List.getElem_cons_zero, List.getElem_cons_succ])
              refine wpAnyH_take (i := 6) rfl (by kernel_rfl) (by kernel_rfl) (by kernel_rfl) (fun _ _ _ h => h) (Or.inl ⟨by rfl, by intro w hSw; (have z0 := cell_blk hSw (i := 0) rfl; have z1 := cell_blk hSw (i := 1) rfl; have z2 := cell_blk hSw (i := 2) rfl; have z3 := cell_blk hSw (i := 3) rfl; have z4 := cell_blk hSw (i := 4) rfl; have z5 := cell_blk hSw (i := 5) rfl; have z6 := cell_blk hSw (i := 6) rfl; have z7 := cell_blk hSw (i := 7) rfl; have z10 := cell_blk hSw (i := 10) rfl; clear hSw); (go_simp <;> with_reducible rfl)⟩) (by assumption) ?_
              (try simp only [Act.put, List.setIfInBounds_toArray, List.set_cons_zero, List.set_cons_succ, List.getElem_toArray, List.getElem_cons_zero, List.getElem_cons_succ])
              refine wpAnyH_take (i := 7) rfl (by kernel_rfl) (by kernel_rfl) (by kernel_rfl) (fun _ _ _ h => h) (Or.inl ⟨by rfl, by intro w hSw; (have z0 := cell_blk hSw (i := 0) rfl; have z1 := cell_blk hSw (i := 1) rfl; have z2 := cell_blk hSw (i := 2) rfl; have z3 := cell_blk hSw (i := 3) rfl; have z4 := cell_blk hSw (i := 4) rfl; have z5 := cell_blk hSw (i := 5) rfl; have z6 := cell_blk hSw (i := 6) rfl; have z7 := cell_blk hSw (i := 7) rfl; have z10 := cell_blk hSw (i := 10) rfl; clear hSw); (go_simp <;> with_reducible rfl)⟩) (by assumption) ?_
              (try simp only [Act.put, List.setIfInBounds_toArray, List.set_cons_zero, List.set_cons_succ, List.getElem_toArray, List.getElem_cons_zero, List.getElem_cons_succ])
              refine wpAnyH_take (i := 9) rfl (by kernel_rfl) (by kernel_rfl) (by kernel_rfl) (fun _ _ _ h => h) (Or.inl ⟨by rfl, by intro w hSw; (have z0 := cell_blk hSw (i := 0) rfl; have z1 := cell_blk hSw (i := 1) rfl; have z2 := cell_blk hSw (i := 2) rfl; have z3 := cell_blk hSw (i := 3) rfl; have z4 := cell_blk hSw (i := 4) rfl; have z5 := cell_blk hSw (i := 5) rfl; have z6 := cell_blk hSw (i := 6) rfl; have z7 := cell_blk hSw (i := 7) rfl; have z10 := cell_blk hSw (i := 10) rfl; clear hSw); (go_simp <;> with_reducible rfl)⟩) (by assumption) ?_
              (try simp only [Act.put, List.setIfInBounds_toArray, List.set_cons_zero, List.set_cons_succ, List.getElem_toArray, List.getElem_cons_zero, List.getElem_cons_succ])
              refine wpAnyH_take (i := 10) rfl (by kernel_rfl) (by kernel_rfl) (by kernel_rfl) (fun _ _ _ h => h) (Or.inl ⟨by rfl, by intro w hSw; (have z0 := cell_blk hSw (i := 0) rfl; have z1 := cell_blk hSw (i := 1) rfl; have z2 := cell_blk hSw (i := 2) rfl; have z3 := cell_blk hSw (i := 3) rfl; have z4 := cell_blk hSw (i := 4) rfl; have z5 := cell_blk hSw (i := 5) rfl; have z6 := cell_blk hSw (i := 6) rfl; have z7 := cell_blk hSw (i := 7) rfl; have z10 := cell_blk hSw (i := 10) rfl; clear hSw); (go_simp <;> with_reducible rfl)⟩) (by assumption) ?_
              (try simp only [Act.put, List.setIfInBounds_toArray, List.set_cons_zero, List.set_cons_succ, List.getElem_toArray, List.getElem_cons_zero, List.getElem_cons_succ])
              refine wpAnyH_take (i := 11) rfl (by kernel_rfl) (by kernel_rfl) (by kernel_rfl) (fun _ _ _ h => h) (Or.inl ⟨by rfl, by intro w hSw; (have z0 := cell_blk hSw (i := 0) rfl; have z1 := cell_blk hSw (i := 1) rfl; have z2 := cell_blk hSw (i := 2) rfl; have z3 := cell_blk hSw (i := 3) rfl; have z4 := cell_blk hSw (i := 4) rfl; have z5 := cell_blk hSw (i := 5) rfl; have z6 := cell_blk hSw (i := 6) rfl; have z7 := cell_blk hSw (i := 7) rfl; have z10 := cell_blk hSw (i := 10) rfl; clear hSw); (go_simp <;> with_reducible rfl)⟩) (by assumption) ?_
              (try simp only [Act.put, List.setIfInBounds_toArray, List.set_cons_zero, List.set_cons_succ, List.getElem_toArray, List.getElem_cons_zero, List.getElem_cons_succ])
              refine wpAnyH_take (i := 12) rfl (by kernel_rfl) (by kernel_rfl) (by kernel_rfl) (fun _ _ _ h => h) (Or.inl ⟨by rfl, by intro w hSw; (have z0 := cell_blk hSw (i := 0) rfl; have z1 := cell_blk hSw (i := 1) rfl; have z2 := cell_blk hSw (i := 2) rfl; have z3 := cell_blk hSw (i := 3) rfl; have z4 := cell_blk hSw (i := 4) rfl; have z5 := cell_blk hSw (i := 5) rfl; have z6 := cell_blk hSw (i := 6) rfl; have z7 := cell_blk hSw (i := 7) rfl; have z10 := cell_blk hSw (i := 10) rfl; clear hSw); (go_simp <;> with_reducible rfl)⟩) (by assumption) ?_
              (try simp only [Act.put, List.setIfInBounds_toArray, List.set_cons_zero, List.set_cons_succ, List.getElem_toArray, List.getElem_cons_zero, List.getElem_cons_succ])
              refine wpAnyH_take (i := 13) rfl (by kernel_rfl) (by kernel_rfl) (by kernel_rfl) (fun _ _ _ h => h) (Or.inl ⟨by rfl, by intro w hSw; (have z0 := cell_blk hSw (i := 0) rfl; have z1 := cell_blk hSw (i := 1) rfl; have z2 := cell_blk hSw (i := 2) rfl; have z3 := cell_blk hSw (i := 3) rfl; have z4 := cell_blk hSw (i := 4) rfl; have z5 := cell_blk hSw (i := 5) rfl; have z6 := cell_blk hSw (i := 6) rfl; have z7 := cell_blk hSw (i := 7) rfl; have z10 := cell_blk hSw (i := 10) rfl; clear hSw); (go_simp <;> with_reducible rfl)⟩) (by assumption) ?_
              (try simp only [Act.put, List.setIfInBounds_toArray, List.set_cons_zero, List.set_cons_succ, List.getElem_toArray, List.getElem_cons_zero, List.getElem_cons_succ])
              refine wpAnyH_take (i := 14) rfl (by kernel_rfl) (by kernel_rfl) (by kernel_rfl) (fun _ _ _ h => h) (Or.inl ⟨by rfl, by intro w hSw; (have z0 := cell_blk hSw (i := 0) rfl; have z1 := cell_blk hSw (i := 1) rfl; have z2 := cell_blk hSw (i := 2) rfl; have z3 := cell_blk hSw (i := 3) rfl; have z4 := cell_blk hSw (i := 4) rfl; have z5 := cell_blk hSw (i := 5) rfl; have z6 := cell_blk hSw (i := 6) rfl; have z7 := cell_blk hSw (i := 7) rfl; have z10 := cell_blk hSw (i := 10) rfl; clear hSw); (go_simp <;> with_reducible rfl)⟩) (by assumption) ?_
              (try simp only [Act.put, List.setIfInBounds_toArray, List.set_cons_zero, List.set_cons_succ, List.getElem_toArray, List.getElem_cons_zero, List.getElem_cons_succ])
              refine wpAnyH_take (i := 15) rfl (by kernel_rfl) (by kernel_rfl) (by kernel_rfl) (fun _ _ _ h => h) (Or.inl ⟨by rfl, by intro w hSw; (have z0 := cell_blk hSw (i := 0) rfl; have z1 := cell_blk hSw (i := 1) rfl; have z2 := cell_blk hSw (i := 2) rfl; have z3 := cell_blk hSw (i := 3) rfl; have z4 := cell_blk hSw (i := 4) rfl; have z5 := cell_blk hSw (i := 5) rfl; have z6 := cell_blk hSw (i := 6) rfl; have z7 := cell_blk hSw (i := 7) rfl; have z10 := cell_blk hSw (i := 10) rfl; clear hSw); (go_simp <;> with_reducible rfl)⟩) (by assumption) ?_
              (try simp only [Act.put, List.setIfInBounds_toArray, List.set_cons_zero, List.set_cons_succ, List.getElem_toArray, List.getElem_cons_zero, List.getElem_cons_succ])
              refine wpAnyH_take (i := 16) rfl (by kernel_rfl) (by kernel_rfl) (by kernel_rfl) (fun _ _ _ h => h) (Or.inl ⟨by rfl, by intro w hSw; (have z0 := cell_blk hSw (i := 0) rfl; have z1 := cell_blk hSw (i := 1) rfl; have z2 := cell_blk hSw (i := 2) rfl; have z3 := cell_blk hSw (i := 3) rfl; have z4 := cell_blk hSw (i := 4) rfl; have z5 := cell_blk hSw (i := 5) rfl; have z6 := cell_blk hSw (i := 6) rfl; have z7 := cell_blk hSw (i := 7) rfl; have z10 := cell_blk hSw (i := 10) rfl; clear hSw); (go_simp <;> with_reducible rfl)⟩) (by assumption) ?_
              (try simp only [Act.put, List.setIfInBounds_toArray, List.set_cons_zero, List.set_cons_succ, List.getElem_toArray, List.getElem_cons_zero, List.getElem_cons_succ])
              apply cut2
              rotate_left
              intro key
              have hHeld := hHeld
              refine wpAnyH_ready (rs := [8, 18]) (by kernel_rfl) (by simp) (AllReadyH.cons rfl (fun K hK => ?_) (AllReadyH.cons rfl (fun K hK => ?_) AllReadyH.nil))
              go_simp
              refine (HCN.out _ (Below.refl w6.drew.heap.size w6.drew)).mono ?_
              rintro e v1 ⟨ob, S, rfl, hat, hSn, hb1⟩
              have hbw1 : Below w6.drew.heap.size w6.drew v1 := (Below.refl w6.drew.heap.size w6.drew).trans (hb1.mono (Below.refl w6.drew.heap.size w6.drew).size)
              have hS : ∀ k, S k → w6.drew.heap.size ≤ k := fun k hk => Nat.le_trans (Below.refl w6.drew.heap.size w6.drew).size (hSn k hk)
              have hlS : ∀ k, S k → k < v1.heap.size := by obtain ⟨_, _, _, _, _, _, _, _, h5, _⟩ := hat; exact h5
              refine hK.out _ _ (by exact (hbw1.block pb hplv).trans HBV.out) (fun hHeld => ?_)
              clear hK K
              (try simp only [Act.put, List.setIfInBounds_toArray, List.set_cons_zero, List.set_cons_succ, List.getElem_toArray, List.getElem_cons_zero, List.getElem_cons_succ])
              refine wpAnyH_ready (rs := [17, 18]) (by kernel_rfl) (by simp) (AllReadyH.cons rfl (fun K hK => ?_) (AllReadyH.cons rfl (fun K hK => ?_) AllReadyH.nil))
              go_simp
              have hbw2 := hbw1
              refine (HQV.out.countS 0 hbw2 (hat) hS).mono ?_
              rintro e v2 ⟨rfl, hq2, ho2⟩
              have hpb2 := (ho2.block pb (Nat.lt_of_lt_of_le hplv hbw2.size) (fun h => h.elim (fun h => by have := hS _ h; omega) hprb)).trans (hbw2.block pb hplv)
              refine hK.out _ _ (by exact hpb2.trans HBV.out) (fun hHeld => ?_)
              clear hK K
              (try simp only [Act.put, List.setIfInBounds_toArray, List.set_cons_zero, List.set_cons_succ, List.getElem_toArray, List.getElem_cons_zero, List.getElem_cons_succ])
              refine wpAnyH_ready (rs := [18]) (by kernel_rfl) (by simp) (AllReadyH.cons rfl (fun K hK => ?_) AllReadyH.nil)
              go_simp
              refine hK.out _ _ (by exact (Below.heap_alloc v2 _ pb (Nat.lt_of_lt_of_le hplv (Nat.le_trans hbw2.size ho2.size))).trans (hpb2.trans HBV.out)) (fun hHeld => ?_)
              clear hK K
              (try simp only [Act.put, List.setIfInBounds_toArray, List.set_cons_zero, List.set_cons_succ, List.getElem_toArray, List.getElem_cons_zero, List.getElem_cons_succ])
              have hs2 := hbw2.size
              have hs3 := ho2.size
              have hz := World.size_alloc v2 (.cells (didV false 0 (.slice none 0 0) false false false 0) 63)
              have hszw : w6.drew.heap.size ≤ (v2.alloc (.cells (didV false 0 (.slice none 0 0) false false false 0) 63)).heap.size := by omega
              have hpbA := (Below.heap_alloc v2 (.cells (didV false 0 (.slice none 0 0) false false false 0) 63) pb (by omega)).trans hpb2
              have hqA := hq2.only (T := fun _ => False) (Only.of_below ((Below.refl v2.heap.size v2).alloc (Nat.le_refl _) (.cells (didV false 0 (.slice none 0 0) false false false 0) 63))) (fun _ _ h => h.elim) (E' := fun k => E k ∨ (w6.drew.heap.size ≤ k ∧ k < (v2.alloc (.cells (didV false 0 (.slice none 0 0) false false false 0) 63)).heap.size)) (fun k h => h.elim (fun h => .inl (.inl h)) (fun h => if hk : k < v2.heap.size then .inl (.inr ⟨h.1, hk⟩) else .inr ⟨by omega, h.2⟩))
              have hpbX : ((v2.alloc (.cells (didV false 0 (.slice none 0 0) false false false 0) 63)).setCells v2.heap.size 0 [.bool true, .int .i64 0, .slice none 0 0, .bool false, .int .i64 z, .bool true, .bool false, .bool false, .int .i64 0]).heap[pb]? = _ := ((Only.sets (S := fun k => k = v2.heap.size) rfl [.bool true, .int .i64 0, .slice none 0 0, .bool false, .int .i64 z, .bool true, .bool false, .bool false, .int .i64 0] 0 (Only.refl _ _)).block pb (by omega) (by omega)).trans (hpbA.trans HBV.out)
              refine wpAnyH_ready (rs := [19]) (by kernel_rfl) (by simp) (AllReadyH.cons rfl (fun K hK => ?_) AllReadyH.nil)
              rw [HZC.out]
              have htbv := show (v2.alloc (.cells (didV false 0 (.slice none 0 0) false false false 0) 63)).heap[v2.heap.size]? = some (.cells (didV false 0 (.slice none 0 0) false false false 0) 63 (0, 0)) from heap_alloc_new v2 _
              have hth := there_at htbv (n := (qdV true 0 (.slice none 0 0) z true false : Array Value).size) rfl
              have hsd : (Tryz.prog.info? 63).map (·.size) = some (qdV true 0 (.slice none 0 0) z true false : Array Value).size := did_size
              rw [if_pos (by rfl)]
              refine wp_store_mid _ _ _ rfl v2.heap.size 0 (qdV true 0 (.slice none 0 0) z true false) rfl rfl hth hsd (by kernel_rfl) ?_
              refine hK.out _ _ (by exact hpbX) (fun hHeld => ?_)
              clear hK K
              (try simp only [Act.put, List.setIfInBounds_toArray, List.set_cons_zero, List.set_cons_succ, List.getElem_toArray, List.getElem_cons_zero, List.getElem_cons_succ])
              obtain ⟨X, HX⟩ : ∃ X, Hid (X = (v2.alloc (.cells (didV false 0 (.slice none 0 0) false false false 0) 63)).setCells v2.heap.size 0 [.bool true, .int .i64 0, .slice none 0 0, .bool false, .int .i64 z, .bool true, .bool false, .bool false, .int .i64 0]) := ⟨_, rfl⟩
              obtain ⟨tb, htb⟩ : ∃ t, t = v2.heap.size := ⟨_, rfl⟩
              have HTX : Hid (X.heap[tb]? = some (.cells (qdV true 0 (.slice none 0 0) z true false) 63 (0, 0))) := Lib.hid (by rw [HX.out, htb]; exact blk_did htbv _ rfl)
              have HPX : Hid (PQAt W X E pb mb rb bb br N D boot x (k + 1) (P1) sq1 rq1) := Lib.hid (by
                have hxo : Only (fun k => k = v2.heap.size) (v2.alloc (.cells (didV false 0 (.slice none 0 0) false false false 0) 63)) X := by rw [HX.out]; exact Only.sets (S := fun k => k = v2.heap.size) rfl _ 0 (Only.refl _ _)
                exact HPV.out.turnQ ((hxo.block pb (Nat.lt_of_lt_of_le hplv hszw) (by have := hplv; omega)).trans (hpbA)) ((hqA).only hxo (fun k _ e => ⟨.inr ⟨by omega, by omega⟩, by have := hszW; omega⟩) (fun k h => .inl (.inl h))) HLB.out.1 HLB.out.2)
              refine wpAnyH_done (by kernel_rfl) ?_ _
              rw [← HX.out]
              simp only [← htb]
              clear HX htb hHeld hth hsd htbv hpbX hq2 ho2 hpb2 hbw2 hat hSn hb1 hbw1 hS hlS
              (try clear hqA hpbA)
              (try clear hz)
              (try clear hs1)
              (try clear hs2)
              (try clear hs3)
              (try clear hs4)
              (try clear hszw)
              generalize (Value.pointer (some ⟨ob, 0, none⟩)) = u75
              revert HTX; revert HPX; revert u75; revert tb; revert X
              exact key.get
              go_simp
              refine hK.out _ _ (by exact (Below.heap_alloc v1 _ pb (Nat.lt_of_lt_of_le hplv hbw1.size)).trans ((hbw1.block pb hplv).trans HBV.out)) (fun hHeld => ?_)
              clear hK K
              (try simp only [Act.put, List.setIfInBounds_toArray, List.set_cons_zero, List.set_cons_succ, List.getElem_toArray, List.getElem_cons_zero, List.getElem_cons_succ])
              refine wpAnyH_ready (rs := [17]) (by kernel_rfl) (by simp) (AllReadyH.cons rfl (fun K hK => ?_) AllReadyH.nil)
              go_simp
              have hbw2 := hbw1.trans (((Below.refl v1.heap.size v1).alloc (Nat.le_refl _) (.cells (didV false 0 (.slice none 0 0) false false false 0) 63)).mono hbw1.size)
              refine (HQV.out.countS 0 hbw2 (hat.only (T := fun _ => False) (Only.of_below ((Below.refl v1.heap.size v1).alloc (Nat.le_refl _) (.cells (didV false 0 (.slice none 0 0) false false false 0) 63))) (fun _ _ h => h)) hS).mono ?_
              rintro e v2 ⟨rfl, hq2, ho2⟩
              have hpb2 := (ho2.block pb (Nat.lt_of_lt_of_le hplv hbw2.size) (fun h => h.elim (fun h => by have := hS _ h; omega) hprb)).trans (hbw2.block pb hplv)
              refine hK.out _ _ (by exact hpb2.trans HBV.out) (fun hHeld => ?_)
              clear hK K
              (try simp only [Act.put, List.setIfInBounds_toArray, List.set_cons_zero, List.set_cons_succ, List.getElem_toArray, List.getElem_cons_zero, List.getElem_cons_succ])
              have hs1 := hbw1.size
              have hs2 := hbw2.size
              have hs3 := ho2.size
              have hz := World.size_alloc v1 (.cells (didV false 0 (.slice none 0 0) false false false 0) 63)
              have hszw : w6.drew.heap.size ≤ v2.heap.size := by omega
              have hpbX : (v2.setCells v1.heap.size 0 [.bool true, .int .i64 0, .slice none 0 0, .bool false, .int .i64 z, .bool true, .bool false, .bool false, .int .i64 0]).heap[pb]? = _ := ((Only.sets (S := fun k => k = v1.heap.size) rfl [.bool true, .int .i64 0, .slice none 0 0, .bool false, .int .i64 z, .bool true, .bool false, .bool false, .int .i64 0] 0 (Only.refl _ _)).block pb (by omega) (by omega)).trans (hpb2.trans HBV.out)
              refine wpAnyH_ready (rs := [19]) (by kernel_rfl) (by simp) (AllReadyH.cons rfl (fun K hK => ?_) AllReadyH.nil)
              rw [HZC.out]
              have htbv := (show v2.heap[v1.heap.size]? = some (.cells (didV false 0 (.slice none 0 0) false false false 0) 63 (0, 0)) from ho2.at_ (heap_alloc_new v1 _) (fun h => h.elim (fun h => by have := hlS _ h; omega) (fun e => by have := HQV.out.mem.lt; omega)))
              have hth := there_at htbv (n := (qdV true 0 (.slice none 0 0) z true false : Array Value).size) rfl
              have hsd : (Tryz.prog.info? 63).map (·.size) = some (qdV true 0 (.slice none 0 0) z true false : Array Value).size := did_size
              rw [if_pos (by rfl)]
              refine wp_store_mid _ _ _ rfl v1.heap.size 0 (qdV true 0 (.slice none 0 0) z true false) rfl rfl hth hsd (by kernel_rfl) ?_
              refine hK.out _ _ (by exact hpbX) (fun hHeld => ?_)
              clear hK K
              (try simp only [Act.put, List.setIfInBounds_toArray, List.set_cons_zero, List.set_cons_succ, List.getElem_toArray, List.getElem_cons_zero, List.getElem_cons_succ])
              obtain ⟨X, HX⟩ : ∃ X, Hid (X = (v2).setCells v1.heap.size 0 [.bool true, .int .i64 0, .slice none 0 0, .bool false, .int .i64 z, .bool true, .bool false, .bool false, .int .i64 0]) := ⟨_, rfl⟩
              obtain ⟨tb, htb⟩ : ∃ t, t = v1.heap.size := ⟨_, rfl⟩
              have HTX : Hid (X.heap[tb]? = some (.cells (qdV true 0 (.slice none 0 0) z true false) 63 (0, 0))) := Lib.hid (by rw [HX.out, htb]; exact blk_did htbv _ rfl)
              have HPX : Hid (PQAt W X E pb mb rb bb br N D boot x (k + 1) (P1) sq1 rq1) := Lib.hid (by
                have hxo : Only (fun k => k = v1.heap.size) (v2) X := by rw [HX.out]; exact Only.sets (S := fun k => k = v1.heap.size) rfl _ 0 (Only.refl _ _)
                exact HPV.out.turnQ ((hxo.block pb (Nat.lt_of_lt_of_le hplv hszw) (by have := hplv; omega)).trans (hpb2)) ((hq2).only hxo (fun k _ e => ⟨.inr ⟨by omega, by omega⟩, by have := hszW; omega⟩) (fun k h => .inl (.inl h))) HLB.out.1 HLB.out.2)
              refine wpAnyH_done (by kernel_rfl) ?_ _
              rw [← HX.out]
              simp only [← htb]
              clear HX htb hHeld hth hsd htbv hpbX hq2 ho2 hpb2 hbw2 hat hSn hb1 hbw1 hS hlS
              (try clear hqA hpbA)
              (try clear hz)
              (try clear hs1)
              (try clear hs2)
              (try clear hs3)
              (try clear hs4)
              (try clear hszw)
              generalize (Value.pointer (some ⟨ob, 0, none⟩)) = u75
              revert HTX; revert HPX; revert u75; revert tb; revert X
              exact key.get
              go_simp
              refine hK.out _ _ (by exact (Below.heap_alloc w6.drew _ pb hplv).trans HBV.out) (fun hHeld => ?_)
              clear hK K
              (try simp only [Act.put, List.setIfInBounds_toArray, List.set_cons_zero, List.set_cons_succ, List.getElem_toArray, List.getElem_cons_zero, List.getElem_cons_succ])
              refine wpAnyH_ready (rs := [8]) (by kernel_rfl) (by simp) (AllReadyH.cons rfl (fun K hK => ?_) AllReadyH.nil)
              go_simp
              refine (HCN.out _ ((Below.refl w6.drew.heap.size w6.drew).alloc (Nat.le_refl _) (.cells (didV false 0 (.slice none 0 0) false false false 0) 63))).mono ?_
              rintro e v1 ⟨ob, S, rfl, hat, hSn, hb1⟩
              have hbw1 : Below w6.drew.heap.size w6.drew v1 := ((Below.refl w6.drew.heap.size w6.drew).alloc (Nat.le_refl _) (.cells (didV false 0 (.slice none 0 0) false false false 0) 63)).trans (hb1.mono ((Below.refl w6.drew.heap.size w6.drew).alloc (Nat.le_refl _) (.cells (didV false 0 (.slice none 0 0) false false false 0) 63)).size)
              have hS : ∀ k, S k → w6.drew.heap.size ≤ k := fun k hk => Nat.le_trans ((Below.refl w6.drew.heap.size w6.drew).alloc (Nat.le_refl _) (.cells (didV false 0 (.slice none 0 0) false false false 0) 63)).size (hSn k hk)
              have hlS : ∀ k, S k → k < v1.heap.size := by obtain ⟨_, _, _, _, _, _, _, _, h5, _⟩ := hat; exact h5
              refine hK.out _ _ (by exact (hbw1.block pb hplv).trans HBV.out) (fun hHeld => ?_)
              clear hK K
              (try simp only [Act.put, List.setIfInBounds_toArray, List.set_cons_zero, List.set_cons_succ, List.getElem_toArray, List.getElem_cons_zero, List.getElem_cons_succ])
              refine wpAnyH_ready (rs := [17]) (by kernel_rfl) (by simp) (AllReadyH.cons rfl (fun K hK => ?_) AllReadyH.nil)
              go_simp
              have hbw2 := hbw1
              refine (HQV.out.countS 0 hbw2 (hat) hS).mono ?_
              rintro e v2 ⟨rfl, hq2, ho2⟩
              have hpb2 := (ho2.block pb (Nat.lt_of_lt_of_le hplv hbw2.size) (fun h => h.elim (fun h => by have := hS _ h; omega) hprb)).trans (hbw2.block pb hplv)
              refine hK.out _ _ (by exact hpb2.trans HBV.out) (fun hHeld => ?_)
              clear hK K
              (try simp only [Act.put, List.setIfInBounds_toArray, List.set_cons_zero, List.set_cons_succ, List.getElem_toArray, List.getElem_cons_zero, List.getElem_cons_succ])
              have hs1 := hbw1.size
              have hs3 := ho2.size
              have hz := World.size_alloc w6.drew (.cells (didV false 0 (.slice none 0 0) false false false 0) 63)
              have hs4 := hb1.size
              have hszw : w6.drew.heap.size ≤ v2.heap.size := by omega
              have hpbX : (v2.setCells w6.drew.heap.size 0 [.bool true, .int .i64 0, .slice none 0 0, .bool false, .int .i64 z, .bool true, .bool false, .bool false, .int .i64 0]).heap[pb]? = _ := ((Only.sets (S := fun k => k = w6.drew.heap.size) rfl [.bool true, .int .i64 0, .slice none 0 0, .bool false, .int .i64 z, .bool true, .bool false, .bool false, .int .i64 0] 0 (Only.refl _ _)).block pb (by omega) (by omega)).trans (hpb2.trans HBV.out)
              refine wpAnyH_ready (rs := [19]) (by kernel_rfl) (by simp) (AllReadyH.cons rfl (fun K hK => ?_) AllReadyH.nil)
              rw [HZC.out]
              have htbv := (show v2.heap[w6.drew.heap.size]? = some (.cells (didV false 0 (.slice none 0 0) false false false 0) 63 (0, 0)) from ho2.at_ ((hb1.block w6.drew.heap.size (by omega)).trans (heap_alloc_new w6.drew _)) (fun h => h.elim (fun h => by have := hSn _ h; omega) (fun e => by have := HQV.out.mem.lt; omega)))
              have hth := there_at htbv (n := (qdV true 0 (.slice none 0 0) z true false : Array Value).size) rfl
              have hsd : (Tryz.prog.info? 63).map (·.size) = some (qdV true 0 (.slice none 0 0) z true false : Array Value).size := did_size
              rw [if_pos (by rfl)]
              refine wp_store_mid _ _ _ rfl w6.drew.heap.size 0 (qdV true 0 (.slice none 0 0) z true false) rfl rfl hth hsd (by kernel_rfl) ?_
              refine hK.out _ _ (by exact hpbX) (fun hHeld => ?_)
              clear hK K
              (try simp only [Act.put, List.setIfInBounds_toArray, List.set_cons_zero, List.set_cons_succ, List.getElem_toArray, List.getElem_cons_zero, List.getElem_cons_succ])
              obtain ⟨X, HX⟩ : ∃ X, Hid (X = (v2).setCells w6.drew.heap.size 0 [.bool true, .int .i64 0, .slice none 0 0, .bool false, .int .i64 z, .bool true, .bool false, .bool false, .int .i64 0]) := ⟨_, rfl⟩
              obtain ⟨tb, htb⟩ : ∃ t, t = w6.heap.size := ⟨_, rfl⟩
              have HTX : Hid (X.heap[tb]? = some (.cells (qdV true 0 (.slice none 0 0) z true false) 63 (0, 0))) := Lib.hid (by rw [HX.out, htb]; exact blk_did htbv _ rfl)
              have HPX : Hid (PQAt W X E pb mb rb bb br N D boot x (k + 1) (P1) sq1 rq1) := Lib.hid (by
                have hxo : Only (fun k => k = w6.drew.heap.size) (v2) X := by rw [HX.out]; exact Only.sets (S := fun k => k = w6.drew.heap.size) rfl _ 0 (Only.refl _ _)
                exact HPV.out.turnQ ((hxo.block pb (Nat.lt_of_lt_of_le hplv hszw) (by have := hplv; omega)).trans (hpb2)) ((hq2).only hxo (fun k _ e => ⟨.inr ⟨by omega, by omega⟩, by have := hszW; omega⟩) (fun k h => .inl (.inl h))) HLB.out.1 HLB.out.2)
              refine wpAnyH_done (by kernel_rfl) ?_ _
              rw [← HX.out]
              simp only [← htb]
              clear HX htb hHeld hth hsd htbv hpbX hq2 ho2 hpb2 hbw2 hat hSn hb1 hbw1 hS hlS
              (try clear hqA hpbA)
              (try clear hz)
              (try clear hs1)
              (try clear hs2)
              (try clear hs3)
              (try clear hs4)
              (try clear hszw)
              generalize (Value.pointer (some ⟨ob, 0, none⟩)) = u75
              revert HTX; revert HPX; revert u75; revert tb; revert X
              exact key.get
              clear HCN HBV hplv hprb hszW HQV HPV HLB hHeld
              intro X tb u75 HPX HTX
              clear HZC
              have t0 : X.cell? ⟨tb, 0, none⟩ = some (.bool true) := cell_blk HTX.out rfl
              have t1 : X.cell? ⟨tb, 1, none⟩ = some (.int .i64 0) := cell_blk HTX.out rfl
              have t4 : X.cell? ⟨tb, 4, none⟩ = some (.int .i64 z) := cell_blk HTX.out rfl
              have t5 : X.cell? ⟨tb, 5, none⟩ = some (.bool true) := cell_blk HTX.out rfl
              go_wp2
              go_meet
              case rel => exact ⟨by trivial, by trivial, HPX.out⟩
            | false =>
              go_wp2
              go_meet
              case rel => exact ⟨by trivial, by trivial, HPA.out⟩
          case rest =>
            clear HPA HQN
            obtain ⟨rfl, rfl, hpa⟩ := hcut
            have HPA := Lib.hid hpa
            clear hpa

            obtain ⟨w8, hw8⟩ : ∃ u, u = wc := ⟨_, rfl⟩
            rw [← hw8] at HPA ⊢
            clear hw8
            go_upto_region 18 with fail
            go_cut [34, 10, 110] from 35 to 150 (fun ix n q wx => ix = .int .i64 k ∧ n = .int .i64 z ∧ q = .bool P1.r.isNone ∧ PQAt W wx E pb mb rb bb br N D boot x (k + 1) P1 sq1 rq1)
            case first =>
              cases hr : P1.r with
              | none =>
                have Hr := Lib.hid hr
                clear hr
                have x9 : w8.cell? ⟨pb, 9, none⟩ = some (.pointer none) := by have q : w8.cell? ⟨pb, 9, none⟩ = some (pqW P1.r rq1) := (cell_blk HPA.out.blk rfl); rw [Hr.out] at q; exact q
                go_wp2
                go_meet
                case rel => exact ⟨by trivial, by trivial, by rw [Hr.out]; rfl, HPA.out⟩
              | some tr =>
                have Hr := Lib.hid hr
                clear hr
                have x9 : w8.cell? ⟨pb, 9, none⟩ = some (.pointer (some ⟨rq1, 0, none⟩)) := by have q : w8.cell? ⟨pb, 9, none⟩ = some (pqW P1.r rq1) := (cell_blk HPA.out.blk rfl); rw [Hr.out] at q; exact q
                go_wp2
                go_meet
                case rel => exact ⟨by trivial, by trivial, by rw [Hr.out]; rfl, HPA.out⟩
            case rest =>
              clear HPA
              obtain ⟨rfl, rfl, rfl, hpa⟩ := hcut
              have HPA := Lib.hid hpa
              clear hpa
              obtain ⟨qn, hqn⟩ : ∃ q, P1.r.isNone = q := ⟨_, rfl⟩
              have HQN := Lib.hid hqn
              rw [hqn]
              clear hqn
              go_upto_if 110 with fail
              obtain ⟨w6, hw6⟩ : ∃ u, u = wc := ⟨_, rfl⟩
              rw [← hw6] at HPA ⊢
              clear hw6
              cases qn with
              | true =>
                have HZC : Hid (cntQ (qr2 N D) P1.head false P1.m = z) := Lib.hid (by have q := HINV1.out.count; have q2 := q.2.2.2.2 (Option.isNone_iff_eq_none.1 HQN.out); rw [HZ.out] at q2; exact q2)
                go_wp2
                have HPV := HPA
                obtain ⟨bsv, hqv, hlv, hbv⟩ := HPV.out.quo
                have HQV := Lib.hid (hqv.only (T := fun _ => False) (Only.refl _ w6).drew (fun _ _ h => h.elim) (E' := E) (fun k h => .inl h))
                have HBV : Hid (w6.drew.heap[pb]? = some (.cells (qpV (x) (mb) (bb) ((pqW P1.s sq1)) ((pqW P1.r rq1)) (P1.tail) (P1.head) (P1.sent) (P1.got) (P1.n) (P1.steps) (P1.own)) 75 (0, 0))) := Lib.hid HPV.out.blk
                have hplv : pb < w6.drew.heap.size := HPV.out.lt
                have hprb : ¬ pb = rb := fun e => by obtain ⟨_, _, _, _, h3, _⟩ := HQV.out.two; exact (h3 pb HPV.out.pe.1).2.2.1 (.inr (.inl e))
                have hszW : W.heap.size ≤ w6.drew.heap.size := HPV.out.below.size
                have hcn := fun (W' : World) (hb : Below w6.drew.heap.size w6.drew W') => newC_b (cfgQ N D boot) x 0 (qr2 N D) P1.head false W' (HPV.out.cfg.later ((HPV.out.below.drew).trans (hb.mono hszW))) HPV.out.wf (cfgQ_few N D boot) HPV.out.qrOf HPV.out.u32.2.2
                obtain ⟨f1, f2, f3, f4, f5, f6⟩ := cfgQ_len N D boot
                simp only [cfgCells, f1, f2, f3, f4, f5, f6] at hcn
                have HCN := Lib.hid hcn; have HLB := Lib.hid (And.intro hlv hbv)
                clear hcn f1 f2 f3 f4 f5 f6 hqv hlv hbv
                refine wp_region_held_drew (S := (fun W' => W'.heap[pb]? = some (.cells (qpV (x) (mb) (bb) ((pqW P1.s sq1)) ((pqW P1.r rq1)) (P1.tail) (P1.head) (P1.sent) (P1.got) (P1.n) (P1.steps) (P1.own)) 75 (0, 0)))) (by kernel_rfl) (by exact HBV.out) (fun hHeld => ?_)
                refine wpAnyH_take (i := 0) rfl (by kernel_rfl) (by kernel_rfl) (by kernel_rfl) (fun _ _ _ h => h) (Or.inl ⟨by rfl, by intro w hSw; (have z0 := cell_blk hSw (i := 0) rfl; have z1 := cell_blk hSw (i := 1) rfl; have z2 := cell_blk hSw (i := 2) rfl; have z3 := cell_blk hSw (i := 3) rfl; have z4 := cell_blk hSw (i := 4) rfl; have z5 := cell_blk hSw (i := 5) rfl; have z6 := cell_blk hSw (i := 6) rfl; have z7 := cell_blk hSw (i := 7) rfl; have z11 := cell_blk hSw (i := 11) rfl; clear hSw); (go_simp <;> with_reducible rfl)⟩) (by assumption) ?_
                (try simp only [Act.put, List.setIfInBounds_toArray, List.set_cons_zero, List.set_cons_succ, List.getElem_toArray, List.getElem_cons_zero, List.getElem_cons_succ])
                refine wpAnyH_take (i := 1) rfl (by kernel_rfl) (by kernel_rfl) (by kernel_rfl) (fun _ _ _ h => h) (Or.inl ⟨by rfl, by intro w hSw; (have z0 := cell_blk hSw (i := 0) rfl; have z1 := cell_blk hSw (i := 1) rfl; have z2 := cell_blk hSw (i := 2) rfl; have z3 := cell_blk hSw (i := 3) rfl; have z4 := cell_blk hSw (i := 4) rfl; have z5 := cell_blk hSw (i := 5) rfl; have z6 := cell_blk hSw (i := 6) rfl; have z7 := cell_blk hSw (i := 7) rfl; have z11 := cell_blk hSw (i := 11) rfl; clear hSw); (go_simp <;> with_reducible rfl)⟩) (by assumption) ?_
                (try simp only [Act.put, List.setIfInBounds_toArray, List.set_cons_zero, List.set_cons_succ, List.getElem_toArray, List.getElem_cons_zero, List.getElem_cons_succ])
                refine wpAnyH_take (i := 2) rfl (by kernel_rfl) (by kernel_rfl) (by kernel_rfl) (fun _ _ _ h => h) (Or.inl ⟨by rfl, by intro w hSw; (have z0 := cell_blk hSw (i := 0) rfl; have z1 := cell_blk hSw (i := 1) rfl; have z2 := cell_blk hSw (i := 2) rfl; have z3 := cell_blk hSw (i := 3) rfl; have z4 := cell_blk hSw (i := 4) rfl; have z5 := cell_blk hSw (i := 5) rfl; have z6 := cell_blk hSw (i := 6) rfl; have z7 := cell_blk hSw (i := 7) rfl; have z11 := cell_blk hSw (i := 11) rfl; clear hSw); (go_simp <;> with_reducible rfl)⟩) (by assumption) ?_
                (try simp only [Act.put, List.setIfInBounds_toArray, List.set_cons_zero, List.set_cons_succ, List.getElem_toArray, List.getElem_cons_zero, List.getElem_cons_succ])
                refine wpAnyH_take (i := 3) rfl (by kernel_rfl) (by kernel_rfl) (by kernel_rfl) (fun _ _ _ h => h) (Or.inl ⟨by rfl, by intro w hSw; (have z0 := cell_blk hSw (i := 0) rfl; have z1 := cell_blk hSw (i := 1) rfl; have z2 := cell_blk hSw (i := 2) rfl; have z3 := cell_blk hSw (i := 3) rfl; have z4 := cell_blk hSw (i := 4) rfl; have z5 := cell_blk hSw (i := 5) rfl; have z6 := cell_blk hSw (i := 6) rfl; have z7 := cell_blk hSw (i := 7) rfl; have z11 := cell_blk hSw (i := 11) rfl; clear hSw); (go_simp <;> with_reducible rfl)⟩) (by assumption) ?_
                (try simp only [Act.put, List.setIfInBounds_toArray, List.set_cons_zero, List.set_cons_succ, List.getElem_toArray, List.getElem_cons_zero, List.getElem_cons_succ])
                refine wpAnyH_take (i := 4) rfl (by kernel_rfl) (by kernel_rfl) (by kernel_rfl) (fun _ _ _ h => h) (Or.inl ⟨by rfl, by intro w hSw; (have z0 := cell_blk hSw (i := 0) rfl; have z1 := cell_blk hSw (i := 1) rfl; have z2 := cell_blk hSw (i := 2) rfl; have z3 := cell_blk hSw (i := 3) rfl; have z4 := cell_blk hSw (i := 4) rfl; have z5 := cell_blk hSw (i := 5) rfl; have z6 := cell_blk hSw (i := 6) rfl; have z7 := cell_blk hSw (i := 7) rfl; have z11 := cell_blk hSw (i := 11) rfl; clear hSw); (go_simp <;> with_reducible rfl)⟩) (by assumption) ?_
                (try simp only [Act.put, List.setIfInBounds_toArray, List.set_cons_zero, List.set_cons_succ, List.getElem_toArray, List.getElem_cons_zero, List.getElem_cons_succ])
                refine wpAnyH_take (i := 5) rfl (by kernel_rfl) (by kernel_rfl) (by kernel_rfl) (fun _ _ _ h => h) (Or.inl ⟨by rfl, by intro w hSw; (have z0 := cell_blk hSw (i := 0) rfl; have z1 := cell_blk hSw (i := 1) rfl; have z2 := cell_blk hSw (i := 2) rfl; have z3 := cell_blk hSw (i := 3) rfl; have z4 := cell_blk hSw (i := 4) rfl; have z5 := cell_blk hSw (i := 5) rfl; have z6 := cell_blk hSw (i := 6) rfl; have z7 := cell_blk hSw (i := 7) rfl; have z11 := cell_blk hSw (i := 11) rfl; clear hSw); (go_simp <;> with_reducible rfl)⟩) (by assumption) ?_
                (try simp only [Act.put, List.setIfInBounds_toArray, List.set_cons_zero, List.set_cons_succ, List.getElem_toArray, List.getElem_cons_zero, List.getElem_cons_succ])
                refine wpAnyH_take (i := 6) rfl (by kernel_rfl) (by kernel_rfl) (by kernel_rfl) (fun _ _ _ h => h) (Or.inl ⟨by rfl, by intro w hSw; (have z0 := cell_blk hSw (i := 0) rfl; have z1 := cell_blk hSw (i := 1) rfl; have z2 := cell_blk hSw (i := 2) rfl; have z3 := cell_blk hSw (i := 3) rfl; have z4 := cell_blk hSw (i := 4) rfl; have z5 := cell_blk hSw (i := 5) rfl; have z6 := cell_blk hSw (i := 6) rfl; have z7 := cell_blk hSw (i := 7) rfl; have z11 := cell_blk hSw (i := 11) rfl; clear hSw); (go_simp <;> with_reducible rfl)⟩) (by assumption) ?_
                (try simp only [Act.put, List.setIfInBounds_toArray, List.set_cons_zero, List.set_cons_succ, List.getElem_toArray, List.getElem_cons_zero, List.getElem_cons_succ])
                refine wpAnyH_take (i := 7) rfl (by kernel_rfl) (by kernel_rfl) (by kernel_rfl) (fun _ _ _ h => h) (Or.inl ⟨by rfl, by intro w hSw; (have z0 := cell_blk hSw (i := 0) rfl; have z1 := cell_blk hSw (i := 1) rfl; have z2 := cell_blk hSw (i := 2) rfl; have z3 := cell_blk hSw (i := 3) rfl; have z4 := cell_blk hSw (i := 4) rfl; have z5 := cell_blk hSw (i := 5) rfl; have z6 := cell_blk hSw (i := 6) rfl; have z7 := cell_blk hSw (i := 7) rfl; have z11 := cell_blk hSw (i := 11) rfl; clear hSw); (go_simp <;> with_reducible rfl)⟩) (by assumption) ?_
                (try simp only [Act.put, List.setIfInBounds_toArray, List.set_cons_zero, List.set_cons_succ, List.getElem_toArray, List.getElem_cons_zero, List.getElem_cons_succ])
                refine wpAnyH_take (i := 9) rfl (by kernel_rfl) (by kernel_rfl) (by kernel_rfl) (fun _ _ _ h => h) (Or.inl ⟨by rfl, by intro w hSw; (have z0 := cell_blk hSw (i := 0) rfl; have z1 := cell_blk hSw (i := 1) rfl; have z2 := cell_blk hSw (i := 2) rfl; have z3 := cell_blk hSw (i := 3) rfl; have z4 := cell_blk hSw (i := 4) rfl; have z5 := cell_blk hSw (i := 5) rfl; have z6 := cell_blk hSw (i := 6) rfl; have z7 := cell_blk hSw (i := 7) rfl; have z11 := cell_blk hSw (i := 11) rfl; clear hSw); (go_simp <;> with_reducible rfl)⟩) (by assumption) ?_
                (try simp only [Act.put, List.setIfInBounds_toArray, List.set_cons_zero, List.set_cons_succ, List.getElem_toArray, List.getElem_cons_zero, List.getElem_cons_succ])
                refine wpAnyH_take (i := 10) rfl (by kernel_rfl) (by kernel_rfl) (by kernel_rfl) (fun _ _ _ h => h) (Or.inl ⟨by rfl, by intro w hSw; (have z0 := cell_blk hSw (i := 0) rfl; have z1 := cell_blk hSw (i := 1) rfl; have z2 := cell_blk hSw (i := 2) rfl; have z3 := cell_blk hSw (i := 3) rfl; have z4 := cell_blk hSw (i := 4) rfl; have z5 := cell_blk hSw (i := 5) rfl; have z6 := cell_blk hSw (i := 6) rfl; have z7 := cell_blk hSw (i := 7) rfl; have z11 := cell_blk hSw (i := 11) rfl; clear hSw); (go_simp <;> with_reducible rfl)⟩) (by assumption) ?_
                (try simp only [Act.put, List.setIfInBounds_toArray, List.set_cons_zero, List.set_cons_succ, List.getElem_toArray, List.getElem_cons_zero, List.getElem_cons_succ])
                refine wpAnyH_take (i := 11) rfl (by kernel_rfl) (by kernel_rfl) (by kernel_rfl) (fun _ _ _ h => h) (Or.inl ⟨by rfl, by intro w hSw; (have z0 := cell_blk hSw (i := 0) rfl; have z1 := cell_blk hSw (i := 1) rfl; have z2 := cell_blk hSw (i := 2) rfl; have z3 := cell_blk hSw (i := 3) rfl; have z4 := cell_blk hSw (i := 4) rfl; have z5 := cell_blk hSw (i := 5) rfl; have z6 := cell_blk hSw (i := 6) rfl; have z7 := cell_blk hSw (i := 7) rfl; have z11 := cell_blk hSw (i := 11) rfl; clear hSw); (go_simp <;> with_reducible rfl)⟩) (by assumption) ?_
                (try simp only [Act.put, List.setIfInBounds_toArray, List.set_cons_zero, List.set_cons_succ, List.getElem_toArray, List.getElem_cons_zero, List.getElem_cons_succ])
                refine wpAnyH_take (i := 12) rfl (by kernel_rfl) (by kernel_rfl) (by kernel_rfl) (fun _ _ _ h => h) (Or.inl ⟨by rfl, by intro w hSw; (have z0 := cell_blk hSw (i := 0) rfl; have z1 := cell_blk hSw (i := 1) rfl; have z2 := cell_blk hSw (i := 2) rfl; have z3 := cell_blk hSw (i := 3) rfl; have z4 := cell_blk hSw (i := 4) rfl; have z5 := cell_blk hSw (i := 5) rfl; have z6 := cell_blk hSw (i := 6) rfl; have z7 := cell_blk hSw (i := 7) rfl; have z11 := cell_blk hSw (i := 11) rfl; clear hSw); (go_simp <;> with_reducible rfl)⟩) (by assumption) ?_
                (try simp only [Act.put, List.setIfInBounds_toArray, List.set_cons_zero, List.set_cons_succ, List.getElem_toArray, List.getElem_cons_zero, List.getElem_cons_succ])
                refine wpAnyH_take (i := 13) rfl (by kernel_rfl) (by kernel_rfl) (by kernel_rfl) (fun _ _ _ h => h) (Or.inl ⟨by rfl, by intro w hSw; (have z0 := cell_blk hSw (i := 0) rfl; have z1 := cell_blk hSw (i := 1) rfl; have z2 := cell_blk hSw (i := 2) rfl; have z3 := cell_blk hSw (i := 3) rfl; have z4 := cell_blk hSw (i := 4) rfl; have z5 := cell_blk hSw (i := 5) rfl; have z6 := cell_blk hSw (i := 6) rfl; have z7 := cell_blk hSw (i := 7) rfl; have z11 := cell_blk hSw (i := 11) rfl; clear hSw); (go_simp <;> with_reducible rfl)⟩) (by assumption) ?_
                (try simp only [Act.put, List.setIfInBounds_toArray, List.set_cons_zero, List.set_cons_succ, List.getElem_toArray, List.getElem_cons_zero, List.getElem_cons_succ])
                refine wpAnyH_take (i := 14) rfl (by kernel_rfl) (by kernel_rfl) (by kernel_rfl) (fun _ _ _ h => h) (Or.inl ⟨by rfl, by intro w hSw; (have z0 := cell_blk hSw (i := 0) rfl; have z1 := cell_blk hSw (i := 1) rfl; have z2 := cell_blk hSw (i := 2) rfl; have z3 := cell_blk hSw (i := 3) rfl; have z4 := cell_blk hSw (i := 4) rfl; have z5 := cell_blk hSw (i := 5) rfl; have z6 := cell_blk hSw (i := 6) rfl; have z7 := cell_blk hSw (i := 7) rfl; have z11 := cell_blk hSw (i := 11) rfl; clear hSw); (go_simp <;> with_reducible rfl)⟩) (by assumption) ?_
                (try simp only [Act.put, List.setIfInBounds_toArray, List.set_cons_zero, List.set_cons_succ, List.getElem_toArray, List.getElem_cons_zero, List.getElem_cons_succ])
                refine wpAnyH_take (i := 15) rfl (by kernel_rfl) (by kernel_rfl) (by kernel_rfl) (fun _ _ _ h => h) (Or.inl ⟨by rfl, by intro w hSw; (have z0 := cell_blk hSw (i := 0) rfl; have z1 := cell_blk hSw (i := 1) rfl; have z2 := cell_blk hSw (i := 2) rfl; have z3 := cell_blk hSw (i := 3) rfl; have z4 := cell_blk hSw (i := 4) rfl; have z5 := cell_blk hSw (i := 5) rfl; have z6 := cell_blk hSw (i := 6) rfl; have z7 := cell_blk hSw (i := 7) rfl; have z11 := cell_blk hSw (i := 11) rfl; clear hSw); (go_simp <;> with_reducible rfl)⟩) (by assumption) ?_
                (try simp only [Act.put, List.setIfInBounds_toArray, List.set_cons_zero, List.set_cons_succ, List.getElem_toArray, List.getElem_cons_zero, List.getElem_cons_succ])
                refine wpAnyH_take (i := 16) rfl (by kernel_rfl) (by kernel_rfl) (by kernel_rfl) (fun _ _ _ h => h) (Or.inl ⟨by rfl, by intro w hSw; (have z0 := cell_blk hSw (i := 0) rfl; have z1 := cell_blk hSw (i := 1) rfl; have z2 := cell_blk hSw (i := 2) rfl; have z3 := cell_blk hSw (i := 3) rfl; have z4 := cell_blk hSw (i := 4) rfl; have z5 := cell_blk hSw (i := 5) rfl; have z6 := cell_blk hSw (i := 6) rfl; have z7 := cell_blk hSw (i := 7) rfl; have z11 := cell_blk hSw (i := 11) rfl; clear hSw); (go_simp <;> with_reducible rfl)⟩) (by assumption) ?_
                (try simp only [Act.put, List.setIfInBounds_toArray, List.set_cons_zero, List.set_cons_succ, List.getElem_toArray, List.getElem_cons_zero, List.getElem_cons_succ])
                apply cut2
                rotate_left
                intro key
                have hHeld := hHeld
                refine wpAnyH_ready (rs := [8, 18]) (by kernel_rfl) (by simp) (AllReadyH.cons rfl (fun K hK => ?_) (AllReadyH.cons rfl (fun K hK => ?_) AllReadyH.nil))
                go_simp
                refine (HCN.out _ (Below.refl w6.drew.heap.size w6.drew)).mono ?_
                rintro e v1 ⟨ob, S, rfl, hat, hSn, hb1⟩
                have hbw1 : Below w6.drew.heap.size w6.drew v1 := (Below.refl w6.drew.heap.size w6.drew).trans (hb1.mono (Below.refl w6.drew.heap.size w6.drew).size)
                have hS : ∀ k, S k → w6.drew.heap.size ≤ k := fun k hk => Nat.le_trans (Below.refl w6.drew.heap.size w6.drew).size (hSn k hk)
                have hlS : ∀ k, S k → k < v1.heap.size := by obtain ⟨_, _, _, _, _, _, _, _, h5, _⟩ := hat; exact h5
                refine hK.out _ _ (by exact (hbw1.block pb hplv).trans HBV.out) (fun hHeld => ?_)
                clear hK K
                (try simp only [Act.put, List.setIfInBounds_toArray, List.set_cons_zero, List.set_cons_succ, List.getElem_toArray, List.getElem_cons_zero, List.getElem_cons_succ])
                refine wpAnyH_ready (rs := [17, 18]) (by kernel_rfl) (by simp) (AllReadyH.cons rfl (fun K hK => ?_) (AllReadyH.cons rfl (fun K hK => ?_) AllReadyH.nil))
                go_simp
                have hbw2 := hbw1
                refine (HQV.out.countS 0 hbw2 (hat) hS).mono ?_
                rintro e v2 ⟨rfl, hq2, ho2⟩
                have hpb2 := (ho2.block pb (Nat.lt_of_lt_of_le hplv hbw2.size) (fun h => h.elim (fun h => by have := hS _ h; omega) hprb)).trans (hbw2.block pb hplv)
                refine hK.out _ _ (by exact hpb2.trans HBV.out) (fun hHeld => ?_)
                clear hK K
                (try simp only [Act.put, List.setIfInBounds_toArray, List.set_cons_zero, List.set_cons_succ, List.getElem_toArray, List.getElem_cons_zero, List.getElem_cons_succ])
                refine wpAnyH_ready (rs := [18]) (by kernel_rfl) (by simp) (AllReadyH.cons rfl (fun K hK => ?_) AllReadyH.nil)
                go_simp
                refine hK.out _ _ (by exact (Below.heap_alloc v2 _ pb (Nat.lt_of_lt_of_le hplv (Nat.le_trans hbw2.size ho2.size))).trans (hpb2.trans HBV.out)) (fun hHeld => ?_)
                clear hK K
                (try simp only [Act.put, List.setIfInBounds_toArray, List.set_cons_zero, List.set_cons_succ, List.getElem_toArray, List.getElem_cons_zero, List.getElem_cons_succ])
                have hs2 := hbw2.size
                have hs3 := ho2.size
                have hz := World.size_alloc v2 (.cells (didV false 0 (.slice none 0 0) false false false 0) 63)
                have hszw : w6.drew.heap.size ≤ (v2.alloc (.cells (didV false 0 (.slice none 0 0) false false false 0) 63)).heap.size := by omega
                have hpbA := (Below.heap_alloc v2 (.cells (didV false 0 (.slice none 0 0) false false false 0) 63) pb (by omega)).trans hpb2
                have hqA := hq2.only (T := fun _ => False) (Only.of_below ((Below.refl v2.heap.size v2).alloc (Nat.le_refl _) (.cells (didV false 0 (.slice none 0 0) false false false 0) 63))) (fun _ _ h => h.elim) (E' := fun k => E k ∨ (w6.drew.heap.size ≤ k ∧ k < (v2.alloc (.cells (didV false 0 (.slice none 0 0) false false false 0) 63)).heap.size)) (fun k h => h.elim (fun h => .inl (.inl h)) (fun h => if hk : k < v2.heap.size then .inl (.inr ⟨h.1, hk⟩) else .inr ⟨by omega, h.2⟩))
                have hpbX : ((v2.alloc (.cells (didV false 0 (.slice none 0 0) false false false 0) 63)).setCells v2.heap.size 0 [.bool true, .int .i64 0, .slice none 0 0, .bool false, .int .i64 z, .bool true, .bool false, .bool false, .int .i64 0]).heap[pb]? = _ := ((Only.sets (S := fun k => k = v2.heap.size) rfl [.bool true, .int .i64 0, .slice none 0 0, .bool false, .int .i64 z, .bool true, .bool false, .bool false, .int .i64 0] 0 (Only.refl _ _)).block pb (by omega) (by omega)).trans (hpbA.trans HBV.out)
                refine wpAnyH_ready (rs := [19]) (by kernel_rfl) (by simp) (AllReadyH.cons rfl (fun K hK => ?_) AllReadyH.nil)
                rw [HZC.out]
                have htbv := show (v2.alloc (.cells (didV false 0 (.slice none 0 0) false false false 0) 63)).heap[v2.heap.size]? = some (.cells (didV false 0 (.slice none 0 0) false false false 0) 63 (0, 0)) from heap_alloc_new v2 _
                have hth := there_at htbv (n := (qdV true 0 (.slice none 0 0) z true false : Array Value).size) rfl
                have hsd : (Tryz.prog.info? 63).map (·.size) = some (qdV true 0 (.slice none 0 0) z true false : Array Value).size := did_size
                rw [if_pos (by rfl)]
                refine wp_store_mid _ _ _ rfl v2.heap.size 0 (qdV true 0 (.slice none 0 0) z true false) rfl rfl hth hsd (by kernel_rfl) ?_
                refine hK.out _ _ (by exact hpbX) (fun hHeld => ?_)
                clear hK K
                (try simp only [Act.put, List.setIfInBounds_toArray, List.set_cons_zero, List.set_cons_succ, List.getElem_toArray, List.getElem_cons_zero, List.getElem_cons_succ])
                obtain ⟨X, HX⟩ : ∃ X, Hid (X = (v2.alloc (.cells (didV false 0 (.slice none 0 0) false false false 0) 63)).setCells v2.heap.size 0 [.bool true, .int .i64 0, .slice none 0 0, .bool false, .int .i64 z, .bool true, .bool false, .bool false, .int .i64 0]) := ⟨_, rfl⟩
                obtain ⟨tb, htb⟩ : ∃ t, t = v2.heap.size := ⟨_, rfl⟩
                have HTX : Hid (X.heap[tb]? = some (.cells (qdV true 0 (.slice none 0 0) z true false) 63 (0, 0))) := Lib.hid (by rw [HX.out, htb]; exact blk_did htbv _ rfl)
                have HPX : Hid (PQAt W X E pb mb rb bb br N D boot x (k + 1) (P1) sq1 rq1) := Lib.hid (by
                  have hxo : Only (fun k => k = v2.heap.size) (v2.alloc (.cells (didV false 0 (.slice none 0 0) false false false 0) 63)) X := by rw [HX.out]; exact Only.sets (S := fun k => k = v2.heap.size) rfl _ 0 (Only.refl _ _)
                  exact HPV.out.turnQ ((hxo.block pb (Nat.lt_of_lt_of_le hplv hszw) (by have := hplv; omega)).trans (hpbA)) ((hqA).only hxo (fun k _ e => ⟨.inr ⟨by omega, by omega⟩, by have := hszW; omega⟩) (fun k h => .inl (.inl h))) HLB.out.1 HLB.out.2)
                refine wpAnyH_done (by kernel_rfl) ?_ _
                rw [← HX.out]
                simp only [← htb]
                clear HX htb hHeld hth hsd htbv hpbX hq2 ho2 hpb2 hbw2 hat hSn hb1 hbw1 hS hlS
                (try clear hqA hpbA)
                (try clear hz)
                (try clear hs1)
                (try clear hs2)
                (try clear hs3)
                (try clear hs4)
                (try clear hszw)
                generalize (Value.pointer (some ⟨ob, 0, none⟩)) = u75
                revert HTX; revert HPX; revert u75; revert tb; revert X
                exact key.get
                go_simp
                refine hK.out _ _ (by exact (Below.heap_alloc v1 _ pb (Nat.lt_of_lt_of_le hplv hbw1.size)).trans ((hbw1.block pb hplv).trans HBV.out)) (fun hHeld => ?_)
                clear hK K
                (try simp only [Act.put, List.setIfInBounds_toArray, List.set_cons_zero, List.set_cons_succ, List.getElem_toArray, List.getElem_cons_zero, List.getElem_cons_succ])
                refine wpAnyH_ready (rs := [17]) (by kernel_rfl) (by simp) (AllReadyH.cons rfl (fun K hK => ?_) AllReadyH.nil)
                go_simp
                have hbw2 := hbw1.trans (((Below.refl v1.heap.size v1).alloc (Nat.le_refl _) (.cells (didV false 0 (.slice none 0 0) false false false 0) 63)).mono hbw1.size)
                refine (HQV.out.countS 0 hbw2 (hat.only (T := fun _ => False) (Only.of_below ((Below.refl v1.heap.size v1).alloc (Nat.le_refl _) (.cells (didV false 0 (.slice none 0 0) false false false 0) 63))) (fun _ _ h => h)) hS).mono ?_
                rintro e v2 ⟨rfl, hq2, ho2⟩
                have hpb2 := (ho2.block pb (Nat.lt_of_lt_of_le hplv hbw2.size) (fun h => h.elim (fun h => by have := hS _ h; omega) hprb)).trans (hbw2.block pb hplv)
                refine hK.out _ _ (by exact hpb2.trans HBV.out) (fun hHeld => ?_)
                clear hK K
                (try simp only [Act.put, List.setIfInBounds_toArray, List.set_cons_zero, List.set_cons_succ, List.getElem_toArray, List.getElem_cons_zero, List.getElem_cons_succ])
                have hs1 := hbw1.size
                have hs2 := hbw2.size
                have hs3 := ho2.size
                have hz := World.size_alloc v1 (.cells (didV false 0 (.slice none 0 0) false false false 0) 63)
                have hszw : w6.drew.heap.size ≤ v2.heap.size := by omega
                have hpbX : (v2.setCells v1.heap.size 0 [.bool true, .int .i64 0, .slice none 0 0, .bool false, .int .i64 z, .bool true, .bool false, .bool false, .int .i64 0]).heap[pb]? = _ := ((Only.sets (S := fun k => k = v1.heap.size) rfl [.bool true, .int .i64 0, .slice none 0 0, .bool false, .int .i64 z, .bool true, .bool false, .bool false, .int .i64 0] 0 (Only.refl _ _)).block pb (by omega) (by omega)).trans (hpb2.trans HBV.out)
                refine wpAnyH_ready (rs := [19]) (by kernel_rfl) (by simp) (AllReadyH.cons rfl (fun K hK => ?_) AllReadyH.nil)
                rw [HZC.out]
                have htbv := (show v2.heap[v1.heap.size]? = some (.cells (didV false 0 (.slice none 0 0) false false false 0) 63 (0, 0)) from ho2.at_ (heap_alloc_new v1 _) (fun h => h.elim (fun h => by have := hlS _ h; omega) (fun e => by have := HQV.out.mem.lt; omega)))
                have hth := there_at htbv (n := (qdV true 0 (.slice none 0 0) z true false : Array Value).size) rfl
                have hsd : (Tryz.prog.info? 63).map (·.size) = some (qdV true 0 (.slice none 0 0) z true false : Array Value).size := did_size
                rw [if_pos (by rfl)]
                refine wp_store_mid _ _ _ rfl v1.heap.size 0 (qdV true 0 (.slice none 0 0) z true false) rfl rfl hth hsd (by kernel_rfl) ?_
                refine hK.out _ _ (by exact hpbX) (fun hHeld => ?_)
                clear hK K
                (try simp only [Act.put, List.setIfInBounds_toArray, List.set_cons_zero, List.set_cons_succ, List.getElem_toArray, List.getElem_cons_zero, List.getElem_cons_succ])
                obtain ⟨X, HX⟩ : ∃ X, Hid (X = (v2).setCells v1.heap.size 0 [.bool true, .int .i64 0, .slice none 0 0, .bool false, .int .i64 z, .bool true, .bool false, .bool false, .int .i64 0]) := ⟨_, rfl⟩
                obtain ⟨tb, htb⟩ : ∃ t, t = v1.heap.size := ⟨_, rfl⟩
                have HTX : Hid (X.heap[tb]? = some (.cells (qdV true 0 (.slice none 0 0) z true false) 63 (0, 0))) := Lib.hid (by rw [HX.out, htb]; exact blk_did htbv _ rfl)
                have HPX : Hid (PQAt W X E pb mb rb bb br N D boot x (k + 1) (P1) sq1 rq1) := Lib.hid (by
                  have hxo : Only (fun k => k = v1.heap.size) (v2) X := by rw [HX.out]; exact Only.sets (S := fun k => k = v1.heap.size) rfl _ 0 (Only.refl _ _)
                  exact HPV.out.turnQ ((hxo.block pb (Nat.lt_of_lt_of_le hplv hszw) (by have := hplv; omega)).trans (hpb2)) ((hq2).only hxo (fun k _ e => ⟨.inr ⟨by omega, by omega⟩, by have := hszW; omega⟩) (fun k h => .inl (.inl h))) HLB.out.1 HLB.out.2)
                refine wpAnyH_done (by kernel_rfl) ?_ _
                rw [← HX.out]
                simp only [← htb]
                clear HX htb hHeld hth hsd htbv hpbX hq2 ho2 hpb2 hbw2 hat hSn hb1 hbw1 hS hlS
                (try clear hqA hpbA)
                (try clear hz)
                (try clear hs1)
                (try clear hs2)
                (try clear hs3)
                (try clear hs4)
                (try clear hszw)
                generalize (Value.pointer (some ⟨ob, 0, none⟩)) = u75
                revert HTX; revert HPX; revert u75; revert tb; revert X
                exact key.get
                go_simp
                refine hK.out _ _ (by exact (Below.heap_alloc w6.drew _ pb hplv).trans HBV.out) (fun hHeld => ?_)
                clear hK K
                (try simp only [Act.put, List.setIfInBounds_toArray, List.set_cons_zero, List.set_cons_succ, List.getElem_toArray, List.getElem_cons_zero, List.getElem_cons_succ])
                refine wpAnyH_ready (rs := [8]) (by kernel_rfl) (by simp) (AllReadyH.cons rfl (fun K hK => ?_) AllReadyH.nil)
                go_simp
                refine (HCN.out _ ((Below.refl w6.drew.heap.size w6.drew).alloc (Nat.le_refl _) (.cells (didV false 0 (.slice none 0 0) false false false 0) 63))).mono ?_
                rintro e v1 ⟨ob, S, rfl, hat, hSn, hb1⟩
                have hbw1 : Below w6.drew.heap.size w6.drew v1 := ((Below.refl w6.drew.heap.size w6.drew).alloc (Nat.le_refl _) (.cells (didV false 0 (.slice none 0 0) false false false 0) 63)).trans (hb1.mono ((Below.refl w6.drew.heap.size w6.drew).alloc (Nat.le_refl _) (.cells (didV false 0 (.slice none 0 0) false false false 0) 63)).size)
                have hS : ∀ k, S k → w6.drew.heap.size ≤ k := fun k hk => Nat.le_trans ((Below.refl w6.drew.heap.size w6.drew).alloc (Nat.le_refl _) (.cells (didV false 0 (.slice none 0 0) false false false 0) 63)).size (hSn k hk)
                have hlS : ∀ k, S k → k < v1.heap.size := by obtain ⟨_, _, _, _, _, _, _, _, h5, _⟩ := hat; exact h5
                refine hK.out _ _ (by exact (hbw1.block pb hplv).trans HBV.out) (fun hHeld => ?_)
                clear hK K
                (try simp only [Act.put, List.setIfInBounds_toArray, List.set_cons_zero, List.set_cons_succ, List.getElem_toArray, List.getElem_cons_zero, List.getElem_cons_succ])
                refine wpAnyH_ready (rs := [17]) (by kernel_rfl) (by simp) (AllReadyH.cons rfl (fun K hK => ?_) AllReadyH.nil)
                go_simp
                have hbw2 := hbw1
                refine (HQV.out.countS 0 hbw2 (hat) hS).mono ?_
                rintro e v2 ⟨rfl, hq2, ho2⟩
                have hpb2 := (ho2.block pb (Nat.lt_of_lt_of_le hplv hbw2.size) (fun h => h.elim (fun h => by have := hS _ h; omega) hprb)).trans (hbw2.block pb hplv)
                refine hK.out _ _ (by exact hpb2.trans HBV.out) (fun hHeld => ?_)
                clear hK K
                (try simp only [Act.put, List.setIfInBounds_toArray, List.set_cons_zero, List.set_cons_succ, List.getElem_toArray, List.getElem_cons_zero, List.getElem_cons_succ])
                have hs1 := hbw1.size
                have hs3 := ho2.size
                have hz := World.size_alloc w6.drew (.cells (didV false 0 (.slice none 0 0) false false false 0) 63)
                have hs4 := hb1.size
                have hszw : w6.drew.heap.size ≤ v2.heap.size := by omega
                have hpbX : (v2.setCells w6.drew.heap.size 0 [.bool true, .int .i64 0, .slice none 0 0, .bool false, .int .i64 z, .bool true, .bool false, .bool false, .int .i64 0]).heap[pb]? = _ := ((Only.sets (S := fun k => k = w6.drew.heap.size) rfl [.bool true, .int .i64 0, .slice none 0 0, .bool false, .int .i64 z, .bool true, .bool false, .bool false, .int .i64 0] 0 (Only.refl _ _)).block pb (by omega) (by omega)).trans (hpb2.trans HBV.out)
                refine wpAnyH_ready (rs := [19]) (by kernel_rfl) (by simp) (AllReadyH.cons rfl (fun K hK => ?_) AllReadyH.nil)
                rw [HZC.out]
                have htbv := (show v2.heap[w6.drew.heap.size]? = some (.cells (didV false 0 (.slice none 0 0) false false false 0) 63 (0, 0)) from ho2.at_ ((hb1.block w6.drew.heap.size (by omega)).trans (heap_alloc_new w6.drew _)) (fun h => h.elim (fun h => by have := hSn _ h; omega) (fun e => by have := HQV.out.mem.lt; omega)))
                have hth := there_at htbv (n := (qdV true 0 (.slice none 0 0) z true false : Array Value).size) rfl
                have hsd : (Tryz.prog.info? 63).map (·.size) = some (qdV true 0 (.slice none 0 0) z true false : Array Value).size := did_size
                rw [if_pos (by rfl)]
                refine wp_store_mid _ _ _ rfl w6.drew.heap.size 0 (qdV true 0 (.slice none 0 0) z true false) rfl rfl hth hsd (by kernel_rfl) ?_
                refine hK.out _ _ (by exact hpbX) (fun hHeld => ?_)
                clear hK K
                (try simp only [Act.put, List.setIfInBounds_toArray, List.set_cons_zero, List.set_cons_succ, List.getElem_toArray, List.getElem_cons_zero, List.getElem_cons_succ])
                obtain ⟨X, HX⟩ : ∃ X, Hid (X = (v2).setCells w6.drew.heap.size 0 [.bool true, .int .i64 0, .slice none 0 0, .bool false, .int .i64 z, .bool true, .bool false, .bool false, .int .i64 0]) := ⟨_, rfl⟩
                obtain ⟨tb, htb⟩ : ∃ t, t = w6.heap.size := ⟨_, rfl⟩
                have HTX : Hid (X.heap[tb]? = some (.cells (qdV true 0 (.slice none 0 0) z true false) 63 (0, 0))) := Lib.hid (by rw [HX.out, htb]; exact blk_did htbv _ rfl)
                have HPX : Hid (PQAt W X E pb mb rb bb br N D boot x (k + 1) (P1) sq1 rq1) := Lib.hid (by
                  have hxo : Only (fun k => k = w6.drew.heap.size) (v2) X := by rw [HX.out]; exact Only.sets (S := fun k => k = w6.drew.heap.size) rfl _ 0 (Only.refl _ _)
                  exact HPV.out.turnQ ((hxo.block pb (Nat.lt_of_lt_of_le hplv hszw) (by have := hplv; omega)).trans (hpb2)) ((hq2).only hxo (fun k _ e => ⟨.inr ⟨by omega, by omega⟩, by have := hszW; omega⟩) (fun k h => .inl (.inl h))) HLB.out.1 HLB.out.2)
                refine wpAnyH_done (by kernel_rfl) ?_ _
                rw [← HX.out]
                simp only [← htb]
                clear HX htb hHeld hth hsd htbv hpbX hq2 ho2 hpb2 hbw2 hat hSn hb1 hbw1 hS hlS
                (try clear hqA hpbA)
                (try clear hz)
                (try clear hs1)
                (try clear hs2)
                (try clear hs3)
                (try clear hs4)
                (try clear hszw)
                generalize (Value.pointer (some ⟨ob, 0, none⟩)) = u75
                revert HTX; revert HPX; revert u75; revert tb; revert X
                exact key.get
                clear HCN HBV hplv hprb hszW HQV HPV HLB hHeld
                intro X tb u75 HPX HTX
                clear HZC
                have t0 : X.cell? ⟨tb, 0, none⟩ = some (.bool true) := cell_blk HTX.out rfl
                have t1 : X.cell? ⟨tb, 1, none⟩ = some (.int .i64 0) := cell_blk HTX.out rfl
                have t4 : X.cell? ⟨tb, 4, none⟩ = some (.int .i64 z) := cell_blk HTX.out rfl
                have t5 : X.cell? ⟨tb, 5, none⟩ = some (.bool true) := cell_blk HTX.out rfl
                go_wp2
                go_roundw
                case rel => exact ⟨k + 1, P1, sq1, rq1, by omega, by go_num, HINV1.out, HPX.out⟩
                case measure => simp [intOf]; omega
              | false =>
                go_wp2
                go_roundw
                case rel => exact ⟨k + 1, P1, sq1, rq1, by omega, by go_num, HINV1.out, HPA.out⟩
                case measure => simp [intOf]; omega

    · have HP := Lib.hid hp
      clear hinv hp
      go_wp2
      go_ret
      exact ⟨rfl, HBW.out.trans (HP.out.below.mono HBW.out.size)⟩
end Go.Proofs.YtfdgokkngejbhaaGreat
