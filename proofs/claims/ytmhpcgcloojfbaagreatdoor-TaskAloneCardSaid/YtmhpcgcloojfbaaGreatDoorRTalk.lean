/- The document's talk, as a contract. No condition but those in the statements. -/
import Derived.Test.YtmhpcgcloojfbaaGreatDoorRows10
import Derived.BigQuiet
import Derived.IntWalk
namespace Go.Proofs.YtmhpcgcloojfbaaGreatDoor
open Go.RowKit Go.Sort Go.ChangeShapes Go.WideShapes
set_option linter.unusedVariables false
set_option linter.unusedSimpArgs false

set_option maxRecDepth 100000 in
set_option maxHeartbeats 4000000 in
theorem rtalk_b (c : Cfg) (x : CfgAt) (sp : Int) (sn : Bool) (made : List Int) (ma : Option Addr) (mc : Nat) (va : Option Addr) (vn vc : Nat) (op port ad : Int) (da : Option Addr) (dn dc : Nat) (w : World) (hx : CfgIn w w.heap.size c x) (wx : CfgWf c) (lx : CfgFew c) (hs : SIn w made ma) (hp : (Lit.int .i64 port).wf = true) (hop : 3 ≤ op ∧ op ≤ 7) (hdn : dn ≤ 1000000) :
    Calls Tryz.prog 48 #[.agg (cfgCells c x), .agg #[.int .i64 sp, .bool sn, .slice ma made.length mc, .slice va vn vc], .agg #[.int .i64 op, .int .i64 port, .int .u64 ad, .slice da dn dc]] w fun e w' => e = .returned (.int .i64 (talkN c sp sn made op port dn)) ∧ Below w.heap.size w w' := by
  obtain ⟨Wc, HWc, hBc, hWs, bx⟩ := one_cbox w c x 29
  obtain ⟨pa, pc, ca, cc, aa, ac, ba, bc⟩ := x
  obtain ⟨Ws, HWs, hBs, hWss, sx⟩ := box_new Wc #[.int .i64 sp, .bool sn, .slice ma made.length mc, .slice va vn vc] 32
  obtain ⟨W, HW, hBq, hWq, qx⟩ := box_new Ws #[.int .i64 op, .int .i64 port, .int .u64 ad, .slice da dn dc] 36
  have hcW := hx.later (hBc.trans ((hBs.trans (hBq.mono hBs.size)).mono hBc.size))
  have hsW := hs.later (hBc.trans ((hBs.trans (hBq.mono hBs.size)).mono hBc.size))
  have HB := Lib.hid (hBc.trans ((hBs.trans (hBq.mono hBs.size)).mono hBc.size))
  have BX : ∀ w', Below W.heap.size W w' → Below Wc.heap.size Wc w' := fun w' h => (hBs.trans (hBq.mono hBs.size)).trans (h.mono (Nat.le_trans hBs.size hBq.size))
  have SX : ∀ w', Below W.heap.size W w' → Below Ws.heap.size Ws w' := fun w' h => hBq.trans (h.mono hBq.size)
  obtain ⟨sb, hsb⟩ : ∃ n, n = Wc.heap.size := ⟨_, rfl⟩
  obtain ⟨qb, hqb⟩ : ∃ n, n = Ws.heap.size := ⟨_, rfl⟩
  rw [← hsb] at sx
  rw [← hqb] at qx
  have HSB := Lib.hid hsb; have HQB := Lib.hid hqb
  simp only [cfgCells] at HWc ⊢
  clear hBc hWs hBs hWss hBq hWq hx hs hsb hqb
  have hl := lx.2.1
  obtain ⟨c0, c1, c2, c3, c4, c5⟩ := bx _ (BX _ (Below.refl _ _))
  have s0 : W.cell? ⟨sb, 0, none⟩ = some (.int .i64 sp) := cell_blk (sx _ (SX _ (Below.refl _ _))) rfl
  have s1 : W.cell? ⟨sb, 1, none⟩ = some (.bool sn) := cell_blk (sx _ (SX _ (Below.refl _ _))) rfl
  have s2 : W.cell? ⟨sb, 2, none⟩ = some (.slice ma made.length mc) := cell_blk (sx _ (SX _ (Below.refl _ _))) rfl
  have s3 : W.cell? ⟨sb, 3, none⟩ = some (.slice va vn vc) := cell_blk (sx _ (SX _ (Below.refl _ _))) rfl
  have q0 : W.cell? ⟨qb, 0, none⟩ = some (.int .i64 op) := cell_blk (qx _ (Below.refl _ _)) rfl
  have q1 : W.cell? ⟨qb, 1, none⟩ = some (.int .i64 port) := cell_blk (qx _ (Below.refl _ _)) rfl
  have q2 : W.cell? ⟨qb, 2, none⟩ = some (.int .u64 ad) := cell_blk (qx _ (Below.refl _ _)) rfl
  have q3 : W.cell? ⟨qb, 3, none⟩ = some (.slice da dn dc) := cell_blk (qx _ (Below.refl _ _)) rfl
  have hC := rport_b c ⟨pa, pc, ca, cc, aa, ac, ba, bc⟩ port W hcW wx lx hp
  obtain ⟨K, hK⟩ : ∃ K, portK c port = K := ⟨_, rfl⟩
  obtain ⟨P, hP⟩ : ∃ P, portP c port = P := ⟨_, rfl⟩
  obtain ⟨S, hS⟩ : ∃ S, portS c port = S := ⟨_, rfl⟩
  obtain ⟨B, hBB⟩ : ∃ B, portB c port = B := ⟨_, rfl⟩
  rw [hK, hP, hS, hBB] at hC
  have HCW := Lib.hid hcW; have HSW := Lib.hid hsW
  have HC := Lib.hid hC; have HK := Lib.hid hK; have HP := Lib.hid hP; have HS := Lib.hid hS; have HBB := Lib.hid hBB
  simp only [cfgCells] at HC
  clear hC hK hP hS hBB hcW hsW
  go_enter Tryz.func48, Tryz.ntmps48
  go_wp2_with (first | (rw [← HWc.out]) | (simp only [← HSB.out]; rw [← HWs.out]) | (simp only [← HQB.out]; rw [← HW.out]))
  refine HC.out.mono ?_
  rintro e w5 ⟨rfl, hb5⟩
  obtain ⟨V, hV⟩ : ∃ u, Hid (u = w5.alloc (.cells #[.int .i64 K, .int .i64 P, .bool S, .bool B] 90)) := ⟨_, rfl⟩
  have hbV : Below w5.heap.size w5 V := by rw [hV.out]; exact (Below.refl _ _).alloc (Nat.le_refl _) _
  have hxV : V.heap[w5.heap.size]? = some (.cells #[.int .i64 K, .int .i64 P, .bool S, .bool B] 90 (0, 0)) := by rw [hV.out]; exact heap_alloc_new _ _
  have HV := Lib.hid (hb5.trans (hbV.mono hb5.size))
  have HXV := Lib.hid hxV
  have hlv := (Array.getElem?_eq_some_iff.1 hxV).1
  have t0 : V.cell? ⟨w5.heap.size, 0, none⟩ = some (.int .i64 K) := cell_blk hxV rfl
  have t1 : V.cell? ⟨w5.heap.size, 1, none⟩ = some (.int .i64 P) := cell_blk hxV rfl
  have t2 : V.cell? ⟨w5.heap.size, 2, none⟩ = some (.bool S) := cell_blk hxV rfl
  have t3 : V.cell? ⟨w5.heap.size, 3, none⟩ = some (.bool B) := cell_blk hxV rfl
  clear c0 c1 c2 c3 c4 c5 s0 s1 s2 s3 q0 q1 q2 q3
  obtain ⟨c0, c1, c2, c3, c4, c5⟩ := bx _ (BX _ HV.out)
  have s0 : V.cell? ⟨sb, 0, none⟩ = some (.int .i64 sp) := cell_blk (sx _ (SX _ HV.out)) rfl
  have s1 : V.cell? ⟨sb, 1, none⟩ = some (.bool sn) := cell_blk (sx _ (SX _ HV.out)) rfl
  have s2 : V.cell? ⟨sb, 2, none⟩ = some (.slice ma made.length mc) := cell_blk (sx _ (SX _ HV.out)) rfl
  have s3 : V.cell? ⟨sb, 3, none⟩ = some (.slice va vn vc) := cell_blk (sx _ (SX _ HV.out)) rfl
  have q0 : V.cell? ⟨qb, 0, none⟩ = some (.int .i64 op) := cell_blk (qx _ HV.out) rfl
  have q1 : V.cell? ⟨qb, 1, none⟩ = some (.int .i64 port) := cell_blk (qx _ HV.out) rfl
  have q2 : V.cell? ⟨qb, 2, none⟩ = some (.int .u64 ad) := cell_blk (qx _ HV.out) rfl
  have q3 : V.cell? ⟨qb, 3, none⟩ = some (.slice da dn dc) := cell_blk (qx _ HV.out) rfl
  clear hb5 hbV hxV
  cases B with
  | false =>
    have HX := Lib.hid (show talkN c sp sn made op port dn = 3 from talk_no (by unfold hasB; rw [HBB.out]; rfl))
    go_wp2_with (rw [← hV.out])
    go_ret
    exact ⟨by rw [HX.out]; rfl, HB.out.trans (HV.out.mono HB.out.size)⟩
  | true =>
  by_cases hps : P = sp
  · have hpa : (P != sp) = false := by simp [hps]
    obtain ⟨m, hm⟩ : ∃ m, madeB made port = m := ⟨_, rfl⟩
    have HMD := Lib.hid hm
    have HH := Lib.hid (show hasB c sp made port = m by unfold hasB; rw [HBB.out, HP.out, decide_eq_true hps, hm]; rfl)
    have hsV := HSW.out.later HV.out
    clear hps hm
    go_wp2_with (rw [← hV.out])
    refine (rmade_is sp sn made ma mc va vn vc port m _ hsV HMD.out).mono ?_
    rintro e w6 ⟨rfl, hb6⟩
    have HX6 := Lib.hid ((hb6.block _ hlv).trans HXV.out)
    have H6 := Lib.hid (HV.out.trans (hb6.mono HV.out.size))
    clear t0 t1 t2 t3 hb6 hsV
    clear c0 c1 c2 c3 c4 c5 s0 s1 s2 s3 q0 q1 q2 q3
    obtain ⟨c0, c1, c2, c3, c4, c5⟩ := bx _ (BX _ H6.out)
    have s0 : w6.cell? ⟨sb, 0, none⟩ = some (.int .i64 sp) := cell_blk (sx _ (SX _ H6.out)) rfl
    have s1 : w6.cell? ⟨sb, 1, none⟩ = some (.bool sn) := cell_blk (sx _ (SX _ H6.out)) rfl
    have s2 : w6.cell? ⟨sb, 2, none⟩ = some (.slice ma made.length mc) := cell_blk (sx _ (SX _ H6.out)) rfl
    have s3 : w6.cell? ⟨sb, 3, none⟩ = some (.slice va vn vc) := cell_blk (sx _ (SX _ H6.out)) rfl
    have q0 : w6.cell? ⟨qb, 0, none⟩ = some (.int .i64 op) := cell_blk (qx _ H6.out) rfl
    have q1 : w6.cell? ⟨qb, 1, none⟩ = some (.int .i64 port) := cell_blk (qx _ H6.out) rfl
    have q2 : w6.cell? ⟨qb, 2, none⟩ = some (.int .u64 ad) := cell_blk (qx _ H6.out) rfl
    have q3 : w6.cell? ⟨qb, 3, none⟩ = some (.slice da dn dc) := cell_blk (qx _ H6.out) rfl
    have t0 : w6.cell? ⟨w5.heap.size, 0, none⟩ = some (.int .i64 K) := cell_blk HX6.out rfl
    have t2 : w6.cell? ⟨w5.heap.size, 2, none⟩ = some (.bool S) := cell_blk HX6.out rfl
    cases m with
    | false =>
      have HX := Lib.hid (show talkN c sp sn made op port dn = 3 from talk_no HH.out)
      go_wp2
      go_ret
      exact ⟨by rw [HX.out]; rfl, HB.out.trans (H6.out.mono HB.out.size)⟩
    | true =>
    cases sn with
    | false =>
      have HX := Lib.hid (show talkN c sp false made op port dn = 5 from talk_mode HH.out)
      go_wp2
      go_ret
      exact ⟨by rw [HX.out]; rfl, HB.out.trans (H6.out.mono HB.out.size)⟩
    | true =>
    obtain ⟨k, hk, hkK⟩ := portK_of HBB.out
    have hKk : K = (k : Int) := HK.out.symm.trans hkK
    subst hKk
    obtain ⟨b, o, x0, x1, x2, x3, x4, x5, x6, e0, _, e1, _, k0⟩ := HCW.out.rc.at7 wx.wc hk
    cases e0
    have hac := (accd_of (port_of HBB.out).1).chan k hk
    rw [row_at e1] at hac
    obtain ⟨hkind, hx3a, hx3b, -⟩ : (x0 = 1 ∨ x0 = 2) ∧ 1 ≤ x3 ∧ x3 ≤ 16 ∧ True := ⟨hac.1, hac.2.1, hac.2.2.1, trivial⟩
    have HT := Lib.hid (show talkN c sp true made op port dn = talkT x0 S x3 op dn by rw [talk_on HH.out hkK e1, HS.out])
    have k1 := k0 _ H6.out
    obtain ⟨y0, y1, y2, y3, y4, y5, y6⟩ := k1
    have g1 : (0 : Int) ≤ (k : Int) := by omega
    have g2 : (k : Int) < (c.chans.length : Int) := by omega
    have hbq := Below.refl w6.heap.size w6
    have c1r : ∀ p : Regrown, (grow (redrawn w6 p.d) p.os).cell? ⟨w.heap.size, 1, none⟩ = some (.slice (some ⟨b, o, none⟩) c.chans.length cc) := fun p => cell_regrown c1 p.d p.os
    have q0r : ∀ p : Regrown, (grow (redrawn w6 p.d) p.os).cell? ⟨qb, 0, none⟩ = some (.int .i64 op) := fun p => cell_regrown q0 p.d p.os
    have q3r : ∀ p : Regrown, (grow (redrawn w6 p.d) p.os).cell? ⟨qb, 3, none⟩ = some (.slice da dn dc) := fun p => cell_regrown q3 p.d p.os
    have t0r : ∀ p : Regrown, (grow (redrawn w6 p.d) p.os).cell? ⟨w5.heap.size, 0, none⟩ = some (.int .i64 (k : Int)) := fun p => cell_regrown t0 p.d p.os
    have t2r : ∀ p : Regrown, (grow (redrawn w6 p.d) p.os).cell? ⟨w5.heap.size, 2, none⟩ = some (.bool S) := fun p => cell_regrown t2 p.d p.os
    have y0r : ∀ p : Regrown, (grow (redrawn w6 p.d) p.os).cell? ⟨b, o + k * 7, none⟩ = some (.int .i64 x0) := fun p => cell_regrown y0 p.d p.os
    have y3r : ∀ p : Regrown, (grow (redrawn w6 p.d) p.os).cell? ⟨b, o + k * 7 + 3, none⟩ = some (.int .i64 x3) := fun p => cell_regrown y3 p.d p.os
    have s1r : ∀ p : Regrown, (grow (redrawn w6 p.d) p.os).cell? ⟨sb, 1, none⟩ = some (.bool true) := fun p => cell_regrown s1 p.d p.os
    have hop' : op = 3 ∨ op = 4 ∨ op = 5 ∨ op = 6 ∨ op = 7 := by omega
    clear k0 e1 hac hop
    rcases hop' with rfl | rfl | rfl | rfl | rfl
    · cases S with
      | false =>
        rcases hkind with rfl | rfl
        · have HX := Lib.hid (show talkN c sp true made _ port dn = 5 by rw [HT.out]; unfold talkT; rw [if_pos (by decide)])
          go_wp2_with ((first | with_reducible refine wpList_on hbq ?_ | with_reducible refine wp_on hbq (by kernel_rfl) (by kernel_rfl) ?_); (repeat (go_big_quiet_step (fail))); with_reducible refine wpQuiet_nil ?_; intro wc hbq)
          go_ret
          exact ⟨by rw [HX.out]; rfl, HB.out.trans ((H6.out.trans (hbq.mono H6.out.size)).mono HB.out.size)⟩
        · have HX := Lib.hid (show talkN c sp true made _ port dn = 5 by rw [HT.out]; unfold talkT; rw [if_pos (by decide)])
          go_wp2_with ((first | with_reducible refine wpList_on hbq ?_ | with_reducible refine wp_on hbq (by kernel_rfl) (by kernel_rfl) ?_); (repeat (go_big_quiet_step (fail))); with_reducible refine wpQuiet_nil ?_; intro wc hbq)
          go_ret
          exact ⟨by rw [HX.out]; rfl, HB.out.trans ((H6.out.trans (hbq.mono H6.out.size)).mono HB.out.size)⟩
      | true =>
        rcases hkind with rfl | rfl
        · by_cases h0 : dn = 0
          · subst h0
            have HX := Lib.hid (show talkN c sp true made _ port 0 = 3 by rw [HT.out]; unfold talkT; rw [if_neg (by decide), if_pos ⟨by omega, rfl⟩])
            go_wp2_with ((first | with_reducible refine wpList_on hbq ?_ | with_reducible refine wp_on hbq (by kernel_rfl) (by kernel_rfl) ?_); (repeat (go_big_quiet_step (fail))); with_reducible refine wpQuiet_nil ?_; intro wc hbq)
            go_ret
            exact ⟨by rw [HX.out]; rfl, HB.out.trans ((H6.out.trans (hbq.mono H6.out.size)).mono HB.out.size)⟩
          · have h0a : ((dn : Int) == 0) = false := by simp [h0]
            by_cases h1 : x3 < (dn : Int)
            · have HX := Lib.hid (show talkN c sp true made _ port dn = 4 by rw [HT.out]; unfold talkT; rw [if_neg (by decide), if_neg (fun h => h0 h.2), if_pos ⟨by omega, h1⟩])
              go_wp2_with ((first | with_reducible refine wpList_on hbq ?_ | with_reducible refine wp_on hbq (by kernel_rfl) (by kernel_rfl) ?_); (repeat (go_big_quiet_step (fail))); with_reducible refine wpQuiet_nil ?_; intro wc hbq)
              go_ret
              exact ⟨by rw [HX.out]; rfl, HB.out.trans ((H6.out.trans (hbq.mono H6.out.size)).mono HB.out.size)⟩
            · have h1d : decide (x3 < (dn : Int)) = false := decide_eq_false h1
              have HX := Lib.hid (show talkN c sp true made _ port dn = 0 by rw [HT.out]; unfold talkT; rw [if_neg (by decide), if_neg (fun h => h0 h.2), if_neg (fun h => h1 h.2)])
              go_wp2_with ((first | with_reducible refine wpList_on hbq ?_ | with_reducible refine wp_on hbq (by kernel_rfl) (by kernel_rfl) ?_); (repeat (go_big_quiet_step (fail))); with_reducible refine wpQuiet_nil ?_; intro wc hbq)
              go_ret
              exact ⟨by rw [HX.out]; rfl, HB.out.trans ((H6.out.trans (hbq.mono H6.out.size)).mono HB.out.size)⟩
        · have HX := Lib.hid (show talkN c sp true made _ port dn = 5 by rw [HT.out]; unfold talkT; rw [if_pos (by decide)])
          go_wp2_with ((first | with_reducible refine wpList_on hbq ?_ | with_reducible refine wp_on hbq (by kernel_rfl) (by kernel_rfl) ?_); (repeat (go_big_quiet_step (fail))); with_reducible refine wpQuiet_nil ?_; intro wc hbq)
          go_ret
          exact ⟨by rw [HX.out]; rfl, HB.out.trans ((H6.out.trans (hbq.mono H6.out.size)).mono HB.out.size)⟩
    · cases S with
      | false =>
        rcases hkind with rfl | rfl
        · have HX := Lib.hid (show talkN c sp true made _ port dn = 0 by rw [HT.out]; unfold talkT; rw [if_neg (by decide), if_neg (fun h => by omega), if_neg (fun h => by omega)])
          go_wp2_with ((first | with_reducible refine wpList_on hbq ?_ | with_reducible refine wp_on hbq (by kernel_rfl) (by kernel_rfl) ?_); (repeat (go_big_quiet_step (fail))); with_reducible refine wpQuiet_nil ?_; intro wc hbq)
          go_ret
          exact ⟨by rw [HX.out]; rfl, HB.out.trans ((H6.out.trans (hbq.mono H6.out.size)).mono HB.out.size)⟩
        · have HX := Lib.hid (show talkN c sp true made _ port dn = 5 by rw [HT.out]; unfold talkT; rw [if_pos (by decide)])
          go_wp2_with ((first | with_reducible refine wpList_on hbq ?_ | with_reducible refine wp_on hbq (by kernel_rfl) (by kernel_rfl) ?_); (repeat (go_big_quiet_step (fail))); with_reducible refine wpQuiet_nil ?_; intro wc hbq)
          go_ret
          exact ⟨by rw [HX.out]; rfl, HB.out.trans ((H6.out.trans (hbq.mono H6.out.size)).mono HB.out.size)⟩
      | true =>
        rcases hkind with rfl | rfl
        · have HX := Lib.hid (show talkN c sp true made _ port dn = 5 by rw [HT.out]; unfold talkT; rw [if_pos (by decide)])
          go_wp2_with ((first | with_reducible refine wpList_on hbq ?_ | with_reducible refine wp_on hbq (by kernel_rfl) (by kernel_rfl) ?_); (repeat (go_big_quiet_step (fail))); with_reducible refine wpQuiet_nil ?_; intro wc hbq)
          go_ret
          exact ⟨by rw [HX.out]; rfl, HB.out.trans ((H6.out.trans (hbq.mono H6.out.size)).mono HB.out.size)⟩
        · have HX := Lib.hid (show talkN c sp true made _ port dn = 5 by rw [HT.out]; unfold talkT; rw [if_pos (by decide)])
          go_wp2_with ((first | with_reducible refine wpList_on hbq ?_ | with_reducible refine wp_on hbq (by kernel_rfl) (by kernel_rfl) ?_); (repeat (go_big_quiet_step (fail))); with_reducible refine wpQuiet_nil ?_; intro wc hbq)
          go_ret
          exact ⟨by rw [HX.out]; rfl, HB.out.trans ((H6.out.trans (hbq.mono H6.out.size)).mono HB.out.size)⟩
    · cases S with
      | false =>
        rcases hkind with rfl | rfl
        · have HX := Lib.hid (show talkN c sp true made _ port dn = 5 by rw [HT.out]; unfold talkT; rw [if_pos (by decide)])
          go_wp2_with ((first | with_reducible refine wpList_on hbq ?_ | with_reducible refine wp_on hbq (by kernel_rfl) (by kernel_rfl) ?_); (repeat (go_big_quiet_step (fail))); with_reducible refine wpQuiet_nil ?_; intro wc hbq)
          go_ret
          exact ⟨by rw [HX.out]; rfl, HB.out.trans ((H6.out.trans (hbq.mono H6.out.size)).mono HB.out.size)⟩
        · have HX := Lib.hid (show talkN c sp true made _ port dn = 5 by rw [HT.out]; unfold talkT; rw [if_pos (by decide)])
          go_wp2_with ((first | with_reducible refine wpList_on hbq ?_ | with_reducible refine wp_on hbq (by kernel_rfl) (by kernel_rfl) ?_); (repeat (go_big_quiet_step (fail))); with_reducible refine wpQuiet_nil ?_; intro wc hbq)
          go_ret
          exact ⟨by rw [HX.out]; rfl, HB.out.trans ((H6.out.trans (hbq.mono H6.out.size)).mono HB.out.size)⟩
      | true =>
        rcases hkind with rfl | rfl
        · have HX := Lib.hid (show talkN c sp true made _ port dn = 5 by rw [HT.out]; unfold talkT; rw [if_pos (by decide)])
          go_wp2_with ((first | with_reducible refine wpList_on hbq ?_ | with_reducible refine wp_on hbq (by kernel_rfl) (by kernel_rfl) ?_); (repeat (go_big_quiet_step (fail))); with_reducible refine wpQuiet_nil ?_; intro wc hbq)
          go_ret
          exact ⟨by rw [HX.out]; rfl, HB.out.trans ((H6.out.trans (hbq.mono H6.out.size)).mono HB.out.size)⟩
        · by_cases h0 : dn = 0
          · subst h0
            have HX := Lib.hid (show talkN c sp true made _ port 0 = 3 by rw [HT.out]; unfold talkT; rw [if_neg (by decide), if_pos ⟨by omega, rfl⟩])
            go_wp2_with ((first | with_reducible refine wpList_on hbq ?_ | with_reducible refine wp_on hbq (by kernel_rfl) (by kernel_rfl) ?_); (repeat (go_big_quiet_step (fail))); with_reducible refine wpQuiet_nil ?_; intro wc hbq)
            go_ret
            exact ⟨by rw [HX.out]; rfl, HB.out.trans ((H6.out.trans (hbq.mono H6.out.size)).mono HB.out.size)⟩
          · have h0a : ((dn : Int) == 0) = false := by simp [h0]
            by_cases h1 : x3 < (dn : Int)
            · have HX := Lib.hid (show talkN c sp true made _ port dn = 4 by rw [HT.out]; unfold talkT; rw [if_neg (by decide), if_neg (fun h => h0 h.2), if_pos ⟨by omega, h1⟩])
              go_wp2_with ((first | with_reducible refine wpList_on hbq ?_ | with_reducible refine wp_on hbq (by kernel_rfl) (by kernel_rfl) ?_); (repeat (go_big_quiet_step (fail))); with_reducible refine wpQuiet_nil ?_; intro wc hbq)
              go_ret
              exact ⟨by rw [HX.out]; rfl, HB.out.trans ((H6.out.trans (hbq.mono H6.out.size)).mono HB.out.size)⟩
            · have h1d : decide (x3 < (dn : Int)) = false := decide_eq_false h1
              have HX := Lib.hid (show talkN c sp true made _ port dn = 0 by rw [HT.out]; unfold talkT; rw [if_neg (by decide), if_neg (fun h => h0 h.2), if_neg (fun h => h1 h.2)])
              go_wp2_with ((first | with_reducible refine wpList_on hbq ?_ | with_reducible refine wp_on hbq (by kernel_rfl) (by kernel_rfl) ?_); (repeat (go_big_quiet_step (fail))); with_reducible refine wpQuiet_nil ?_; intro wc hbq)
              go_ret
              exact ⟨by rw [HX.out]; rfl, HB.out.trans ((H6.out.trans (hbq.mono H6.out.size)).mono HB.out.size)⟩
    · cases S with
      | false =>
        rcases hkind with rfl | rfl
        · have HX := Lib.hid (show talkN c sp true made _ port dn = 5 by rw [HT.out]; unfold talkT; rw [if_pos (by decide)])
          go_wp2_with ((first | with_reducible refine wpList_on hbq ?_ | with_reducible refine wp_on hbq (by kernel_rfl) (by kernel_rfl) ?_); (repeat (go_big_quiet_step (fail))); with_reducible refine wpQuiet_nil ?_; intro wc hbq)
          go_ret
          exact ⟨by rw [HX.out]; rfl, HB.out.trans ((H6.out.trans (hbq.mono H6.out.size)).mono HB.out.size)⟩
        · have HX := Lib.hid (show talkN c sp true made _ port dn = 0 by rw [HT.out]; unfold talkT; rw [if_neg (by decide), if_neg (fun h => by omega), if_neg (fun h => by omega)])
          go_wp2_with ((first | with_reducible refine wpList_on hbq ?_ | with_reducible refine wp_on hbq (by kernel_rfl) (by kernel_rfl) ?_); (repeat (go_big_quiet_step (fail))); with_reducible refine wpQuiet_nil ?_; intro wc hbq)
          go_ret
          exact ⟨by rw [HX.out]; rfl, HB.out.trans ((H6.out.trans (hbq.mono H6.out.size)).mono HB.out.size)⟩
      | true =>
        rcases hkind with rfl | rfl
        · have HX := Lib.hid (show talkN c sp true made _ port dn = 5 by rw [HT.out]; unfold talkT; rw [if_pos (by decide)])
          go_wp2_with ((first | with_reducible refine wpList_on hbq ?_ | with_reducible refine wp_on hbq (by kernel_rfl) (by kernel_rfl) ?_); (repeat (go_big_quiet_step (fail))); with_reducible refine wpQuiet_nil ?_; intro wc hbq)
          go_ret
          exact ⟨by rw [HX.out]; rfl, HB.out.trans ((H6.out.trans (hbq.mono H6.out.size)).mono HB.out.size)⟩
        · have HX := Lib.hid (show talkN c sp true made _ port dn = 5 by rw [HT.out]; unfold talkT; rw [if_pos (by decide)])
          go_wp2_with ((first | with_reducible refine wpList_on hbq ?_ | with_reducible refine wp_on hbq (by kernel_rfl) (by kernel_rfl) ?_); (repeat (go_big_quiet_step (fail))); with_reducible refine wpQuiet_nil ?_; intro wc hbq)
          go_ret
          exact ⟨by rw [HX.out]; rfl, HB.out.trans ((H6.out.trans (hbq.mono H6.out.size)).mono HB.out.size)⟩
    · cases S with
      | false =>
        rcases hkind with rfl | rfl
        · have HX := Lib.hid (show talkN c sp true made _ port dn = 0 by rw [HT.out]; unfold talkT; rw [if_neg (by decide), if_neg (fun h => by omega), if_neg (fun h => by omega)])
          go_wp2_with ((first | with_reducible refine wpList_on hbq ?_ | with_reducible refine wp_on hbq (by kernel_rfl) (by kernel_rfl) ?_); (repeat (go_big_quiet_step (fail))); with_reducible refine wpQuiet_nil ?_; intro wc hbq)
          go_ret
          exact ⟨by rw [HX.out]; rfl, HB.out.trans ((H6.out.trans (hbq.mono H6.out.size)).mono HB.out.size)⟩
        · have HX := Lib.hid (show talkN c sp true made _ port dn = 0 by rw [HT.out]; unfold talkT; rw [if_neg (by decide), if_neg (fun h => by omega), if_neg (fun h => by omega)])
          go_wp2_with ((first | with_reducible refine wpList_on hbq ?_ | with_reducible refine wp_on hbq (by kernel_rfl) (by kernel_rfl) ?_); (repeat (go_big_quiet_step (fail))); with_reducible refine wpQuiet_nil ?_; intro wc hbq)
          go_ret
          exact ⟨by rw [HX.out]; rfl, HB.out.trans ((H6.out.trans (hbq.mono H6.out.size)).mono HB.out.size)⟩
      | true =>
        rcases hkind with rfl | rfl
        · have HX := Lib.hid (show talkN c sp true made _ port dn = 0 by rw [HT.out]; unfold talkT; rw [if_neg (by decide), if_neg (fun h => by omega), if_neg (fun h => by omega)])
          go_wp2_with ((first | with_reducible refine wpList_on hbq ?_ | with_reducible refine wp_on hbq (by kernel_rfl) (by kernel_rfl) ?_); (repeat (go_big_quiet_step (fail))); with_reducible refine wpQuiet_nil ?_; intro wc hbq)
          go_ret
          exact ⟨by rw [HX.out]; rfl, HB.out.trans ((H6.out.trans (hbq.mono H6.out.size)).mono HB.out.size)⟩
        · have HX := Lib.hid (show talkN c sp true made _ port dn = 0 by rw [HT.out]; unfold talkT; rw [if_neg (by decide), if_neg (fun h => by omega), if_neg (fun h => by omega)])
          go_wp2_with ((first | with_reducible refine wpList_on hbq ?_ | with_reducible refine wp_on hbq (by kernel_rfl) (by kernel_rfl) ?_); (repeat (go_big_quiet_step (fail))); with_reducible refine wpQuiet_nil ?_; intro wc hbq)
          go_ret
          exact ⟨by rw [HX.out]; rfl, HB.out.trans ((H6.out.trans (hbq.mono H6.out.size)).mono HB.out.size)⟩
  · have hpa : (P != sp) = true := by simp [hps]
    have HH := Lib.hid (show hasB c sp made port = false by unfold hasB; rw [HP.out, decide_eq_false hps, Bool.false_and, Bool.and_false])
    clear hps
    have HX := Lib.hid (show talkN c sp sn made op port dn = 3 from talk_no HH.out)
    go_wp2_with (rw [← hV.out])
    go_ret
    exact ⟨by rw [HX.out]; rfl, HB.out.trans (HV.out.mono HB.out.size)⟩
theorem rtalk_is (c : Cfg) (x : CfgAt) (sp : Int) (sn : Bool) (made : List Int) (ma : Option Addr) (mc : Nat) (va : Option Addr) (vn vc : Nat) (op port ad : Int) (da : Option Addr) (dn dc : Nat) (z : Int) (w : World) (hx : CfgIn w w.heap.size c x) (wx : CfgWf c) (lx : CfgFew c) (hs : SIn w made ma) (hp : (Lit.int .i64 port).wf = true) (hop : 3 ≤ op ∧ op ≤ 7) (hdn : dn ≤ 1000000) (h : talkN c sp sn made op port dn = z) :
    Calls Tryz.prog 48 #[.agg (cfgCells c x), .agg #[.int .i64 sp, .bool sn, .slice ma made.length mc, .slice va vn vc], .agg #[.int .i64 op, .int .i64 port, .int .u64 ad, .slice da dn dc]] w fun e w' => e = .returned (.int .i64 z) ∧ Below w.heap.size w w' := by subst h; exact rtalk_b c x sp sn made ma mc va vn vc op port ad da dn dc w hx wx lx hs hp hop hdn
end Go.Proofs.YtmhpcgcloojfbaaGreatDoor
