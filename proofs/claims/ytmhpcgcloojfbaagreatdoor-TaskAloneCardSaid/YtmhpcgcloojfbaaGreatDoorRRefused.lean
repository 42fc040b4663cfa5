/- The document's Refused, as a contract. No condition but those in the statements. -/
import Derived.Test.YtmhpcgcloojfbaaGreatDoorRTalk
import Derived.BigQuiet
import Derived.IntWalk
namespace Go.Proofs.YtmhpcgcloojfbaaGreatDoor
open Go.RowKit Go.Sort Go.ChangeShapes Go.WideShapes
set_option linter.unusedVariables false
set_option linter.unusedSimpArgs false

set_option maxRecDepth 100000 in
set_option maxHeartbeats 16000000 in
theorem rrefused_b (c : Cfg) (x : CfgAt) (sp : Int) (sn : Bool) (made : List Int) (ma : Option Addr) (mc : Nat) (va : Option Addr) (vn vc : Nat) (op port ad : Int) (da : Option Addr) (dn dc : Nat) (w : World) (hx : CfgIn w w.heap.size c x) (wx : CfgWf c) (lx : CfgFew c) (hs : SIn w made ma) (hp : (Lit.int .i64 port).wf = true) (had : (Lit.int .u64 ad).wf = true) (hdn : dn ≤ 1000000) :
    Calls Tryz.prog 27 #[.agg (cfgCells c x), .agg #[.int .i64 sp, .bool sn, .slice ma made.length mc, .slice va vn vc], .agg #[.int .i64 op, .int .i64 port, .int .u64 ad, .slice da dn dc]] w fun e w' => e = .returned (.int .i64 (refusedN c sp sn made op port ad dn)) ∧ Below w.heap.size w w' := by
  obtain ⟨Wc, HWc, hBc, hWs, bx⟩ := one_cbox w c x 29
  obtain ⟨pa, pc, ca, cc, aa, ac, ba, bc⟩ := x
  obtain ⟨Ws, HWs, hBs, hWss, sx⟩ := box_new Wc #[.int .i64 sp, .bool sn, .slice ma made.length mc, .slice va vn vc] 32
  obtain ⟨W, HW, hBq, hWq, qx⟩ := box_new Ws #[.int .i64 op, .int .i64 port, .int .u64 ad, .slice da dn dc] 36
  have hcW := hx.later (hBc.trans ((hBs.trans (hBq.mono hBs.size)).mono hBc.size))
  have hsW := hs.later (hBc.trans ((hBs.trans (hBq.mono hBs.size)).mono hBc.size))
  have HB := Lib.hid (hBc.trans ((hBs.trans (hBq.mono hBs.size)).mono hBc.size))
  have BX : ∀ w', Below W.heap.size W w' → Below Wc.heap.size Wc w' := fun w' h => (hBs.trans (hBq.mono hBs.size)).trans (h.mono (Nat.le_trans hBs.size hBq.size))
  have SX : ∀ w', Below W.heap.size W w' → Below Ws.heap.size Ws w' := fun w' h => hBq.trans (h.mono hBq.size)
  obtain ⟨sb, hsb⟩ : ∃ n, n = Wc.heap.size := ⟨_, rfl⟩
  obtain ⟨qb, hqb⟩ : ∃ n, n = Ws.heap.size := ⟨_, rfl⟩
  rw [← hsb] at sx
  rw [← hqb] at qx
  have HSB := Lib.hid hsb; have HQB := Lib.hid hqb
  simp only [cfgCells] at HWc ⊢
  clear hBc hWs hBs hWss hBq hWq hx hs hsb hqb
  have hl := lx.2.1
  have hl1 := lx.1
  obtain ⟨c0, c1, c2, c3, c4, c5⟩ := bx _ (BX _ (Below.refl _ _))
  have s0 : W.cell? ⟨sb, 0, none⟩ = some (.int .i64 sp) := cell_blk (sx _ (SX _ (Below.refl _ _))) rfl
  have s1 : W.cell? ⟨sb, 1, none⟩ = some (.bool sn) := cell_blk (sx _ (SX _ (Below.refl _ _))) rfl
  have s2 : W.cell? ⟨sb, 2, none⟩ = some (.slice ma made.length mc) := cell_blk (sx _ (SX _ (Below.refl _ _))) rfl
  have s3 : W.cell? ⟨sb, 3, none⟩ = some (.slice va vn vc) := cell_blk (sx _ (SX _ (Below.refl _ _))) rfl
  have q0 : W.cell? ⟨qb, 0, none⟩ = some (.int .i64 op) := cell_blk (qx _ (Below.refl _ _)) rfl
  have q1 : W.cell? ⟨qb, 1, none⟩ = some (.int .i64 port) := cell_blk (qx _ (Below.refl _ _)) rfl
  have q2 : W.cell? ⟨qb, 2, none⟩ = some (.int .u64 ad) := cell_blk (qx _ (Below.refl _ _)) rfl
  have q3 : W.cell? ⟨qb, 3, none⟩ = some (.slice da dn dc) := cell_blk (qx _ (Below.refl _ _)) rfl
  have HCW := Lib.hid hcW; have HSW := Lib.hid hsW
  obtain ⟨a, hq⟩ : ∃ a, acceptsB c = a := ⟨_, rfl⟩
  have HQ := Lib.hid hq
  clear hcW hsW hq
  go_enter Tryz.func27, Tryz.ntmps27
  go_wp2_with (first | (rw [← HWc.out]) | (simp only [← HSB.out]; rw [← HWs.out]) | (simp only [← HQB.out]; rw [← HW.out]))
  refine (racc_b c ⟨pa, pc, ca, cc, aa, ac, ba, bc⟩ a W HCW.out wx lx HQ.out).mono ?_
  rintro e w5 ⟨rfl, hb5⟩
  have Hw5 := Lib.hid hb5
  clear hb5
  clear c0 c1 c2 c3 c4 c5 s0 s1 s2 s3 q0 q1 q2 q3
  obtain ⟨c0, c1, c2, c3, c4, c5⟩ := bx _ (BX _ Hw5.out)
  have s0 : w5.cell? ⟨sb, 0, none⟩ = some (.int .i64 sp) := cell_blk (sx _ (SX _ Hw5.out)) rfl
  have s1 : w5.cell? ⟨sb, 1, none⟩ = some (.bool sn) := cell_blk (sx _ (SX _ Hw5.out)) rfl
  have s2 : w5.cell? ⟨sb, 2, none⟩ = some (.slice ma made.length mc) := cell_blk (sx _ (SX _ Hw5.out)) rfl
  have s3 : w5.cell? ⟨sb, 3, none⟩ = some (.slice va vn vc) := cell_blk (sx _ (SX _ Hw5.out)) rfl
  have q0 : w5.cell? ⟨qb, 0, none⟩ = some (.int .i64 op) := cell_blk (qx _ Hw5.out) rfl
  have q1 : w5.cell? ⟨qb, 1, none⟩ = some (.int .i64 port) := cell_blk (qx _ Hw5.out) rfl
  have q2 : w5.cell? ⟨qb, 2, none⟩ = some (.int .u64 ad) := cell_blk (qx _ Hw5.out) rfl
  have q3 : w5.cell? ⟨qb, 3, none⟩ = some (.slice da dn dc) := cell_blk (qx _ Hw5.out) rfl
  cases a with
  | false =>
    have HX := Lib.hid (show refusedN c sp sn made op port ad dn = 4 by exact refused_out (.inl HQ.out))
    go_wp2
    go_ret
    exact ⟨by rw [HX.out]; rfl, HB.out.trans (Hw5.out.mono HB.out.size)⟩
  | true =>
  by_cases p1 : sp < 0
  · have HX := Lib.hid (show refusedN c sp sn made op port ad dn = 4 by exact refused_out (.inr (.inl p1)))
    go_wp2
    go_ret
    exact ⟨by rw [HX.out]; rfl, HB.out.trans (Hw5.out.mono HB.out.size)⟩
  have p1d : decide (sp < 0) = false := decide_eq_false p1
  by_cases p2 : (c.parts.length : Int) ≤ sp
  · have HX := Lib.hid (show refusedN c sp sn made op port ad dn = 4 by exact refused_out (.inr (.inr p2)))
    go_wp2
    go_ret
    exact ⟨by rw [HX.out]; rfl, HB.out.trans (Hw5.out.mono HB.out.size)⟩
  have p2d : decide ((c.parts.length : Int) ≤ sp) = false := decide_eq_false p2
  have HON : Hid (∀ sn op n, refusedN c sp sn made op port ad n = refT c sp sn made op port ad n) := Lib.hid (fun sn op n => refused_on HQ.out p1 p2)
  by_cases o1 : op = 1
  · subst o1
    have hC := rport_b c ⟨pa, pc, ca, cc, aa, ac, ba, bc⟩ port w5 (HCW.out.later Hw5.out) wx lx hp
    obtain ⟨K, hK⟩ : ∃ K, portK c port = K := ⟨_, rfl⟩
    obtain ⟨P, hP⟩ : ∃ P, portP c port = P := ⟨_, rfl⟩
    obtain ⟨S, hS⟩ : ∃ S, portS c port = S := ⟨_, rfl⟩
    obtain ⟨B, hBB⟩ : ∃ B, portB c port = B := ⟨_, rfl⟩
    rw [hK, hP, hS, hBB] at hC
    have HC := Lib.hid hC; have HP := Lib.hid hP; have HBB := Lib.hid hBB
    simp only [cfgCells] at HC
    clear hC hK hP hS hBB
    go_wp2_with fail
    refine HC.out.mono ?_
    rintro e w6 ⟨rfl, hb6⟩
    obtain ⟨V, hV⟩ : ∃ u, Hid (u = w6.alloc (.cells #[.int .i64 K, .int .i64 P, .bool S, .bool B] 90)) := ⟨_, rfl⟩
    have hbV : Below w6.heap.size w6 V := by rw [hV.out]; exact (Below.refl _ _).alloc (Nat.le_refl _) _
    have hxV : V.heap[w6.heap.size]? = some (.cells #[.int .i64 K, .int .i64 P, .bool S, .bool B] 90 (0, 0)) := by rw [hV.out]; exact heap_alloc_new _ _
    have HV := Lib.hid (Hw5.out.trans ((hb6.trans (hbV.mono hb6.size)).mono Hw5.out.size))
    have t1 : V.cell? ⟨w6.heap.size, 1, none⟩ = some (.int .i64 P) := cell_blk hxV rfl
    have t3 : V.cell? ⟨w6.heap.size, 3, none⟩ = some (.bool B) := cell_blk hxV rfl
    clear c0 c1 c2 c3 c4 c5 s0 s1 s2 s3 q0 q1 q2 q3
    obtain ⟨c0, c1, c2, c3, c4, c5⟩ := bx _ (BX _ HV.out)
    have s0 : V.cell? ⟨sb, 0, none⟩ = some (.int .i64 sp) := cell_blk (sx _ (SX _ HV.out)) rfl
    have s1 : V.cell? ⟨sb, 1, none⟩ = some (.bool sn) := cell_blk (sx _ (SX _ HV.out)) rfl
    have s2 : V.cell? ⟨sb, 2, none⟩ = some (.slice ma made.length mc) := cell_blk (sx _ (SX _ HV.out)) rfl
    have s3 : V.cell? ⟨sb, 3, none⟩ = some (.slice va vn vc) := cell_blk (sx _ (SX _ HV.out)) rfl
    have q0 : V.cell? ⟨qb, 0, none⟩ = some (.int .i64 1) := cell_blk (qx _ HV.out) rfl
    have q1 : V.cell? ⟨qb, 1, none⟩ = some (.int .i64 port) := cell_blk (qx _ HV.out) rfl
    have q2 : V.cell? ⟨qb, 2, none⟩ = some (.int .u64 ad) := cell_blk (qx _ HV.out) rfl
    have q3 : V.cell? ⟨qb, 3, none⟩ = some (.slice da dn dc) := cell_blk (qx _ HV.out) rfl
    clear hb6 hbV hxV
    cases B with
    | false =>
      have HX := Lib.hid (show refusedN c sp sn made 1 port ad dn = 4 by rw [HON.out _ _ _]; unfold refT; rw [if_pos rfl, if_pos (.inl HBB.out)])
      go_wp2_with (rw [← hV.out])
      go_ret
      exact ⟨by rw [HX.out]; rfl, HB.out.trans (HV.out.mono HB.out.size)⟩
    | true =>
    by_cases hps : P = sp
    · have hpa : (P != sp) = false := by simp [hps]
      have HPS := Lib.hid (show ¬ (portB c port = false ∨ portP c port ≠ sp) by rw [HBB.out, HP.out]; exact fun h => h.elim (fun e => by cases e) (fun h => h hps))
      obtain ⟨m, hm⟩ : ∃ m, madeB made port = m := ⟨_, rfl⟩
      have HMD := Lib.hid hm
      have hsV := HSW.out.later HV.out
      clear hps hm
      go_wp2_with (rw [← hV.out])
      refine (rmade_is sp sn made ma mc va vn vc port m _ hsV HMD.out).mono ?_
      rintro e w7 ⟨rfl, hb7⟩
      have H7 := Lib.hid (HV.out.trans (hb7.mono HV.out.size))
      clear t1 t3 hb7 hsV
      clear c0 c1 c2 c3 c4 c5 s0 s1 s2 s3 q0 q1 q2 q3
      obtain ⟨c0, c1, c2, c3, c4, c5⟩ := bx _ (BX _ H7.out)
      have s0 : w7.cell? ⟨sb, 0, none⟩ = some (.int .i64 sp) := cell_blk (sx _ (SX _ H7.out)) rfl
      have s1 : w7.cell? ⟨sb, 1, none⟩ = some (.bool sn) := cell_blk (sx _ (SX _ H7.out)) rfl
      have s2 : w7.cell? ⟨sb, 2, none⟩ = some (.slice ma made.length mc) := cell_blk (sx _ (SX _ H7.out)) rfl
      have s3 : w7.cell? ⟨sb, 3, none⟩ = some (.slice va vn vc) := cell_blk (sx _ (SX _ H7.out)) rfl
      have q0 : w7.cell? ⟨qb, 0, none⟩ = some (.int .i64 1) := cell_blk (qx _ H7.out) rfl
      have q1 : w7.cell? ⟨qb, 1, none⟩ = some (.int .i64 port) := cell_blk (qx _ H7.out) rfl
      have q2 : w7.cell? ⟨qb, 2, none⟩ = some (.int .u64 ad) := cell_blk (qx _ H7.out) rfl
      have q3 : w7.cell? ⟨qb, 3, none⟩ = some (.slice da dn dc) := cell_blk (qx _ H7.out) rfl
      cases m with
      | true =>
        have HX := Lib.hid (show refusedN c sp sn made 1 port ad dn = 1 by rw [HON.out _ _ _]; unfold refT; rw [if_pos rfl, if_neg HPS.out, if_pos HMD.out])
        go_wp2
        go_ret
        exact ⟨by rw [HX.out]; rfl, HB.out.trans (H7.out.mono HB.out.size)⟩
      | false =>
      cases sn with
      | true =>
        have HX := Lib.hid (show refusedN c sp true made 1 port ad dn = 5 by rw [HON.out _ _ _]; unfold refT; rw [if_pos rfl, if_neg HPS.out, if_neg (by rw [HMD.out]; decide), if_pos rfl])
        go_wp2
        go_ret
        exact ⟨by rw [HX.out]; rfl, HB.out.trans (H7.out.mono HB.out.size)⟩
      | false =>
        have HX := Lib.hid (show refusedN c sp false made 1 port ad dn = 0 by rw [HON.out _ _ _]; unfold refT; rw [if_pos rfl, if_neg HPS.out, if_neg (by rw [HMD.out]; decide), if_neg (by decide)])
        go_wp2
        go_ret
        exact ⟨by rw [HX.out]; rfl, HB.out.trans (H7.out.mono HB.out.size)⟩
    · have hpa : (P != sp) = true := by simp [hps]
      have HPS := Lib.hid (show portB c port = false ∨ portP c port ≠ sp from .inr (by rw [HP.out]; exact hps))
      clear hps
      have HX := Lib.hid (show refusedN c sp sn made 1 port ad dn = 4 by rw [HON.out _ _ _]; unfold refT; rw [if_pos rfl, if_pos HPS.out])
      go_wp2_with (rw [← hV.out])
      go_ret
      exact ⟨by rw [HX.out]; rfl, HB.out.trans (HV.out.mono HB.out.size)⟩
  have o1a : (op == 1) = false := by simp [o1]
  by_cases o2 : op = 2
  · subst o2
    cases sn with
    | true =>
      have HX := Lib.hid (show refusedN c sp true made 2 port ad dn = 5 by rw [HON.out _ _ _]; unfold refT; rw [if_neg (by decide), if_pos rfl, if_pos rfl])
      go_wp2
      go_ret
      exact ⟨by rw [HX.out]; rfl, HB.out.trans (Hw5.out.mono HB.out.size)⟩
    | false =>
      have HX := Lib.hid (show refusedN c sp false made 2 port ad dn = 0 by rw [HON.out _ _ _]; unfold refT; rw [if_neg (by decide), if_pos rfl, if_neg (by decide)])
      go_wp2
      go_ret
      exact ⟨by rw [HX.out]; rfl, HB.out.trans (Hw5.out.mono HB.out.size)⟩
  have o2a : (op == 2) = false := by simp [o2]
  by_cases o3 : op = 3
  · subst o3
    obtain ⟨z, hz⟩ : ∃ z, talkN c sp sn made 3 port dn = z := ⟨_, rfl⟩
    have HZ := Lib.hid hz
    have hc5 := HCW.out.later Hw5.out
    have hs5 := HSW.out.later Hw5.out
    clear hz
    go_wp2_with fail
    refine (rtalk_is c ⟨pa, pc, ca, cc, aa, ac, ba, bc⟩ sp sn made ma mc va vn vc 3 port ad da dn dc z _ hc5 wx lx hs5 hp (by omega) hdn HZ.out).mono ?_
    rintro e w6 ⟨rfl, hb6⟩
    have H6 := Lib.hid (Hw5.out.trans (hb6.mono Hw5.out.size))
    clear hb6 hc5 hs5
    have HX := Lib.hid (show refusedN c sp sn made 3 port ad dn = z by rw [HON.out _ _ _]; unfold refT; rw [if_neg (by decide), if_neg (by decide), if_pos (by decide)]; exact HZ.out)
    go_wp2
    go_ret
    exact ⟨by rw [HX.out]; rfl, HB.out.trans (H6.out.mono HB.out.size)⟩
  have o3a : (op == 3) = false := by simp [o3]
  by_cases o4 : op = 4
  · subst o4
    obtain ⟨z, hz⟩ : ∃ z, talkN c sp sn made 4 port dn = z := ⟨_, rfl⟩
    have HZ := Lib.hid hz
    have hc5 := HCW.out.later Hw5.out
    have hs5 := HSW.out.later Hw5.out
    clear hz
    go_wp2_with fail
    refine (rtalk_is c ⟨pa, pc, ca, cc, aa, ac, ba, bc⟩ sp sn made ma mc va vn vc 4 port ad da dn dc z _ hc5 wx lx hs5 hp (by omega) hdn HZ.out).mono ?_
    rintro e w6 ⟨rfl, hb6⟩
    have H6 := Lib.hid (Hw5.out.trans (hb6.mono Hw5.out.size))
    clear hb6 hc5 hs5
    have HX := Lib.hid (show refusedN c sp sn made 4 port ad dn = z by rw [HON.out _ _ _]; unfold refT; rw [if_neg (by decide), if_neg (by decide), if_pos (by decide)]; exact HZ.out)
    go_wp2
    go_ret
    exact ⟨by rw [HX.out]; rfl, HB.out.trans (H6.out.mono HB.out.size)⟩
  have o4a : (op == 4) = false := by simp [o4]
  by_cases o5 : op = 5
  · subst o5
    obtain ⟨z, hz⟩ : ∃ z, talkN c sp sn made 5 port dn = z := ⟨_, rfl⟩
    have HZ := Lib.hid hz
    have hc5 := HCW.out.later Hw5.out
    have hs5 := HSW.out.later Hw5.out
    clear hz
    go_wp2_with fail
    refine (rtalk_is c ⟨pa, pc, ca, cc, aa, ac, ba, bc⟩ sp sn made ma mc va vn vc 5 port ad da dn dc z _ hc5 wx lx hs5 hp (by omega) hdn HZ.out).mono ?_
    rintro e w6 ⟨rfl, hb6⟩
    have H6 := Lib.hid (Hw5.out.trans (hb6.mono Hw5.out.size))
    clear hb6 hc5 hs5
    have HX := Lib.hid (show refusedN c sp sn made 5 port ad dn = z by rw [HON.out _ _ _]; unfold refT; rw [if_neg (by decide), if_neg (by decide), if_pos (by decide)]; exact HZ.out)
    go_wp2
    go_ret
    exact ⟨by rw [HX.out]; rfl, HB.out.trans (H6.out.mono HB.out.size)⟩
  have o5a : (op == 5) = false := by simp [o5]
  by_cases o6 : op = 6
  · subst o6
    obtain ⟨z, hz⟩ : ∃ z, talkN c sp sn made 6 port dn = z := ⟨_, rfl⟩
    have HZ := Lib.hid hz
    have hc5 := HCW.out.later Hw5.out
    have hs5 := HSW.out.later Hw5.out
    clear hz
    go_wp2_with fail
    refine (rtalk_is c ⟨pa, pc, ca, cc, aa, ac, ba, bc⟩ sp sn made ma mc va vn vc 6 port ad da dn dc z _ hc5 wx lx hs5 hp (by omega) hdn HZ.out).mono ?_
    rintro e w6 ⟨rfl, hb6⟩
    have H6 := Lib.hid (Hw5.out.trans (hb6.mono Hw5.out.size))
    clear hb6 hc5 hs5
    have HX := Lib.hid (show refusedN c sp sn made 6 port ad dn = z by rw [HON.out _ _ _]; unfold refT; rw [if_neg (by decide), if_neg (by decide), if_pos (by decide)]; exact HZ.out)
    go_wp2
    go_ret
    exact ⟨by rw [HX.out]; rfl, HB.out.trans (H6.out.mono HB.out.size)⟩
  have o6a : (op == 6) = false := by simp [o6]
  by_cases o7 : op = 7
  · subst o7
    obtain ⟨z, hz⟩ : ∃ z, talkN c sp sn made 7 port dn = z := ⟨_, rfl⟩
    have HZ := Lib.hid hz
    have hc5 := HCW.out.later Hw5.out
    have hs5 := HSW.out.later Hw5.out
    clear hz
    go_wp2_with fail
    refine (rtalk_is c ⟨pa, pc, ca, cc, aa, ac, ba, bc⟩ sp sn made ma mc va vn vc 7 port ad da dn dc z _ hc5 wx lx hs5 hp (by omega) hdn HZ.out).mono ?_
    rintro e w6 ⟨rfl, hb6⟩
    have H6 := Lib.hid (Hw5.out.trans (hb6.mono Hw5.out.size))
    clear hb6 hc5 hs5
    have HX := Lib.hid (show refusedN c sp sn made 7 port ad dn = z by rw [HON.out _ _ _]; unfold refT; rw [if_neg (by decide), if_neg (by decide), if_pos (by decide)]; exact HZ.out)
    go_wp2
    go_ret
    exact ⟨by rw [HX.out]; rfl, HB.out.trans (H6.out.mono HB.out.size)⟩
  have o7a : (op == 7) = false := by simp [o7]
  by_cases o8 : op = 8
  · subst o8
    obtain ⟨z, hz⟩ : ∃ z, privB c sp ad = z := ⟨_, rfl⟩
    have HZ := Lib.hid hz
    have hc5 := HCW.out.later Hw5.out
    clear hz
    go_wp2_with fail
    refine (rpriv10_is c ⟨pa, pc, ca, cc, aa, ac, ba, bc⟩ sp ad z _ hc5 wx lx had HZ.out).mono ?_
    rintro e w6 ⟨rfl, hb6⟩
    have H6 := Lib.hid (Hw5.out.trans (hb6.mono Hw5.out.size))
    clear hb6 hc5
    cases z with
    | true =>
      have HX := Lib.hid (show refusedN c sp sn made 8 port ad dn = 0 by rw [HON.out _ _ _]; unfold refT; rw [if_neg (by decide), if_neg (by decide), if_neg (by decide), if_pos (by decide), if_neg (fun h => absurd h.1 (by decide)), if_neg (by rw [HZ.out]; decide)])
      go_wp2
      go_ret
      exact ⟨by rw [HX.out]; rfl, HB.out.trans (H6.out.mono HB.out.size)⟩
    | false =>
      have HX := Lib.hid (show refusedN c sp sn made 8 port ad dn = 6 by rw [HON.out _ _ _]; unfold refT; rw [if_neg (by decide), if_neg (by decide), if_neg (by decide), if_pos (by decide), if_neg (fun h => absurd h.1 (by decide)), if_pos HZ.out])
      go_wp2
      go_ret
      exact ⟨by rw [HX.out]; rfl, HB.out.trans (H6.out.mono HB.out.size)⟩
  have o8a : (op == 8) = false := by simp [o8]
  by_cases o9 : op = 9
  · subst o9
    by_cases hd1 : dn = 1
    · subst hd1
      obtain ⟨z, hz⟩ : ∃ z, privB c sp ad = z := ⟨_, rfl⟩
      have HZ := Lib.hid hz
      have hc5 := HCW.out.later Hw5.out
      clear hz
      go_wp2_with fail
      refine (rpriv10_is c ⟨pa, pc, ca, cc, aa, ac, ba, bc⟩ sp ad z _ hc5 wx lx had HZ.out).mono ?_
      rintro e w6 ⟨rfl, hb6⟩
      have H6 := Lib.hid (Hw5.out.trans (hb6.mono Hw5.out.size))
      clear hb6 hc5
      cases z with
      | true =>
        have HX := Lib.hid (show refusedN c sp sn made 9 port ad 1 = 0 by rw [HON.out _ _ _]; unfold refT; rw [if_neg (by decide), if_neg (by decide), if_neg (by decide), if_pos (by decide), if_neg (fun h => h.2 rfl), if_neg (by rw [HZ.out]; decide)])
        go_wp2
        go_ret
        exact ⟨by rw [HX.out]; rfl, HB.out.trans (H6.out.mono HB.out.size)⟩
      | false =>
        have HX := Lib.hid (show refusedN c sp sn made 9 port ad 1 = 6 by rw [HON.out _ _ _]; unfold refT; rw [if_neg (by decide), if_neg (by decide), if_neg (by decide), if_pos (by decide), if_neg (fun h => h.2 rfl), if_pos HZ.out])
        go_wp2
        go_ret
        exact ⟨by rw [HX.out]; rfl, HB.out.trans (H6.out.mono HB.out.size)⟩
    · have hd1a : ((dn : Int) != 1) = true := by simp; omega
      have HD1 := Lib.hid hd1
      clear hd1
      have HX := Lib.hid (show refusedN c sp sn made 9 port ad dn = 3 by rw [HON.out _ _ _]; unfold refT; rw [if_neg (by decide), if_neg (by decide), if_neg (by decide), if_pos (by decide), if_pos ⟨rfl, HD1.out⟩])
      go_wp2
      go_ret
      exact ⟨by rw [HX.out]; rfl, HB.out.trans (Hw5.out.mono HB.out.size)⟩
  have o9a : (op == 9) = false := by simp [o9]
  have HO := Lib.hid (show ¬ op = 1 ∧ ¬ op = 2 ∧ ¬ (3 ≤ op ∧ op ≤ 7) ∧ ¬ (op = 8 ∨ op = 9) by omega)
  clear o1 o2 o3 o4 o5 o6 o7 o8 o9
  have HX := Lib.hid (show refusedN c sp sn made op port ad dn = 3 by rw [HON.out _ _ _]; unfold refT; rw [if_neg HO.out.1, if_neg HO.out.2.1, if_neg HO.out.2.2.1, if_neg HO.out.2.2.2])
  go_wp2
  go_ret
  exact ⟨by rw [HX.out]; rfl, HB.out.trans (Hw5.out.mono HB.out.size)⟩
end Go.Proofs.YtmhpcgcloojfbaaGreatDoor
