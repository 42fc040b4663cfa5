/- SignModes answers true. No condition but those in the statements. -/
import Derived.Test.YtnemabgenaijhaaDoorSWakes
import Derived.BigQuiet
import Derived.IntWalk
namespace Go.Proofs.YtnemabgenaijhaaDoor
open Go.RowKit Go.Sort Go.ChangeShapes Go.WideShapes
set_option linter.unusedVariables false
set_option linter.unusedSimpArgs false

theorem modes_made {c : Cfg} {sp : Int} {made : List Int} {op port ad : Int} {n : Nat} (h : op = 1 ∨ op = 2) : refusedN c sp true made op port ad n ≠ 0 := by
  unfold refusedN
  split
  · decide
  · rcases h with rfl | rfl
    · rw [if_pos rfl]
      split
      · decide
      · split
        · decide
        · decide
    · rw [if_neg (by decide), if_pos rfl]; decide
theorem modes_talk {c : Cfg} {sp : Int} {made : List Int} {op port ad : Int} {n : Nat} (h1 : 3 ≤ op) (h2 : op ≤ 7) : refusedN c sp false made op port ad n ≠ 0 := by
  unfold refusedN
  split
  · decide
  · rw [if_neg (by omega), if_neg (by omega), if_pos ⟨h1, h2⟩]
    unfold talkN
    split
    · decide
    · rw [if_pos rfl]; decide

set_option maxRecDepth 100000 in
set_option maxHeartbeats 8000000 in
theorem lmodes_b (c : Cfg) (x : CfgAt) (sp : Int) (sn : Bool) (made : List Int) (ma : Option Addr) (mc : Nat) (va : Option Addr) (vn vc : Nat) (op port ad : Int) (da : Option Addr) (dn dc : Nat) (w : World) (hT : TabsAt w) (hx : CfgIn w w.heap.size c x) (wx : CfgWf c) (hsp : (Lit.int .i64 sp).wf = true) (hsr : IntRowK .i64 w w.heap.size ma made) (how : (Lit.int .i64 op).wf = true) (hp : (Lit.int .i64 port).wf = true) (had : (Lit.int .u64 ad).wf = true) : Calls Tryd.prog 7 #[.agg (cfgCells c x), .agg #[.int .i64 sp, .bool sn, .slice ma made.length mc, .slice va vn vc], .agg #[.int .i64 op, .int .i64 port, .int .u64 ad, .slice da dn dc]] w fun e w' => e = .returned (.bool true) ∧ Below w.heap.size w w' := by
  obtain ⟨Wc, HWc, hBc, hWs, bx⟩ := one_cbox w c x 35
  obtain ⟨pa, pc, ca, cc, aa, ac, ba, bc⟩ := x
  obtain ⟨Ws, HWs, hBs, hWss, sx⟩ := box_new Wc #[.int .i64 sp, .bool sn, .slice ma made.length mc, .slice va vn vc] 45
  obtain ⟨W, HW, hBq, hWq, qx⟩ := box_new Ws #[.int .i64 op, .int .i64 port, .int .u64 ad, .slice da dn dc] 49
  have hcW := hx.later (hBc.trans ((hBs.trans (hBq.mono hBs.size)).mono hBc.size))
  have hsW := (hsr.below (hBc.trans ((hBs.trans (hBq.mono hBs.size)).mono hBc.size))).more (hBc.trans ((hBs.trans (hBq.mono hBs.size)).mono hBc.size)).size
  have HB := Lib.hid (hBc.trans ((hBs.trans (hBq.mono hBs.size)).mono hBc.size))
  have BX : ∀ w', Below W.heap.size W w' → Below Wc.heap.size Wc w' := fun w' h => (hBs.trans (hBq.mono hBs.size)).trans (h.mono (Nat.le_trans hBs.size hBq.size))
  have SX : ∀ w', Below W.heap.size W w' → Below Ws.heap.size Ws w' := fun w' h => hBq.trans (h.mono hBq.size)
  obtain ⟨sb, hsb⟩ : ∃ n, n = Wc.heap.size := ⟨_, rfl⟩
  obtain ⟨qb, hqb⟩ : ∃ n, n = Ws.heap.size := ⟨_, rfl⟩
  rw [← hsb] at sx
  rw [← hqb] at qx
  have HSB := Lib.hid hsb; have HQB := Lib.hid hqb
  simp only [cfgCells] at HWc ⊢
  clear hBc hWs hBs hWss hBq hWq hx hsr hsb hqb
  obtain ⟨c0, c1, c2, c3, c4, c5⟩ := bx _ (BX _ (Below.refl _ _))
  have s0 : W.cell? ⟨sb, 0, none⟩ = some (.int .i64 sp) := cell_blk (sx _ (SX _ (Below.refl _ _))) rfl
  have s1 : W.cell? ⟨sb, 1, none⟩ = some (.bool sn) := cell_blk (sx _ (SX _ (Below.refl _ _))) rfl
  have s2 : W.cell? ⟨sb, 2, none⟩ = some (.slice ma made.length mc) := cell_blk (sx _ (SX _ (Below.refl _ _))) rfl
  have s3 : W.cell? ⟨sb, 3, none⟩ = some (.slice va vn vc) := cell_blk (sx _ (SX _ (Below.refl _ _))) rfl
  have q0 : W.cell? ⟨qb, 0, none⟩ = some (.int .i64 op) := cell_blk (qx _ (Below.refl _ _)) rfl
  have q1 : W.cell? ⟨qb, 1, none⟩ = some (.int .i64 port) := cell_blk (qx _ (Below.refl _ _)) rfl
  have q2 : W.cell? ⟨qb, 2, none⟩ = some (.int .u64 ad) := cell_blk (qx _ (Below.refl _ _)) rfl
  have q3 : W.cell? ⟨qb, 3, none⟩ = some (.slice da dn dc) := cell_blk (qx _ (Below.refl _ _)) rfl
  have HCW := Lib.hid hcW; have HSR := Lib.hid hsW
  clear hcW hsW
  go_enter Tryd.func7, Tryd.ntmps7
  go_wp2_with (first | (rw [← HWc.out]) | (simp only [← HSB.out]; rw [← HWs.out]) | (simp only [← HQB.out]; rw [← HW.out]))
  refine (wakes10_b W (hT.later HB.out) ).mono ?_
  rintro e w1 ⟨rfl, hb1⟩
  have H1 := Lib.hid hb1
  have HX1 := Lib.hid (HCW.out.later hb1)
  have HS1 := Lib.hid ((HSR.out.below hb1).more hb1.size)
  clear hb1
  clear c0 c1 c2 c3 c4 c5 s0 s1 s2 s3 q0 q1 q2 q3
  obtain ⟨c0, c1, c2, c3, c4, c5⟩ := bx _ (BX _ H1.out)
  have s0 : w1.cell? ⟨sb, 0, none⟩ = some (.int .i64 sp) := cell_blk (sx _ (SX _ H1.out)) rfl
  have s1 : w1.cell? ⟨sb, 1, none⟩ = some (.bool sn) := cell_blk (sx _ (SX _ H1.out)) rfl
  have s2 : w1.cell? ⟨sb, 2, none⟩ = some (.slice ma made.length mc) := cell_blk (sx _ (SX _ H1.out)) rfl
  have s3 : w1.cell? ⟨sb, 3, none⟩ = some (.slice va vn vc) := cell_blk (sx _ (SX _ H1.out)) rfl
  have q0 : w1.cell? ⟨qb, 0, none⟩ = some (.int .i64 op) := cell_blk (qx _ H1.out) rfl
  have q1 : w1.cell? ⟨qb, 1, none⟩ = some (.int .i64 port) := cell_blk (qx _ H1.out) rfl
  have q2 : w1.cell? ⟨qb, 2, none⟩ = some (.int .u64 ad) := cell_blk (qx _ H1.out) rfl
  have q3 : w1.cell? ⟨qb, 3, none⟩ = some (.slice da dn dc) := cell_blk (qx _ H1.out) rfl
  by_cases hg : cfgLe 100 c = true
  · have lx := cfgLe_few hg (by omega)
    have HG := Lib.hid (great_is c ⟨pa, pc, ca, cc, aa, ac, ba, bc⟩ false w1 (by rw [hg]; rfl))
    simp only [cfgCells] at HG
    clear hg
    go_wp2_with fail
    refine HG.out.mono ?_
    rintro e w2 ⟨rfl, hb2⟩
    have H2 := Lib.hid (H1.out.trans (hb2.mono H1.out.size))
    have HX2 := Lib.hid (HX1.out.later hb2)
    have HS2 := Lib.hid ((HS1.out.below hb2).more hb2.size)
    clear hb2
    clear c0 c1 c2 c3 c4 c5 s0 s1 s2 s3 q0 q1 q2 q3
    obtain ⟨c0, c1, c2, c3, c4, c5⟩ := bx _ (BX _ H2.out)
    have s0 : w2.cell? ⟨sb, 0, none⟩ = some (.int .i64 sp) := cell_blk (sx _ (SX _ H2.out)) rfl
    have s1 : w2.cell? ⟨sb, 1, none⟩ = some (.bool sn) := cell_blk (sx _ (SX _ H2.out)) rfl
    have s2 : w2.cell? ⟨sb, 2, none⟩ = some (.slice ma made.length mc) := cell_blk (sx _ (SX _ H2.out)) rfl
    have s3 : w2.cell? ⟨sb, 3, none⟩ = some (.slice va vn vc) := cell_blk (sx _ (SX _ H2.out)) rfl
    have q0 : w2.cell? ⟨qb, 0, none⟩ = some (.int .i64 op) := cell_blk (qx _ H2.out) rfl
    have q1 : w2.cell? ⟨qb, 1, none⟩ = some (.int .i64 port) := cell_blk (qx _ H2.out) rfl
    have q2 : w2.cell? ⟨qb, 2, none⟩ = some (.int .u64 ad) := cell_blk (qx _ H2.out) rfl
    have q3 : w2.cell? ⟨qb, 3, none⟩ = some (.slice da dn dc) := cell_blk (qx _ H2.out) rfl
    by_cases g1 : (60 : Int) < (made.length : Int)
    · go_wp2
      go_ret
      exact ⟨rfl, HB.out.trans (H2.out.mono HB.out.size)⟩
    have g1d : decide ((60 : Int) < (made.length : Int)) = false := decide_eq_false g1
    by_cases g2 : (100 : Int) < (dn : Int)
    · go_wp2
      go_ret
      exact ⟨rfl, HB.out.trans (H2.out.mono HB.out.size)⟩
    have g2d : decide ((100 : Int) < (dn : Int)) = false := decide_eq_false g2
    obtain ⟨z, hz⟩ : ∃ z, refusedN c sp sn made op port ad dn = z := ⟨_, rfl⟩
    have HZ := Lib.hid hz
    have hs2 : SIn w2 made ma := ⟨HS2.out, by omega⟩
    clear hz
    go_wp2_with fail
    refine (prefused_is c ⟨pa, pc, ca, cc, aa, ac, ba, bc⟩ sp sn made ma mc va vn vc op port ad da dn dc z _ HX2.out wx lx hs2 hp had (by omega) (hT.later (HB.out.trans (H2.out.mono HB.out.size))) HZ.out).mono ?_
    rintro e w3 ⟨rfl, hb3⟩
    have H3 := Lib.hid (H2.out.trans (hb3.mono H2.out.size))
    have HX3 := Lib.hid (HX2.out.later hb3)
    have HS3 := Lib.hid (hs2.later hb3)
    clear hb3 hs2
    clear c0 c1 c2 c3 c4 c5 s0 s1 s2 s3 q0 q1 q2 q3
    obtain ⟨c0, c1, c2, c3, c4, c5⟩ := bx _ (BX _ H3.out)
    have s0 : w3.cell? ⟨sb, 0, none⟩ = some (.int .i64 sp) := cell_blk (sx _ (SX _ H3.out)) rfl
    have s1 : w3.cell? ⟨sb, 1, none⟩ = some (.bool sn) := cell_blk (sx _ (SX _ H3.out)) rfl
    have s2 : w3.cell? ⟨sb, 2, none⟩ = some (.slice ma made.length mc) := cell_blk (sx _ (SX _ H3.out)) rfl
    have s3 : w3.cell? ⟨sb, 3, none⟩ = some (.slice va vn vc) := cell_blk (sx _ (SX _ H3.out)) rfl
    have q0 : w3.cell? ⟨qb, 0, none⟩ = some (.int .i64 op) := cell_blk (qx _ H3.out) rfl
    have q1 : w3.cell? ⟨qb, 1, none⟩ = some (.int .i64 port) := cell_blk (qx _ H3.out) rfl
    have q2 : w3.cell? ⟨qb, 2, none⟩ = some (.int .u64 ad) := cell_blk (qx _ H3.out) rfl
    have q3 : w3.cell? ⟨qb, 3, none⟩ = some (.slice da dn dc) := cell_blk (qx _ H3.out) rfl
    cases sn with
    | true =>
      by_cases o1 : op = 1
      · have hzn : (z != 0) = true := by simp; rw [← HZ.out]; exact modes_made (.inl o1)
        subst o1
        go_wp2
        go_ret
        exact ⟨by first | rfl | simp, HB.out.trans (H3.out.mono HB.out.size)⟩
      have o1a : (op != 1) = true := by simp [o1]
      by_cases o2 : op = 2
      · have hzn : (z != 0) = true := by simp; rw [← HZ.out]; exact modes_made (.inr o2)
        subst o2
        go_wp2
        go_ret
        exact ⟨by first | rfl | simp, HB.out.trans (H3.out.mono HB.out.size)⟩
      have o2a : (op != 2) = true := by simp [o2]
      clear o1 o2
      go_wp2
      go_ret
      exact ⟨by first | rfl | simp, HB.out.trans (H3.out.mono HB.out.size)⟩
    | false =>
      by_cases o1 : op < 3
      · go_wp2
        go_ret
        exact ⟨by first | rfl | simp, HB.out.trans (H3.out.mono HB.out.size)⟩
      have o1d : decide (op < 3) = false := decide_eq_false o1
      by_cases o2 : 7 < op
      · go_wp2
        go_ret
        exact ⟨by first | rfl | simp, HB.out.trans (H3.out.mono HB.out.size)⟩
      have o2d : decide (7 < op) = false := decide_eq_false o2
      have hzn : (z != 0) = true := by simp; rw [← HZ.out]; exact modes_talk (by omega) (by omega)
      go_wp2
      go_ret
      exact ⟨by first | rfl | simp, HB.out.trans (H3.out.mono HB.out.size)⟩
  · have HG := Lib.hid (great_is c ⟨pa, pc, ca, cc, aa, ac, ba, bc⟩ true w1 (by rw [Bool.not_eq_true] at hg; rw [hg]; rfl))
    simp only [cfgCells] at HG
    clear hg
    go_wp2_with fail
    refine HG.out.mono ?_
    rintro e w2 ⟨rfl, hb2⟩
    have H2 := Lib.hid (H1.out.trans (hb2.mono H1.out.size))
    have HX2 := Lib.hid (HX1.out.later hb2)
    have HS2 := Lib.hid ((HS1.out.below hb2).more hb2.size)
    clear hb2
    clear c0 c1 c2 c3 c4 c5 s0 s1 s2 s3 q0 q1 q2 q3
    obtain ⟨c0, c1, c2, c3, c4, c5⟩ := bx _ (BX _ H2.out)
    have s0 : w2.cell? ⟨sb, 0, none⟩ = some (.int .i64 sp) := cell_blk (sx _ (SX _ H2.out)) rfl
    have s1 : w2.cell? ⟨sb, 1, none⟩ = some (.bool sn) := cell_blk (sx _ (SX _ H2.out)) rfl
    have s2 : w2.cell? ⟨sb, 2, none⟩ = some (.slice ma made.length mc) := cell_blk (sx _ (SX _ H2.out)) rfl
    have s3 : w2.cell? ⟨sb, 3, none⟩ = some (.slice va vn vc) := cell_blk (sx _ (SX _ H2.out)) rfl
    have q0 : w2.cell? ⟨qb, 0, none⟩ = some (.int .i64 op) := cell_blk (qx _ H2.out) rfl
    have q1 : w2.cell? ⟨qb, 1, none⟩ = some (.int .i64 port) := cell_blk (qx _ H2.out) rfl
    have q2 : w2.cell? ⟨qb, 2, none⟩ = some (.int .u64 ad) := cell_blk (qx _ H2.out) rfl
    have q3 : w2.cell? ⟨qb, 3, none⟩ = some (.slice da dn dc) := cell_blk (qx _ H2.out) rfl
    go_wp2
    go_ret
    exact ⟨rfl, HB.out.trans (H2.out.mono HB.out.size)⟩
end Go.Proofs.YtnemabgenaijhaaDoor
