/- SignRefused answers true. No condition but those in the statements. -/
import Derived.Test.YtnemabgenaijhaaDoorSWakes
import Derived.BigQuiet
import Derived.IntWalk
namespace Go.Proofs.YtnemabgenaijhaaDoor
open Go.RowKit Go.Sort Go.ChangeShapes Go.WideShapes
set_option linter.unusedVariables false
set_option linter.unusedSimpArgs false

set_option maxRecDepth 100000 in
set_option maxHeartbeats 8000000 in
theorem lrefused_b (c : Cfg) (x : CfgAt) (sp : Int) (sn : Bool) (made : List Int) (ma : Option Addr) (mc : Nat) (va : Option Addr) (vn vc : Nat) (op port ad : Int) (da : Option Addr) (dn dc : Nat) (w : World) (hT : TabsAt w) (hx : CfgIn w w.heap.size c x) (wx : CfgWf c) (hsp : (Lit.int .i64 sp).wf = true) (hsr : IntRowK .i64 w w.heap.size ma made) (how : (Lit.int .i64 op).wf = true) (hp : (Lit.int .i64 port).wf = true) (had : (Lit.int .u64 ad).wf = true) : Calls Tryd.prog 5 #[.agg (cfgCells c x), .agg #[.int .i64 sp, .bool sn, .slice ma made.length mc, .slice va vn vc], .agg #[.int .i64 op, .int .i64 port, .int .u64 ad, .slice da dn dc]] w fun e w' => e = .returned (.bool true) ∧ Below w.heap.size w w' := by
  obtain ⟨Wc, HWc, hBc, hWs, bx⟩ := one_cbox w c x 35
  obtain ⟨pa, pc, ca, cc, aa, ac, ba, bc⟩ := x
  obtain ⟨Ws, HWs, hBs, hWss, sx⟩ := box_new Wc #[.int .i64 sp, .bool sn, .slice ma made.length mc, .slice va vn vc] 45
  obtain ⟨W, HW, hBq, hWq, qx⟩ := box_new Ws #[.int .i64 op, .int .i64 port, .int .u64 ad, .slice da dn dc] 49
  have hcW := hx.later (hBc.trans ((hBs.trans (hBq.mono hBs.size)).mono hBc.size))
  have hsW := (hsr.below (hBc.trans ((hBs.trans (hBq.mono hBs.size)).mono hBc.size))).more (hBc.trans ((hBs.trans (hBq.mono hBs.size)).mono hBc.size)).size
  have HB := Lib.hid (hBc.trans ((hBs.trans (hBq.mono hBs.size)).mono hBc.size))
  have BX : ∀ w', Below W.heap.size W w' → Below Wc.heap.size Wc w' := fun w' h => (hBs.trans (hBq.mono hBs.size)).trans (h.mono (Nat.le_trans hBs.size hBq.size))
  have SX : ∀ w', Below W.heap.size W w' → Below Ws.heap.size Ws w' := fun w' h => hBq.trans (h.mono hBq.size)
  obtain ⟨sb, hsb⟩ : ∃ n, n = Wc.heap.size := ⟨_, rfl⟩
  obtain ⟨qb, hqb⟩ : ∃ n, n = Ws.heap.size := ⟨_, rfl⟩
  rw [← hsb] at sx
  rw [← hqb] at qx
  have HSB := Lib.hid hsb; have HQB := Lib.hid hqb
  simp only [cfgCells] at HWc ⊢
  clear hBc hWs hBs hWss hBq hWq hx hsr hsb hqb
  obtain ⟨c0, c1, c2, c3, c4, c5⟩ := bx _ (BX _ (Below.refl _ _))
  have s0 : W.cell? ⟨sb, 0, none⟩ = some (.int .i64 sp) := cell_blk (sx _ (SX _ (Below.refl _ _))) rfl
  have s1 : W.cell? ⟨sb, 1, none⟩ = some (.bool sn) := cell_blk (sx _ (SX _ (Below.refl _ _))) rfl
  have s2 : W.cell? ⟨sb, 2, none⟩ = some (.slice ma made.length mc) := cell_blk (sx _ (SX _ (Below.refl _ _))) rfl
  have s3 : W.cell? ⟨sb, 3, none⟩ = some (.slice va vn vc) := cell_blk (sx _ (SX _ (Below.refl _ _))) rfl
  have q0 : W.cell? ⟨qb, 0, none⟩ = some (.int .i64 op) := cell_blk (qx _ (Below.refl _ _)) rfl
  have q1 : W.cell? ⟨qb, 1, none⟩ = some (.int .i64 port) := cell_blk (qx _ (Below.refl _ _)) rfl
  have q2 : W.cell? ⟨qb, 2, none⟩ = some (.int .u64 ad) := cell_blk (qx _ (Below.refl _ _)) rfl
  have q3 : W.cell? ⟨qb, 3, none⟩ = some (.slice da dn dc) := cell_blk (qx _ (Below.refl _ _)) rfl
  have HCW := Lib.hid hcW; have HSR := Lib.hid hsW
  clear hcW hsW
  go_enter Tryd.func5, Tryd.ntmps5
  go_wp2_with (first | (rw [← HWc.out]) | (simp only [← HSB.out]; rw [← HWs.out]) | (simp only [← HQB.out]; rw [← HW.out]))
  refine (wakes10_b W (hT.later HB.out) ).mono ?_
  rintro e w1 ⟨rfl, hb1⟩
  have H1 := Lib.hid hb1
  have HX1 := Lib.hid (HCW.out.later hb1)
  have HS1 := Lib.hid ((HSR.out.below hb1).more hb1.size)
  clear hb1
  clear c0 c1 c2 c3 c4 c5 s0 s1 s2 s3 q0 q1 q2 q3
  obtain ⟨c0, c1, c2, c3, c4, c5⟩ := bx _ (BX _ H1.out)
  have s0 : w1.cell? ⟨sb, 0, none⟩ = some (.int .i64 sp) := cell_blk (sx _ (SX _ H1.out)) rfl
  have s1 : w1.cell? ⟨sb, 1, none⟩ = some (.bool sn) := cell_blk (sx _ (SX _ H1.out)) rfl
  have s2 : w1.cell? ⟨sb, 2, none⟩ = some (.slice ma made.length mc) := cell_blk (sx _ (SX _ H1.out)) rfl
  have s3 : w1.cell? ⟨sb, 3, none⟩ = some (.slice va vn vc) := cell_blk (sx _ (SX _ H1.out)) rfl
  have q0 : w1.cell? ⟨qb, 0, none⟩ = some (.int .i64 op) := cell_blk (qx _ H1.out) rfl
  have q1 : w1.cell? ⟨qb, 1, none⟩ = some (.int .i64 port) := cell_blk (qx _ H1.out) rfl
  have q2 : w1.cell? ⟨qb, 2, none⟩ = some (.int .u64 ad) := cell_blk (qx _ H1.out) rfl
  have q3 : w1.cell? ⟨qb, 3, none⟩ = some (.slice da dn dc) := cell_blk (qx _ H1.out) rfl
  have c0r : ∀ p : Regrown, (grow (redrawn w1 p.d) p.os).cell? ⟨w.heap.size, 0, none⟩ = some (.slice pa c.parts.length pc) := fun p => cell_regrown c0 p.d p.os
  have c1r : ∀ p : Regrown, (grow (redrawn w1 p.d) p.os).cell? ⟨w.heap.size, 1, none⟩ = some (.slice ca c.chans.length cc) := fun p => cell_regrown c1 p.d p.os
  have c2r : ∀ p : Regrown, (grow (redrawn w1 p.d) p.os).cell? ⟨w.heap.size, 2, none⟩ = some (.int .i64 c.len0) := fun p => cell_regrown c2 p.d p.os
  have c3r : ∀ p : Regrown, (grow (redrawn w1 p.d) p.os).cell? ⟨w.heap.size, 3, none⟩ = some (.slice aa c.win0.length ac) := fun p => cell_regrown c3 p.d p.os
  have c4r : ∀ p : Regrown, (grow (redrawn w1 p.d) p.os).cell? ⟨w.heap.size, 4, none⟩ = some (.int .i64 c.len1) := fun p => cell_regrown c4 p.d p.os
  have c5r : ∀ p : Regrown, (grow (redrawn w1 p.d) p.os).cell? ⟨w.heap.size, 5, none⟩ = some (.slice ba c.win1.length bc) := fun p => cell_regrown c5 p.d p.os
  have s0r : ∀ p : Regrown, (grow (redrawn w1 p.d) p.os).cell? ⟨sb, 0, none⟩ = some (.int .i64 sp) := fun p => cell_regrown s0 p.d p.os
  have s1r : ∀ p : Regrown, (grow (redrawn w1 p.d) p.os).cell? ⟨sb, 1, none⟩ = some (.bool sn) := fun p => cell_regrown s1 p.d p.os
  have s2r : ∀ p : Regrown, (grow (redrawn w1 p.d) p.os).cell? ⟨sb, 2, none⟩ = some (.slice ma made.length mc) := fun p => cell_regrown s2 p.d p.os
  have s3r : ∀ p : Regrown, (grow (redrawn w1 p.d) p.os).cell? ⟨sb, 3, none⟩ = some (.slice va vn vc) := fun p => cell_regrown s3 p.d p.os
  have q0r : ∀ p : Regrown, (grow (redrawn w1 p.d) p.os).cell? ⟨qb, 0, none⟩ = some (.int .i64 op) := fun p => cell_regrown q0 p.d p.os
  have q1r : ∀ p : Regrown, (grow (redrawn w1 p.d) p.os).cell? ⟨qb, 1, none⟩ = some (.int .i64 port) := fun p => cell_regrown q1 p.d p.os
  have q2r : ∀ p : Regrown, (grow (redrawn w1 p.d) p.os).cell? ⟨qb, 2, none⟩ = some (.int .u64 ad) := fun p => cell_regrown q2 p.d p.os
  have q3r : ∀ p : Regrown, (grow (redrawn w1 p.d) p.os).cell? ⟨qb, 3, none⟩ = some (.slice da dn dc) := fun p => cell_regrown q3 p.d p.os
  have hbq := Below.refl w1.heap.size w1
  clear c0 c1 c2 c3 c4 c5 s0 s1 s2 s3 q0 q1 q2 q3
  by_cases hg : cfgLe 100 c = true
  · have lx := cfgLe_few hg (by omega)
    have HG := Lib.hid (fun d os => Calls.regrown_of (great_is c ⟨pa, pc, ca, cc, aa, ac, ba, bc⟩ false (grow (redrawn w1 d) os) (by rw [hg]; rfl)))
    simp only [cfgCells] at HG
    clear hg
    by_cases g1 : (60 : Int) < (made.length : Int)
    · go_wp2_with ((first | with_reducible refine wpList_on hbq ?_ | with_reducible refine wp_on hbq (by kernel_rfl) (by kernel_rfl) ?_); (repeat (go_big_quiet_step (first | with_reducible exact HG.out _ _))); with_reducible refine wpQuiet_nil ?_; intro wc hbq)
      go_ret
      exact ⟨by first | rfl | simp, HB.out.trans ((H1.out.trans (hbq.mono H1.out.size)).mono HB.out.size)⟩
    have g1d : decide ((60 : Int) < (made.length : Int)) = false := decide_eq_false g1
    by_cases g2 : (100 : Int) < (dn : Int)
    · go_wp2_with ((first | with_reducible refine wpList_on hbq ?_ | with_reducible refine wp_on hbq (by kernel_rfl) (by kernel_rfl) ?_); (repeat (go_big_quiet_step (first | with_reducible exact HG.out _ _))); with_reducible refine wpQuiet_nil ?_; intro wc hbq)
      go_ret
      exact ⟨by first | rfl | simp, HB.out.trans ((H1.out.trans (hbq.mono H1.out.size)).mono HB.out.size)⟩
    have g2d : decide ((100 : Int) < (dn : Int)) = false := decide_eq_false g2
    obtain ⟨z, hz⟩ : ∃ z, refusedN c sp sn made op port ad dn = z := ⟨_, rfl⟩
    have HP := Lib.hid (fun d os => Calls.regrown_of (prefused_is c ⟨pa, pc, ca, cc, aa, ac, ba, bc⟩ sp sn made ma mc va vn vc op port ad da dn dc z (grow (redrawn w1 d) os) (HX1.out.later (below_regrown w1 d os)) wx lx (SIn.later ⟨HS1.out, by omega⟩ (below_regrown w1 d os)) hp had (by omega) (hT.later (HB.out.trans ((H1.out.trans ((below_regrown w1 d os).mono H1.out.size)).mono HB.out.size))) hz))
    have HR := Lib.hid (fun d os => Calls.regrown_of (rrefused_is c ⟨pa, pc, ca, cc, aa, ac, ba, bc⟩ sp sn made ma mc va vn vc op port ad da dn dc z (grow (redrawn w1 d) os) (HX1.out.later (below_regrown w1 d os)) wx lx (SIn.later ⟨HS1.out, by omega⟩ (below_regrown w1 d os)) hp had (by omega) hz))
    simp only [cfgCells] at HP HR
    clear hz
    go_wp2_with ((first | with_reducible refine wpList_on hbq ?_ | with_reducible refine wp_on hbq (by kernel_rfl) (by kernel_rfl) ?_); (repeat (go_big_quiet_step (first | with_reducible exact HG.out _ _ | with_reducible exact HP.out _ _ | with_reducible exact HR.out _ _))); with_reducible refine wpQuiet_nil ?_; intro wc hbq)
    go_ret
    exact ⟨by first | rfl | simp, HB.out.trans ((H1.out.trans (hbq.mono H1.out.size)).mono HB.out.size)⟩
  · have HG := Lib.hid (fun d os => Calls.regrown_of (great_is c ⟨pa, pc, ca, cc, aa, ac, ba, bc⟩ true (grow (redrawn w1 d) os) (by rw [Bool.not_eq_true] at hg; rw [hg]; rfl)))
    simp only [cfgCells] at HG
    clear hg
    go_wp2_with ((first | with_reducible refine wpList_on hbq ?_ | with_reducible refine wp_on hbq (by kernel_rfl) (by kernel_rfl) ?_); (repeat (go_big_quiet_step (first | with_reducible exact HG.out _ _))); with_reducible refine wpQuiet_nil ?_; intro wc hbq)
    go_ret
    exact ⟨by first | rfl | simp, HB.out.trans ((H1.out.trans (hbq.mono H1.out.size)).mono HB.out.size)⟩
end Go.Proofs.YtnemabgenaijhaaDoor
