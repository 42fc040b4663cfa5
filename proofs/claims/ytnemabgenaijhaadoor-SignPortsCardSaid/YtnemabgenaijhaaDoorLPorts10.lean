/- SignPorts answers true. No condition but those in the statements. -/
import Derived.Test.YtnemabgenaijhaaDoorSWakes
import Derived.BigQuiet
import Derived.IntWalk
namespace Go.Proofs.YtnemabgenaijhaaDoor
open Go.RowKit Go.Sort Go.ChangeShapes Go.WideShapes
set_option linter.unusedVariables false
set_option linter.unusedSimpArgs false

set_option maxRecDepth 100000 in
set_option maxHeartbeats 1600000 in
theorem lports_b (c : Cfg) (x : CfgAt) (port : Int) (w : World) (hT : TabsAt w) (hx : CfgIn w w.heap.size c x) (wx : CfgWf c) (hp : (Lit.int .i64 port).wf = true) : Calls Tryd.prog 4 #[.agg (cfgCells c x), .int .i64 port] w fun e w' => e = .returned (.bool true) ∧ Below w.heap.size w w' := by
  obtain ⟨W, HW, hB, hWs, bx⟩ := one_cbox w c x 35
  have hxW := hx.later hB
  have HB := Lib.hid hB
  obtain ⟨c0, c1, c2, c3, c4, c5⟩ := bx _ (Below.refl _ _)
  simp only [cfgCells] at HW ⊢
  clear hx hB hWs
  go_enter Tryd.func4, Tryd.ntmps4
  go_wp2_with (first | (rw [← HW.out]) | fail)
  refine (wakes10_b W (hT.later HB.out) ).mono ?_
  rintro e w1 ⟨rfl, hb1⟩
  have H1 := Lib.hid hb1
  have HX1 := Lib.hid (hxW.later hb1)
  clear c0 c1 c2 c3 c4 c5 hb1 hxW
  obtain ⟨c0, c1, c2, c3, c4, c5⟩ := bx _ H1.out
  by_cases hg : cfgLe 100 c = true
  · have lx := cfgLe_few hg (by omega)
    have HG := Lib.hid (great_is c x false w1 (by rw [hg]; rfl))
    simp only [cfgCells] at HG
    clear hg
    obtain ⟨K, hK⟩ : ∃ K, portK c port = K := ⟨_, rfl⟩
    obtain ⟨P, hP⟩ : ∃ P, portP c port = P := ⟨_, rfl⟩
    obtain ⟨S, hS⟩ : ∃ S, portS c port = S := ⟨_, rfl⟩
    obtain ⟨B, hBB⟩ : ∃ B, portB c port = B := ⟨_, rfl⟩
    have HH := Lib.hid (And.intro hK (And.intro hP (And.intro hS hBB)))
    clear hK hP hS hBB
    go_wp2_with fail
    refine HG.out.mono ?_
    rintro e w2 ⟨rfl, hb2⟩
    have H2 := Lib.hid (H1.out.trans (hb2.mono H1.out.size))
    have HX2 := Lib.hid (HX1.out.later hb2)
    clear c0 c1 c2 c3 c4 c5 hb2
    obtain ⟨c0, c1, c2, c3, c4, c5⟩ := bx _ H2.out
    go_wp2_with fail
    refine (pport_is c x port K P S B w2 HX2.out wx lx hp HH.out).mono ?_
    rintro e w3 ⟨rfl, hb3⟩
    have H3 := Lib.hid (H2.out.trans (hb3.mono H2.out.size))
    have HX3 := Lib.hid (HX2.out.later hb3)
    clear c0 c1 c2 c3 c4 c5 hb3
    obtain ⟨c0, c1, c2, c3, c4, c5⟩ := bx _ H3.out
    go_wp2_with fail
    refine (rport_is c x port K P S B w3 HX3.out wx lx hp HH.out).mono ?_
    rintro e w4 ⟨rfl, hb4⟩
    have H4 := Lib.hid (H3.out.trans ((hb4.alloc hb4.size (.cells #[.int .i64 K, .int .i64 P, .bool S, .bool B] 40)).mono H3.out.size))
    clear c0 c1 c2 c3 c4 c5 hb4
    go_wp2
    go_ret
    exact ⟨by first | rfl | simp, HB.out.trans (H4.out.mono HB.out.size)⟩
  · have HG := Lib.hid (great_is c x true w1 (by rw [Bool.not_eq_true] at hg; rw [hg]; rfl))
    simp only [cfgCells] at HG
    clear hg
    go_wp2_with fail
    refine HG.out.mono ?_
    rintro e w2 ⟨rfl, hb2⟩
    have H2 := Lib.hid (H1.out.trans (hb2.mono H1.out.size))
    clear hb2
    go_wp2
    go_ret
    exact ⟨rfl, HB.out.trans (H2.out.mono HB.out.size)⟩
end Go.Proofs.YtnemabgenaijhaaDoor
