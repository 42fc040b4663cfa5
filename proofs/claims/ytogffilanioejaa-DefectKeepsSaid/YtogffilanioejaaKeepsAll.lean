/- DefectKeeps answers true. No condition but those in the statements. -/
import Derived.Test.YtogffilanioejaaLKeeps
import Derived.BigQuiet
namespace Go.Proofs.Ytogffilanioejaa
open Go.RowKit Go.Sort Go.ChangeShapes Go.WideShapes
set_option linter.unusedVariables false
set_option linter.unusedSimpArgs false

set_option maxRecDepth 100000 in
set_option maxHeartbeats 2000000 in
theorem keeps_great (c : Cfg) (x : CfgAt) (w : World) (hx : CfgIn w w.heap.size c x) (wx : CfgWf c) (hg : (!cfgLe 100 c) = true) : Calls Try.prog 4 #[.agg (cfgCells c x)] w fun e w' => e = .returned (.bool true) ∧ Below w.heap.size w w' := by
  obtain ⟨W, HW, hB, -, bx⟩ := one_cbox w c x 29
  have hx := hx.later hB
  have HB := Lib.hid hB
  simp only [cfgCells]
  clear hB
  go_enter Try.func4, Try.ntmps4
  go_wp2_with (rw [← HW.out])
  refine (wakes_b _).mono ?_
  rintro e w1 ⟨rfl, hb1⟩
  obtain ⟨c0, c1, c2, c3, c4, c5⟩ := bx _ hb1
  go_wp2_with fail
  refine (great_is c x true w1 hg).mono ?_
  rintro e w2 ⟨rfl, hb2⟩
  have hb2 := hb1.trans (hb2.mono hb1.size)
  clear c0 c1 c2 c3 c4 c5 hb1
  have HF := Lib.hid (HB.out.trans (hb2.mono HB.out.size))
  go_wp2
  go_ret
  exact ⟨rfl, HF.out⟩

set_option maxRecDepth 100000 in
set_option maxHeartbeats 2000000 in
theorem keeps_not (c : Cfg) (x : CfgAt) (w : World) (hx : CfgIn w w.heap.size c x) (wx : CfgWf c) (hg : (!cfgLe 100 c) = false) (lx : CfgFew c) (ha : acceptsP c = false) : Calls Try.prog 4 #[.agg (cfgCells c x)] w fun e w' => e = .returned (.bool true) ∧ Below w.heap.size w w' := by
  obtain ⟨W, HW, hB, -, bx⟩ := one_cbox w c x 29
  have hx := hx.later hB
  have HB := Lib.hid hB
  simp only [cfgCells]
  clear hB
  go_enter Try.func4, Try.ntmps4
  go_wp2_with (rw [← HW.out])
  refine (wakes_b _).mono ?_
  rintro e w1 ⟨rfl, hb1⟩
  obtain ⟨c0, c1, c2, c3, c4, c5⟩ := bx _ hb1
  go_wp2_with fail
  refine (great_is c x false w1 hg).mono ?_
  rintro e w2 ⟨rfl, hb2⟩
  have hb2 := hb1.trans (hb2.mono hb1.size)
  clear c0 c1 c2 c3 c4 c5 hb1
  obtain ⟨c0, c1, c2, c3, c4, c5⟩ := bx _ hb2
  go_wp2_with fail
  refine (accepts_b c x false w2 (hx.later hb2) wx lx ha).mono ?_
  rintro e w3 ⟨rfl, hb3⟩
  have HF := Lib.hid (HB.out.trans ((hb2.trans (hb3.mono hb2.size)).mono HB.out.size))
  clear c0 c1 c2 c3 c4 c5 hb2 hb3
  go_wp2
  go_ret
  exact ⟨rfl, HF.out⟩

theorem keeps_all (c : Cfg) (x : CfgAt) (w : World) (hx : CfgIn w w.heap.size c x) (wx : CfgWf c) : Calls Try.prog 4 #[.agg (cfgCells c x)] w fun e w' => e = .returned (.bool true) ∧ Below w.heap.size w w' := by
  cases hg : cfgLe 100 c with
  | false => exact keeps_great c x w hx wx (by rw [hg]; rfl)
  | true =>
    have lx := cfgLe_few hg (by omega)
    cases ha : acceptsP c with
    | false => exact keeps_not c x w hx wx (by rw [hg]; rfl) lx ha
    | true =>
      obtain ⟨parts, chans, len0, win0, len1, win1⟩ := c
      obtain ⟨pa, pc, ca, cc, aa, ac, ba, bc⟩ := x
      exact keeps_plain parts chans len0 win0 len1 win1 pa pc ca cc aa ac ba bc w hx.rp wx.wp lx.1 hx.rc wx.wc lx.2.1 hx.ra wx.wa lx.2.2.1 hx.rb wx.wb lx.2.2.2 wx.w0 wx.w1 hx.lp hx.lc hx.la hx.lb hg ha
end Go.Proofs.Ytogffilanioejaa
