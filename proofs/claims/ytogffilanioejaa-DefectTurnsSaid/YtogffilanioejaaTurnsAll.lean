/- DefectTurns answers true. No condition but those in the statements. -/
import Derived.Test.YtogffilanioejaaLTurns
import Derived.BigQuiet
import Derived.OpenShut
namespace Go.Proofs.Ytogffilanioejaa
open Go.RowKit Go.Sort Go.ChangeShapes Go.WideShapes
set_option linter.unusedVariables false
set_option linter.unusedSimpArgs false

set_option maxRecDepth 100000 in
set_option maxHeartbeats 2000000 in
theorem turns_great (c : Cfg) (x : CfgAt) (q : Int) (w : World) (hg : (!cfgLe 100 c) = true) : Calls Try.prog 6 #[.agg (cfgCells c x), .int .u8 q] w fun e w' => e = .returned (.bool true) ∧ Below w.heap.size w w' := by
  obtain ⟨W, HW, hB, -, bx⟩ := one_cbox w c x 29
  have HB := Lib.hid hB
  simp only [cfgCells]
  clear hB
  go_enter Try.func6, Try.ntmps6
  go_wp2_with (rw [← HW.out])
  refine (wakes_b _).mono ?_
  rintro e w1 ⟨rfl, hb1⟩
  obtain ⟨c0, c1, c2, c3, c4, c5⟩ := bx _ hb1
  go_wp2_with fail
  refine (great_is c x true w1 hg).mono ?_
  rintro e w2 ⟨rfl, hb2⟩
  have hb2 := hb1.trans (hb2.mono hb1.size)
  have HF := Lib.hid (HB.out.trans (hb2.mono HB.out.size))
  clear c0 c1 c2 c3 c4 c5 hb1
  clear hb2
  go_wp2
  go_ret
  exact ⟨rfl, HF.out⟩

set_option maxRecDepth 100000 in
set_option maxHeartbeats 2000000 in
theorem turns_none (c : Cfg) (x : CfgAt) (q : Int) (w : World) (hg : (!cfgLe 100 c) = false) (hn : Hid (c.chans.length = 0)) : Calls Try.prog 6 #[.agg (cfgCells c x), .int .u8 q] w fun e w' => e = .returned (.bool true) ∧ Below w.heap.size w w' := by
  obtain ⟨W, HW, hB, -, bx⟩ := one_cbox w c x 29
  have HB := Lib.hid hB
  simp only [cfgCells]
  clear hB
  go_enter Try.func6, Try.ntmps6
  go_wp2_with (rw [← HW.out])
  refine (wakes_b _).mono ?_
  rintro e w1 ⟨rfl, hb1⟩
  obtain ⟨c0, c1, c2, c3, c4, c5⟩ := bx _ hb1
  go_wp2_with fail
  refine (great_is c x false w1 hg).mono ?_
  rintro e w2 ⟨rfl, hb2⟩
  have hb2 := hb1.trans (hb2.mono hb1.size)
  have HF := Lib.hid (HB.out.trans (hb2.mono HB.out.size))
  clear c0 c1 c2 c3 c4 c5 hb1
  obtain ⟨c0, c1, c2, c3, c4, c5⟩ := bx _ hb2
  have hn1 : ((c.chans.length : Int) == 0) = true := by rw [hn.out]; rfl
  clear hb2
  go_wp2
  go_ret
  exact ⟨rfl, HF.out⟩

theorem turns_all (c : Cfg) (x : CfgAt) (a : Int) (w : World) (hx : CfgIn w w.heap.size c x) (wx : CfgWf c) (ha : (Lit.int .u8 a).wf = true) : Calls Try.prog 6 #[.agg (cfgCells c x), .int .u8 a] w fun e w' => e = .returned (.bool true) ∧ Below w.heap.size w w' := by
  obtain ⟨b0, b1⟩ := bounds_u8 ha
  obtain ⟨q, rfl⟩ := Int.eq_ofNat_of_zero_le b0
  cases hg : cfgLe 100 c with
  | false => exact turns_great c x _ w (by rw [hg]; rfl)
  | true =>
    by_cases hn : c.chans.length = 0
    · exact turns_none c x _ w (by rw [hg]; rfl) (Lib.hid hn)
    have lx := cfgLe_few hg (by omega)
    obtain ⟨parts, chans, len0, win0, len1, win1⟩ := c
    obtain ⟨pa, pc, ca, cc, aa, ac, ba, bc⟩ := x
    exact turns_plain parts chans len0 win0 len1 win1 pa pc ca cc aa ac ba bc q w hx.rp wx.wp lx.1 hx.rc wx.wc lx.2.1 hx.ra wx.wa lx.2.2.1 hx.rb wx.wb lx.2.2.2 wx.w0 wx.w1 hx.lp hx.lc hx.la hx.lb (by omega) hg hn
end Go.Proofs.Ytogffilanioejaa
