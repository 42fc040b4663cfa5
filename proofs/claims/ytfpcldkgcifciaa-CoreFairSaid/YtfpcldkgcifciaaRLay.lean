/- The document's Accepts, source, before, channel, Size, as contracts. No condition but those in the statements. -/
import Derived.Test.YtfpcldkgcifciaaLay
import Derived.Test.YtfpcldkgcifciaaRAll
import Derived.BigQuiet
import Derived.IntWalk
namespace Go.Proofs.Ytfpcldkgcifciaa
open Go.RowKit Go.Sort Go.ChangeShapes Go.WideShapes
set_option linter.unusedVariables false
set_option linter.unusedSimpArgs false

theorem racc_b (c : Cfg) (x : CfgAt) (q : Bool) (w : World) (hx : CfgIn w w.heap.size c x) (wx : CfgWf c) (lx : CfgFew c) (hq : acceptsB c = q) : Calls Try.prog 8 #[.agg (cfgCells c x)] w fun e w' => e = .returned (.bool q) ∧ Below w.heap.size w w' := by
  obtain ⟨W, HW, hB, -, bx⟩ := one_cbox w c x 29
  have hx := hx.later hB
  obtain ⟨c0, c1, c2, c3, c4, c5⟩ := bx _ (Below.refl _ _)
  have HB := Lib.hid hB
  have hF := rall_b c x W hx wx lx
  have hl := allB_len c 17
  obtain ⟨ds, hds⟩ : ∃ ds, allB c 17 = ds := ⟨_, rfl⟩
  have hdq : ((ds.length : Int) == 0) = q := by
    rw [← hq, ← hds]
    unfold acceptsB
    rw [Bool.eq_iff_iff]
    simp
  rw [hds] at hF hl
  simp only [cfgCells]
  clear hB hds hq
  go_enter Try.func8, Try.ntmps8
  go_wp2_with (rw [← HW.out])
  refine hF.mono ?_
  rintro e w5 ⟨v, rfl, hown, hb5⟩
  obtain ⟨A', c', rfl, _⟩ := hown.slice
  have HF := Lib.hid (HB.out.trans (hb5.mono HB.out.size))
  clear hF hb5 hown
  go_wp2
  go_ret
  exact ⟨rfl, HF.out⟩
/-- Is there such a channel of an accepted configuration? -/
def chanB (c : Cfg) (k : Int) : Bool := decide (0 ≤ k ∧ k < (c.chans.length : Int)) && acceptsB c
def sizeN (c : Cfg) : Int := if acceptsB c = true then beforeN c c.chans.length else 0
end Go.Proofs.Ytfpcldkgcifciaa
