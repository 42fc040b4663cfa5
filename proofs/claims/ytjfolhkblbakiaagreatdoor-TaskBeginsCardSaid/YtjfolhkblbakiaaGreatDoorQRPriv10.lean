/- Texts of the ring, joined, what is used of them. No condition but those in the statements. -/
import Derived.BigQuiet
import Derived.IntWalk
import Derived.Test.YtjfolhkblbakiaaGreatDoorQRK
import Derived.Test.YtjfolhkblbakiaaGreatDoorQRPort
namespace Go.Proofs.YtjfolhkblbakiaaGreatDoor
open Go.RowKit Go.Sort Go.ChangeShapes Go.WideShapes
set_option linter.unusedVariables false
set_option linter.unusedSimpArgs false
theorem privSpan_in {c:Cfg} (wx:CfgWf c) (p:Int):0 ≤ (privSpan c p).1 ∧ (privSpan c p).1 ≤ 384 ∧ 0 ≤ (privSpan c p).2 ∧ (privSpan c p).2 ≤ 64:=by
  unfold privSpan
  split
  · rename_i h
    obtain ⟨h1,h2,h3⟩:=h
    have ha:=accd_of h1
    have hp:=privUp_in ha p.toNat (by omega)
    have hq:=ha.priv p.toNat (by omega)
    have hl:=ha.parts
    exact ⟨hp.1,by omega,hq.1,hq.2⟩
  · exact ⟨Int.le_refl _,by decide,Int.le_refl _,by decide⟩
/-- Is an address in a partition's private span? -/
def privB (c:Cfg) (p a:Int):Bool:=decide ((privSpan c p).1 ≤ a ∧ a - (privSpan c p).1 < (privSpan c p).2)
set_option maxRecDepth 100000 in
set_option maxHeartbeats 1600000 in
theorem rpriv10_b (c:Cfg) (x:CfgAt) (p a:Int) (w:World) (hx:CfgIn w w.heap.size c x) (wx:CfgWf c) (lx:CfgFew c) (ha:(Lit.int .u64 a).wf = true):Calls Tryz.prog 79 #[.agg (cfgCells c x),.int .i64 p,.int .u64 a] w fun e w' => e = .returned (.bool (privB c p a)) ∧ Below w.heap.size w w':=by
  obtain ⟨Wc,HWc,hBc,hWs,bx⟩:=one_cbox w c x 29
  have hxW:=hx.later hBc
  obtain ⟨c0,c1,c2,c3,c4,c5⟩:=bx _ (Below.refl _ _)
  obtain ⟨a0,a1⟩:=bounds_u64 ha
  obtain ⟨f0,f1,s0,s1⟩:=privSpan_in wx p
  have hC:=rprivate_b c x p Wc hxW wx lx
  obtain ⟨f,hf⟩:∃ f,(privSpan c p).1 = f:=⟨_,rfl⟩
  obtain ⟨s,hs⟩:∃ s,(privSpan c p).2 = s:=⟨_,rfl⟩
  have HD:=Lib.hid (show privB c p a = decide (f ≤ a ∧ a - f < s) by unfold privB;rw [hf,hs])
  rw [hf] at f0 f1 hC
  rw [hs] at s0 s1 hC
  have HC:=Lib.hid hC
  have HB:=Lib.hid hBc
  simp only [cfgCells] at HWc ⊢
  clear hC hxW hBc hf hs ha hx
  have hw1:=IntKind.wrap_u64 f
  have hw2:=IntKind.wrap_u64 s
  have hw3:=IntKind.wrap_u64 (a - f)
  rw [Int.emod_eq_of_lt (by omega) (by omega)] at hw1 hw2
  by_cases g1:f ≤ a
  · rw [Int.emod_eq_of_lt (by omega) (by omega)] at hw3
    by_cases g2:a - f < s
    · have HX:=Lib.hid (show privB c p a = true by rw [HD.out];exact decide_eq_true (by omega))
      go_enter Tryz.func79,Tryz.ntmps79
      go_wp2_with (rw [← HWc.out])
      refine HC.out.mono ?_
      rintro e w5 ⟨rfl,hb5⟩
      have HF:=Lib.hid (HB.out.trans ((hb5.alloc hb5.size (.cells #[.int .i64 f,.int .i64 s] 135)).mono HB.out.size))
      clear hb5
      go_wp2
      go_ret
      exact ⟨by rw [HX.out];rfl,HF.out⟩
    · have g2d:decide (a - f < s) = false:=decide_eq_false g2
      have HX:=Lib.hid (show privB c p a = false by rw [HD.out];exact decide_eq_false (by omega))
      go_enter Tryz.func79,Tryz.ntmps79
      go_wp2_with (rw [← HWc.out])
      refine HC.out.mono ?_
      rintro e w5 ⟨rfl,hb5⟩
      have HF:=Lib.hid (HB.out.trans ((hb5.alloc hb5.size (.cells #[.int .i64 f,.int .i64 s] 135)).mono HB.out.size))
      clear hb5
      go_wp2
      go_ret
      exact ⟨by rw [HX.out];rfl,HF.out⟩
  · have g1d:decide (f ≤ a) = false:=decide_eq_false g1
    clear hw3
    have HX:=Lib.hid (show privB c p a = false by rw [HD.out];exact decide_eq_false (by omega))
    go_enter Tryz.func79,Tryz.ntmps79
    go_wp2_with (rw [← HWc.out])
    refine HC.out.mono ?_
    rintro e w5 ⟨rfl,hb5⟩
    have HF:=Lib.hid (HB.out.trans ((hb5.alloc hb5.size (.cells #[.int .i64 f,.int .i64 s] 135)).mono HB.out.size))
    clear hb5
    go_wp2
    go_ret
    exact ⟨by rw [HX.out];rfl,HF.out⟩
theorem rpriv10_is (c:Cfg) (x:CfgAt) (p a:Int) (q:Bool) (w:World) (hx:CfgIn w w.heap.size c x) (wx:CfgWf c) (lx:CfgFew c) (ha:(Lit.int .u64 a).wf = true) (h:privB c p a = q):Calls Tryz.prog 79 #[.agg (cfgCells c x),.int .i64 p,.int .u64 a] w fun e w' => e = .returned (.bool q) ∧ Below w.heap.size w w':=by subst h;exact rpriv10_b c x p a w hx wx lx ha
end Go.Proofs.YtjfolhkblbakiaaGreatDoor
