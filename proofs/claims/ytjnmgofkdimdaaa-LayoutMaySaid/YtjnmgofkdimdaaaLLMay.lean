/- LayoutMay answers true. No condition but those in the statements. -/
import Derived.Test.YtjnmgofkdimdaaaLOwn
import Derived.Test.YtjnmgofkdimdaaaRMay
import Derived.Test.YtjnmgofkdimdaaaLMay
import Derived.Test.YtjnmgofkdimdaaaLIt
import Derived.Test.YtjnmgofkdimdaaaLWakes
import Derived.BigQuiet
import Derived.IntWalk
namespace Go.Proofs.Ytjnmgofkdimdaaa
open Go.RowKit Go.Sort Go.ChangeShapes Go.WideShapes
set_option linter.unusedVariables false
set_option linter.unusedSimpArgs false

set_option maxRecDepth 100000 in
set_option maxHeartbeats 4000000 in
theorem lmay_b (c : Cfg) (x : CfgAt) (p a : Int) (w : World) (hx : CfgIn w w.heap.size c x) (wx : CfgWf c) : Calls Try.prog 6 #[.agg (cfgCells c x), .int .i64 p, .int .i64 a] w fun e w' => e = .returned (.bool true) ∧ Below w.heap.size w w' := by
  obtain ⟨W, HW, hB0, -, bx⟩ := one_cbox w c x 29
  have hxW := hx.later hB0
  have HB0 := Lib.hid hB0; have HXW := Lib.hid hxW
  simp only [cfgCells] at HW ⊢
  clear hx hB0 hxW
  go_enter Try.func6, Try.ntmps6
  go_wp2_with (rw [← HW.out])
  refine (wakes_b W).mono ?_
  rintro e V ⟨rfl, hbV⟩
  have hxV := HXW.out.later hbV
  obtain ⟨q0, q1, q2, q3, q4, q5⟩ := (bx.on hbV).quiet
  have HB := Lib.hid (HB0.out.trans (hbV.mono HB0.out.size))
  have hbc := Below.refl V.heap.size V
  clear bx hbV
  by_cases hg : cfgLe 100 c = true
  · have lx := cfgLe_few hg (by omega)
    have HG := Lib.hid (fun d os => Calls.regrown_of (great_is c x false (grow (redrawn V d) os) (by rw [hg]; rfl)))
    have H1 := Lib.hid (fun d os => Calls.regrown_of (may_b c x p a (grow (redrawn V d) os) (hxV.later (below_regrown V d os)) wx lx))
    have H2 := Lib.hid (fun d os => Calls.regrown_of (rmay_b c x p a (grow (redrawn V d) os) (hxV.later (below_regrown V d os)) wx lx))
    have HSZ := Lib.hid (fun d os => Calls.regrown_of (size8_b c x (grow (redrawn V d) os) (hxV.later (below_regrown V d os)) wx lx))
    have HQ := Lib.hid (fun (q : Nat) d os => Calls.regrown_of (may_b c x (q : Int) a (grow (redrawn V d) os) (hxV.later (below_regrown V d os)) wx lx))
    have hpl := lx.1
    obtain ⟨m, hm⟩ : ∃ m, mayB c p a = m := ⟨_, rfl⟩
    rw [hm] at H1 H2
    simp only [cfgCells] at HG H1 H2 HSZ HQ
    clear hxV hg hm
    cases m
    all_goals
      go_wp2_with (((first | with_reducible refine wpList_on hbc ?_ | with_reducible refine wp_on hbc (by kernel_rfl) (by kernel_rfl) ?_); (repeat (first | go_big_quiet_step (first | with_reducible exact HG.out _ _ | with_reducible exact H1.out _ _ | with_reducible exact H2.out _ _))); with_reducible refine wpQuiet_nil ?_; intro wc hbc))
      clear HG H1 H2
      go_loopw [7, 26] (fun nn ix wr => ∃ k : Nat, k ≤ c.parts.length ∧ ix = .int .i64 k ∧ nn = .int .i64 (cntN (fun q => mayB c (q : Int) a) k : Nat) ∧ Below V.heap.size V wr) (fun _ ix _ => c.parts.length - (intOf ix).toNat)
      case atStart => exact ⟨0, Nat.zero_le _, rfl, rfl, hbc⟩
      case round =>
        clear hbc
        obtain ⟨k, hk, rfl, rfl, hbc⟩ := hrel
        by_cases hlt : k < c.parts.length
        · have HK := Lib.hid (HQ.out k)
          have hc := cntN_le (fun q => mayB c (q : Int) a) k
          have HS := Lib.hid (show cntN (fun q => mayB c (q : Int) a) (k + 1) = cntN (fun q => mayB c (q : Int) a) k + (if mayB c (k : Int) a = true then 1 else 0) from rfl)
          obtain ⟨z, hz⟩ : ∃ z, cntN (fun q => mayB c (q : Int) a) k = z := ⟨_, rfl⟩
          obtain ⟨b, hb⟩ : ∃ b, mayB c (k : Int) a = b := ⟨_, rfl⟩
          rw [hz] at hc HS
          rw [hb] at HK HS
          simp only [hz]
          have v0 := IntWalk.i64_in ((k : Int) + 1) (by omega)
          have v1 := IntWalk.i64_in ((z : Int) + 1) (by omega)
          clear hz hb
          cases b with
          | true =>
            go_wp2_with ((first | with_reducible refine wpList_on hbc ?_ | with_reducible refine wp_on hbc (by kernel_rfl) (by kernel_rfl) ?_); (repeat (first | go_big_quiet_step (first | with_reducible exact HK.out _ _))); with_reducible refine wpQuiet_nil ?_; intro wc hbc)
            go_roundw
            case rel => exact ⟨k + 1, by omega, by go_num, by rw [HS.out]; simp, hbc⟩
            case measure => simp [intOf]; omega
          | false =>
            go_wp2_with ((first | with_reducible refine wpList_on hbc ?_ | with_reducible refine wp_on hbc (by kernel_rfl) (by kernel_rfl) ?_); (repeat (first | go_big_quiet_step (first | with_reducible exact HK.out _ _))); with_reducible refine wpQuiet_nil ?_; intro wc hbc)
            go_roundw
            case rel => exact ⟨k + 1, by omega, by go_num, by rw [HS.out]; simp, hbc⟩
            case measure => simp [intOf]; omega
        · have hkk : k = c.parts.length := by omega
          subst hkk
          clear HQ
          by_cases a0 : 0 ≤ a
          · have a0d : decide (0 ≤ a) = true := decide_eq_true a0
            by_cases a1 : a < sizeN c
            · have a1d : decide (a < sizeN c) = true := decide_eq_true a1
              have HCN := Lib.hid (show cntN (fun q => mayB c (q : Int) a) c.parts.length = 1 from (by obtain ⟨o, ho, h⟩ := may_in a0 a1; exact cntN_one ho h))
              simp only [HCN.out]
              go_wp2_with ((first | with_reducible refine wpList_on hbc ?_ | with_reducible refine wp_on hbc (by kernel_rfl) (by kernel_rfl) ?_); (repeat (first | go_big_quiet_step (first | with_reducible exact HSZ.out _ _))); with_reducible refine wpQuiet_nil ?_; intro wc hbc)
              go_ret
              exact ⟨rfl, HB.out.trans (hbc.mono HB.out.size)⟩
            · have a1d : decide (a < sizeN c) = false := decide_eq_false a1
              have HCN := Lib.hid (show cntN (fun q => mayB c (q : Int) a) c.parts.length = 0 from cntN_none (fun q hq => may_out (by omega) q hq))
              simp only [HCN.out]
              go_wp2_with ((first | with_reducible refine wpList_on hbc ?_ | with_reducible refine wp_on hbc (by kernel_rfl) (by kernel_rfl) ?_); (repeat (first | go_big_quiet_step (first | with_reducible exact HSZ.out _ _))); with_reducible refine wpQuiet_nil ?_; intro wc hbc)
              go_ret
              exact ⟨rfl, HB.out.trans (hbc.mono HB.out.size)⟩
          · have a0d : decide (0 ≤ a) = false := decide_eq_false a0
            have HCN := Lib.hid (show cntN (fun q => mayB c (q : Int) a) c.parts.length = 0 from cntN_none (fun q hq => may_out (by omega) q hq))
            simp only [HCN.out]
            go_wp2_with ((first | with_reducible refine wpList_on hbc ?_ | with_reducible refine wp_on hbc (by kernel_rfl) (by kernel_rfl) ?_); (repeat (first | go_big_quiet_step (first | with_reducible exact HSZ.out _ _))); with_reducible refine wpQuiet_nil ?_; intro wc hbc)
            go_ret
            exact ⟨rfl, HB.out.trans (hbc.mono HB.out.size)⟩
  · have HG := Lib.hid (fun d os => Calls.regrown_of (great_is c x true (grow (redrawn V d) os) (by rw [Bool.not_eq_true] at hg; rw [hg]; rfl)))
    simp only [cfgCells] at HG
    clear hxV hg
    go_wp2_with (((first | with_reducible refine wpList_on hbc ?_ | with_reducible refine wp_on hbc (by kernel_rfl) (by kernel_rfl) ?_); (repeat (first | go_big_quiet_step (first | with_reducible exact HG.out _ _))); with_reducible refine wpQuiet_nil ?_; intro wc hbc))
    go_ret
    exact ⟨rfl, HB.out.trans (hbc.mono HB.out.size)⟩
end Go.Proofs.Ytjnmgofkdimdaaa
