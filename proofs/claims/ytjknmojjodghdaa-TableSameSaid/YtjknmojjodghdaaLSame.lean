/- The walk of TableSame. No condition but those in the statements. -/
import Derived.Test.YtjknmojjodghdaaWakes
namespace Go.Proofs.Ytjknmojjodghdaa
open Go.RowKit Go.Sort Go.ChangeShapes Go.WideShapes
set_option linter.unusedVariables false
set_option linter.unusedSimpArgs false

set_option maxHeartbeats 4000000 in
theorem lsame_walk (c d : Cfg) (x y : CfgAt) (w : World) (hx : CfgIn w w.heap.size c x) (wx : CfgWf c) (hy : CfgIn w w.heap.size d y) (wy : CfgWf d) :
    Calls Try.prog 6 #[.agg (cfgCells c x), .agg (cfgCells d y)] w fun e w' => e = .returned (.bool true) ∧ Below w.heap.size w w' := by
  obtain ⟨W, HW, hB, -, bx, by_⟩ := two_cboxes w c d x y 31
  have hx := hx.later hB
  have hy := hy.later hB
  have HB := Lib.hid hB
  simp only [cfgCells]
  clear hB
  go_enter Try.func6, Try.ntmps6
  go_wp2_with fail
  rw [← HW.out]
  refine (wakes_b _).mono ?_
  rintro e w1 ⟨rfl, hb1⟩
  have bx := bx.on hb1
  have by_ := by_.on hb1
  have hx1 := hx.later hb1
  have hy1 := hy.later hb1
  have HB1 := Lib.hid (HB.out.trans (hb1.mono HB.out.size))
  have c0 : ∀ p : Regrown, (grow (redrawn w1 p.d) p.os).cell? ⟨w.heap.size, 0, none⟩ = some (.slice x.pa c.parts.length x.pc) := fun p => (bx _ (below_regrown w1 p.d p.os)).1
  have c1 : ∀ p : Regrown, (grow (redrawn w1 p.d) p.os).cell? ⟨w.heap.size, 1, none⟩ = some (.slice x.ca c.chans.length x.cc) := fun p => (bx _ (below_regrown w1 p.d p.os)).2.1
  have c2 : ∀ p : Regrown, (grow (redrawn w1 p.d) p.os).cell? ⟨w.heap.size, 2, none⟩ = some (.int .i64 c.len0) := fun p => (bx _ (below_regrown w1 p.d p.os)).2.2.1
  have c3 : ∀ p : Regrown, (grow (redrawn w1 p.d) p.os).cell? ⟨w.heap.size, 3, none⟩ = some (.slice x.aa c.win0.length x.ac) := fun p => (bx _ (below_regrown w1 p.d p.os)).2.2.2.1
  have c4 : ∀ p : Regrown, (grow (redrawn w1 p.d) p.os).cell? ⟨w.heap.size, 4, none⟩ = some (.int .i64 c.len1) := fun p => (bx _ (below_regrown w1 p.d p.os)).2.2.2.2.1
  have c5 : ∀ p : Regrown, (grow (redrawn w1 p.d) p.os).cell? ⟨w.heap.size, 5, none⟩ = some (.slice x.ba c.win1.length x.bc) := fun p => (bx _ (below_regrown w1 p.d p.os)).2.2.2.2.2
  have d0 : ∀ p : Regrown, (grow (redrawn w1 p.d) p.os).cell? ⟨w.heap.size + 1, 0, none⟩ = some (.slice y.pa d.parts.length y.pc) := fun p => (by_ _ (below_regrown w1 p.d p.os)).1
  have d1 : ∀ p : Regrown, (grow (redrawn w1 p.d) p.os).cell? ⟨w.heap.size + 1, 1, none⟩ = some (.slice y.ca d.chans.length y.cc) := fun p => (by_ _ (below_regrown w1 p.d p.os)).2.1
  have d2 : ∀ p : Regrown, (grow (redrawn w1 p.d) p.os).cell? ⟨w.heap.size + 1, 2, none⟩ = some (.int .i64 d.len0) := fun p => (by_ _ (below_regrown w1 p.d p.os)).2.2.1
  have d3 : ∀ p : Regrown, (grow (redrawn w1 p.d) p.os).cell? ⟨w.heap.size + 1, 3, none⟩ = some (.slice y.aa d.win0.length y.ac) := fun p => (by_ _ (below_regrown w1 p.d p.os)).2.2.2.1
  have d4 : ∀ p : Regrown, (grow (redrawn w1 p.d) p.os).cell? ⟨w.heap.size + 1, 4, none⟩ = some (.int .i64 d.len1) := fun p => (by_ _ (below_regrown w1 p.d p.os)).2.2.2.2.1
  have d5 : ∀ p : Regrown, (grow (redrawn w1 p.d) p.os).cell? ⟨w.heap.size + 1, 5, none⟩ = some (.slice y.ba d.win1.length y.bc) := fun p => (by_ _ (below_regrown w1 p.d p.os)).2.2.2.2.2
  have hbc := Below.refl w1.heap.size w1
  clear hb1 hx hy bx by_
  cases hc : cfgLe 100 c with
  | false =>
    have HA := Lib.hid (show (!cfgLe 100 c) = true by rw [hc]; rfl)
    have HD := HA
    clear hc
    go_wp2_with fail
    (with_reducible refine wp_on hbc (by kernel_rfl) (by kernel_rfl) ?_); (repeat (go_big_quiet_step (first | (go_at_call 13; with_reducible exact Calls.regrown_of (great_is c x _ _ HA.out))))); with_reducible refine wpQuiet_nil ?_; intro wc hbc
    go_wp2
    go_ret
    exact ⟨rfl, HB1.out.trans (hbc.mono HB1.out.size)⟩
  | true =>
    have HA := Lib.hid (show (!cfgLe 100 c) = false by rw [hc]; rfl)
    have HFC := Lib.hid (cfgLe_few hc (by omega))
    clear hc
    cases hd : cfgLe 100 d with
    | false =>
      have HD := Lib.hid (show (!cfgLe 100 d) = true by rw [hd]; rfl)
      clear hd
      go_wp2_with fail
      (with_reducible refine wp_on hbc (by kernel_rfl) (by kernel_rfl) ?_); (repeat (go_big_quiet_step (first | (go_at_call 13; first | with_reducible exact Calls.regrown_of (great_is c x _ _ HA.out) | with_reducible exact Calls.regrown_of (great_is d y _ _ HD.out))))); with_reducible refine wpQuiet_nil ?_; intro wc hbc
      go_wp2
      go_ret
      exact ⟨rfl, HB1.out.trans (hbc.mono HB1.out.size)⟩
    | true =>
      have HD := Lib.hid (show (!cfgLe 100 d) = false by rw [hd]; rfl)
      have HFD := Lib.hid (cfgLe_few hd (by omega))
      obtain ⟨s, hs⟩ : ∃ s, decide (c = d) = s := ⟨_, rfl⟩
      have HS := Lib.hid hs
      clear hd hs
      cases s with
      | false =>
        go_wp2_with fail
        (with_reducible refine wp_on hbc (by kernel_rfl) (by kernel_rfl) ?_); (repeat (go_big_quiet_step (first | (go_at_call 13; first | with_reducible exact Calls.regrown_of (great_is c x _ _ HA.out) | with_reducible exact Calls.regrown_of (great_is d y _ _ HD.out)) | (go_at_call 12; first | with_reducible exact Calls.regrown_of (csame_is c d x y false _ (hx1.later (below_regrown _ _ _)) (hy1.later (below_regrown _ _ _)) wx wy HFC.out HFD.out HS.out) | with_reducible exact Calls.regrown_of (csame_is c c x x true _ (hx1.later (below_regrown _ _ _)) (hx1.later (below_regrown _ _ _)) wx wx HFC.out HFC.out (by simp))) | (go_at_call 11; with_reducible exact Calls.regrown_of (rsame_is c d x y false _ (hx1.later (below_regrown _ _ _)) (hy1.later (below_regrown _ _ _)) wx wy HFC.out HFD.out HS.out))))); with_reducible refine wpQuiet_nil ?_; intro wc hbc
        go_wp2
        go_ret
        exact ⟨rfl, HB1.out.trans (hbc.mono HB1.out.size)⟩
      | true =>
        go_wp2_with fail
        (with_reducible refine wp_on hbc (by kernel_rfl) (by kernel_rfl) ?_); (repeat (go_big_quiet_step (first | (go_at_call 13; first | with_reducible exact Calls.regrown_of (great_is c x _ _ HA.out) | with_reducible exact Calls.regrown_of (great_is d y _ _ HD.out)) | (go_at_call 12; first | with_reducible exact Calls.regrown_of (csame_is c d x y true _ (hx1.later (below_regrown _ _ _)) (hy1.later (below_regrown _ _ _)) wx wy HFC.out HFD.out HS.out) | with_reducible exact Calls.regrown_of (csame_is c c x x true _ (hx1.later (below_regrown _ _ _)) (hx1.later (below_regrown _ _ _)) wx wx HFC.out HFC.out (by simp))) | (go_at_call 11; with_reducible exact Calls.regrown_of (rsame_is c d x y true _ (hx1.later (below_regrown _ _ _)) (hy1.later (below_regrown _ _ _)) wx wy HFC.out HFD.out HS.out))))); with_reducible refine wpQuiet_nil ?_; intro wc hbc
        go_wp2
        go_ret
        exact ⟨rfl, HB1.out.trans (hbc.mono HB1.out.size)⟩
end Go.Proofs.Ytjknmojjodghdaa
