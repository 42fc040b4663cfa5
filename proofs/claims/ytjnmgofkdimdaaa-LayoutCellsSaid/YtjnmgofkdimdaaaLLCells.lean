/- LayoutCells answers true. No condition but those in the statements. -/
import Derived.Test.YtjnmgofkdimdaaaLWakes
import Derived.BigQuiet
import Derived.IntWalk
namespace Go.Proofs.Ytjnmgofkdimdaaa
open Go.RowKit Go.Sort Go.ChangeShapes Go.WideShapes
set_option linter.unusedVariables false
set_option linter.unusedSimpArgs false

set_option maxRecDepth 100000 in
set_option maxHeartbeats 4000000 in
theorem lcells_b (c : Cfg) (x : CfgAt) (k l0 l1 : Int) (w : World) (hx : CfgIn w w.heap.size c x) (wx : CfgWf c) : Calls Try.prog 4 #[.agg (cfgCells c x), .int .i64 k, .agg #[.int .i64 l0, .int .i64 l1]] w fun e w' => e = .returned (.bool true) ∧ Below w.heap.size w w' := by
  obtain ⟨W, hW⟩ : ∃ u, Hid (u = (w.alloc (.cells (cfgCells c x) 29)).alloc (.cells #[.int .i64 l0, .int .i64 l1] 41)) := ⟨_, rfl⟩
  have hb0 : Below w.heap.size w W := by rw [hW.out]; exact ((Below.refl _ w).alloc (Nat.le_refl _) _).alloc (by simp) _
  have bx : CBox W w.heap.size c x := by rw [hW.out]; exact (cbox_new w c x 29).on ((Below.refl _ _).alloc (Nat.le_refl _) _)
  have hL : W.heap[w.heap.size + 1]? = some (.cells #[.int .i64 l0, .int .i64 l1] 41 (0, 0)) := by rw [hW.out]; exact heap_new_at _ _ (by simp)
  have hxW := hx.later hb0
  have HB := Lib.hid hb0; have HXW := Lib.hid hxW; have HL := Lib.hid hL
  simp only [cfgCells] at hW ⊢
  clear hx hb0 hxW hL
  go_enter Try.func4, Try.ntmps4
  go_wp2_with (rw [← hW.out])
  refine (wakes_b W).mono ?_
  rintro e V ⟨rfl, hbV⟩
  have hxV := HXW.out.later hbV
  have hLV := (hbV.block _ (Array.getElem?_eq_some_iff.1 HL.out).1).trans HL.out
  obtain ⟨q0, q1, q2, q3, q4, q5⟩ := (bx.on hbV).quiet
  have p0 : ∀ p : Regrown, (grow (redrawn V p.d) p.os).cell? ⟨w.heap.size + 1, 0, none⟩ = some (.int .i64 l0) := fun p => cell_regrown (cell_blk hLV (i := 0) rfl) p.d p.os
  have p1 : ∀ p : Regrown, (grow (redrawn V p.d) p.os).cell? ⟨w.heap.size + 1, 1, none⟩ = some (.int .i64 l1) := fun p => cell_regrown (cell_blk hLV (i := 1) rfl) p.d p.os
  have HBV := Lib.hid (HB.out.trans (hbV.mono HB.out.size))
  have hbc := Below.refl V.heap.size V
  clear bx hLV hbV
  by_cases hg : cfgLe 100 c = true
  · have lx := cfgLe_few hg (by omega)
    have HG := Lib.hid (fun d os => Calls.regrown_of (great_is c x false (grow (redrawn V d) os) (by rw [hg]; rfl)))
    have H1 := Lib.hid (fun d os => Calls.regrown_of (buffer_b c x k l0 l1 (grow (redrawn V d) os) (hxV.later (below_regrown V d os)) wx lx))
    have H2 := Lib.hid (fun d os => Calls.regrown_of (rbuffer_b c x k l0 l1 (grow (redrawn V d) os) (hxV.later (below_regrown V d os)) wx lx))
    have H3 := Lib.hid (fun d os => Calls.regrown_of (cell_b c x k l0 (grow (redrawn V d) os) (hxV.later (below_regrown V d os)) wx lx))
    have H4 := Lib.hid (fun d os => Calls.regrown_of (rcell_b c x k l0 (grow (redrawn V d) os) (hxV.later (below_regrown V d os)) wx lx))
    simp only [cfgCells] at HG H1 H2 H3 H4
    clear hxV hg
    go_wp2_with (((first | with_reducible refine wpList_on hbc ?_ | with_reducible refine wp_on hbc (by kernel_rfl) (by kernel_rfl) ?_); (repeat (first | (go_big_quiet_want; (refine quiet_eqlT 36 _ _ _ rfl _ _ rfl rfl (eqS _ _ _ _ true (by simp)) (by kernel_rfl) ?_); go_big_quiet_on; (try simp only [Act.put, List.setIfInBounds_toArray, List.set_cons_zero, List.set_cons_succ])) | go_big_quiet_step (first | with_reducible exact HG.out _ _ | with_reducible exact H1.out _ _ | with_reducible exact H2.out _ _ | with_reducible exact H3.out _ _ | with_reducible exact H4.out _ _))); with_reducible refine wpQuiet_nil ?_; intro wc hbc))
    go_ret
    exact ⟨rfl, HBV.out.trans (hbc.mono HBV.out.size)⟩
  · have HG := Lib.hid (fun d os => Calls.regrown_of (great_is c x true (grow (redrawn V d) os) (by rw [Bool.not_eq_true] at hg; rw [hg]; rfl)))
    simp only [cfgCells] at HG
    clear hxV hg
    go_wp2_with (((first | with_reducible refine wpList_on hbc ?_ | with_reducible refine wp_on hbc (by kernel_rfl) (by kernel_rfl) ?_); (repeat (first | (go_big_quiet_want; (refine quiet_eqlT 36 _ _ _ rfl _ _ rfl rfl (eqS _ _ _ _ true (by simp)) (by kernel_rfl) ?_); go_big_quiet_on; (try simp only [Act.put, List.setIfInBounds_toArray, List.set_cons_zero, List.set_cons_succ])) | go_big_quiet_step (first | with_reducible exact HG.out _ _))); with_reducible refine wpQuiet_nil ?_; intro wc hbc))
    go_ret
    exact ⟨rfl, HBV.out.trans (hbc.mono HBV.out.size)⟩
end Go.Proofs.Ytjnmgofkdimdaaa
