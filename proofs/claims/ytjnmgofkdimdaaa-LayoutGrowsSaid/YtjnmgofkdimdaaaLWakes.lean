/- wakes, as a contract. No condition but those in the statements. -/
import Derived.Test.YtjnmgofkdimdaaaLEx
import Derived.Test.YtjnmgofkdimdaaaSameE
import Derived.BigQuiet
import Derived.IntWalk
namespace Go.Proofs.Ytjnmgofkdimdaaa
open Go.RowKit Go.Sort Go.ChangeShapes Go.WideShapes
set_option linter.unusedVariables false
set_option linter.unusedSimpArgs false

theorem ex_spans : srcSpan exC 0 = (4, 9) ∧ cellSpan exC 0 1 = (9, 4) ∧ dstSpan exC 0 = (13, 1) := by decide +kernel
set_option maxRecDepth 100000 in
set_option maxHeartbeats 1600000 in
theorem wakes_b (w : World) : Calls Try.prog 8 #[] w fun e w' => e = .returned (.bool true) ∧ Below w.heap.size w w' := by
  go_enter Try.func8, Try.ntmps8
  go_wp2_with fail
  refine (example_b w).mono ?_
  rintro e w1 ⟨x, rfl, hx, hb1⟩
  obtain ⟨W, HW, hB, -, bx⟩ := one_cbox w1 exC x 29
  have hxW := hx.later hB
  have hS := fun d os => source_b exC x 0 (grow (redrawn W d) os) (hxW.later (below_regrown W d os)) exC_wf exC_few
  have hC := fun d os => cell_b exC x 0 1 (grow (redrawn W d) os) (hxW.later (below_regrown W d os)) exC_wf exC_few
  have hD := fun d os => dest_b exC x 0 (grow (redrawn W d) os) (hxW.later (below_regrown W d os)) exC_wf exC_few
  obtain ⟨z1, z2, z3⟩ := ex_spans
  simp only [z1] at hS
  simp only [z2] at hC
  simp only [z3] at hD
  have HS := Lib.hid (fun d os => Calls.regrown_of (hS d os))
  have HC := Lib.hid (fun d os => Calls.regrown_of (hC d os))
  have HD := Lib.hid (fun d os => Calls.regrown_of (hD d os))
  obtain ⟨q0, q1, q2, q3, q4, q5⟩ := bx.quiet
  have HB := Lib.hid (hb1.trans (hB.mono hb1.size))
  simp only [cfgCells] at HW HS HC HD
  have hbc := Below.refl W.heap.size W
  clear hb1 hB hx hxW hS hC hD z1 z2 z3 bx
  go_wp2_with (first | (rw [← HW.out]) | ((first | with_reducible refine wpList_on hbc ?_ | with_reducible refine wp_on hbc (by kernel_rfl) (by kernel_rfl) ?_); (repeat (first | (go_big_quiet_want; (refine quiet_eqlT 36 _ _ _ rfl _ _ rfl rfl (eqS _ _ _ _ true (by simp)) (by kernel_rfl) ?_); go_big_quiet_on; (try simp only [Act.put, List.setIfInBounds_toArray, List.set_cons_zero, List.set_cons_succ])) | go_big_quiet_step (first | with_reducible exact HS.out _ _ | with_reducible exact HC.out _ _ | with_reducible exact HD.out _ _))); with_reducible refine wpQuiet_nil ?_; intro wc hbc))
  go_ret
  exact ⟨rfl, HB.out.trans (hbc.mono HB.out.size)⟩
end Go.Proofs.Ytjnmgofkdimdaaa
