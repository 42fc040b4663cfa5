/- The example of the law. No condition but those in the statements. -/
import Derived.Test.YtjnmgofkdimdaaaLCells
import Derived.BigQuiet
import Derived.IntWalk
namespace Go.Proofs.Ytjnmgofkdimdaaa
open Go.RowKit Go.Sort Go.ChangeShapes Go.WideShapes
set_option linter.unusedVariables false
set_option linter.unusedSimpArgs false

/-- The law's example. -/
def exC : Cfg := ⟨[[0, 4], [1, 0]], [[2, 0, 1, 3, 2, 0, 0]], 1, [[0, 0, 1]], 1, [[1, 0, 1]]⟩
theorem heap_new_at (w : World) (o : Obj) {k : Nat} (h : k = w.heap.size) : (w.alloc o).heap[k]? = some o := by subst h; exact heap_alloc_new w o
/-- A row that fills a block. -/
theorem row_lit (ks : List IntKind) {w : World} {b B : Nat} {cs : Array Value} {t : TypeId} {m : Nat × Nat} {l : List (List Int)} (h : w.heap[b]? = some (.cells cs t m)) (hB : b < B) (hw : wfR ks l) (hcs : cs = (rcells ks l).toArray) :
    RowN ks w B (some ⟨b, 0, none⟩) l := fun _ => by
  refine ⟨b, 0, rfl, hB, fun i x hx j v hv => ?_⟩
  have hj : j < ks.length := by have := (List.getElem?_eq_some_iff.1 hv).1; rwa [ncells_len (hw x (List.mem_of_getElem? hx)).1] at this
  have h1 := rcells_at hw hx j hj
  rw [Nat.zero_add]
  exact cell_blk h (by rw [hcs]; simpa using h1.trans hv)
theorem exC_wf : CfgWf exC :=
  ⟨fun q hq => by simp [exC] at hq; rcases hq with rfl | rfl <;> exact wfN2_mk rfl rfl, fun q hq => by simp [exC] at hq; subst hq; exact wfN7_mk rfl rfl rfl rfl rfl rfl rfl, fun q hq => by simp [exC] at hq; subst hq; exact wfN3_mk rfl rfl rfl, fun q hq => by simp [exC] at hq; subst hq; exact wfN3_mk rfl rfl rfl, rfl, rfl⟩
theorem exC_few : CfgFew exC := ⟨by simp [exC], by simp [exC], by simp [exC], by simp [exC]⟩
set_option maxRecDepth 100000 in
set_option maxHeartbeats 1600000 in
theorem example_b (w : World) : Calls Try.prog 31 #[] w fun e w' => ∃ x, e = .returned (.agg (cfgCells exC x)) ∧ CfgIn w' w'.heap.size exC x ∧ Below w.heap.size w w' := by
  go_enter Try.func31, Try.ntmps31
  go_wp2
  obtain ⟨V, hV⟩ : ∃ u, Hid (u = ((((((w.alloc (.cells #[.slice (some ⟨w.heap.size + 1, 0, none⟩) 2 2, .slice (some ⟨w.heap.size + 1 + 1, 0, none⟩) 1 1, .int .i64 1, .slice (some ⟨w.heap.size + 1 + 1 + 1 + 1, 0, none⟩) 1 1, .int .i64 1, .slice (some ⟨w.heap.size + 1 + 1 + 1 + 1 + 1, 0, none⟩) 1 1] 29)).alloc (.cells #[.int .i64 0, .int .i64 4, .int .i64 1, .int .i64 0] 63)).alloc (.cells #[.int .i64 2, .int .i64 0, .int .i64 1, .int .i64 3, .int .i64 2, .int .i64 0, .int .u32 0] 48)).alloc (.cells #[.slice (some ⟨w.heap.size + 1, 0, none⟩) 2 2, .slice (some ⟨w.heap.size + 1 + 1, 0, none⟩) 1 1, .int .i64 1, .slice (some ⟨w.heap.size + 1 + 1 + 1 + 1, 0, none⟩) 1 1, .int .i64 1, .slice (some ⟨w.heap.size + 1 + 1 + 1 + 1 + 1, 0, none⟩) 1 1] 29)).alloc (.cells #[.int .i64 0, .int .i64 0, .int .i64 1] 77)).alloc (.cells #[.int .i64 1, .int .i64 0, .int .i64 1] 77))) := ⟨_, rfl⟩
  rw [← hV.out]
  have h0 : V.heap[w.heap.size]? = some (.cells #[.slice (some ⟨w.heap.size + 1, 0, none⟩) 2 2, .slice (some ⟨w.heap.size + 1 + 1, 0, none⟩) 1 1, .int .i64 1, .slice (some ⟨w.heap.size + 1 + 1 + 1 + 1, 0, none⟩) 1 1, .int .i64 1, .slice (some ⟨w.heap.size + 1 + 1 + 1 + 1 + 1, 0, none⟩) 1 1] 29) := by rw [hV.out]; rw [Below.heap_alloc _ _ _ (by simp; try omega)]; rw [Below.heap_alloc _ _ _ (by simp; try omega)]; rw [Below.heap_alloc _ _ _ (by simp; try omega)]; rw [Below.heap_alloc _ _ _ (by simp; try omega)]; rw [Below.heap_alloc _ _ _ (by simp; try omega)]; exact heap_new_at _ _ (by simp)
  have h1 : V.heap[w.heap.size + 1]? = some (.cells #[.int .i64 0, .int .i64 4, .int .i64 1, .int .i64 0] 63) := by rw [hV.out]; rw [Below.heap_alloc _ _ _ (by simp; try omega)]; rw [Below.heap_alloc _ _ _ (by simp; try omega)]; rw [Below.heap_alloc _ _ _ (by simp; try omega)]; rw [Below.heap_alloc _ _ _ (by simp; try omega)]; exact heap_new_at _ _ (by simp)
  have h2 : V.heap[w.heap.size + 1 + 1]? = some (.cells #[.int .i64 2, .int .i64 0, .int .i64 1, .int .i64 3, .int .i64 2, .int .i64 0, .int .u32 0] 48) := by rw [hV.out]; rw [Below.heap_alloc _ _ _ (by simp; try omega)]; rw [Below.heap_alloc _ _ _ (by simp; try omega)]; rw [Below.heap_alloc _ _ _ (by simp; try omega)]; exact heap_new_at _ _ (by simp)
  have h3 : V.heap[w.heap.size + 1 + 1 + 1]? = some (.cells #[.slice (some ⟨w.heap.size + 1, 0, none⟩) 2 2, .slice (some ⟨w.heap.size + 1 + 1, 0, none⟩) 1 1, .int .i64 1, .slice (some ⟨w.heap.size + 1 + 1 + 1 + 1, 0, none⟩) 1 1, .int .i64 1, .slice (some ⟨w.heap.size + 1 + 1 + 1 + 1 + 1, 0, none⟩) 1 1] 29) := by rw [hV.out]; rw [Below.heap_alloc _ _ _ (by simp; try omega)]; rw [Below.heap_alloc _ _ _ (by simp; try omega)]; exact heap_new_at _ _ (by simp)
  have h4 : V.heap[w.heap.size + 1 + 1 + 1 + 1]? = some (.cells #[.int .i64 0, .int .i64 0, .int .i64 1] 77) := by rw [hV.out]; rw [Below.heap_alloc _ _ _ (by simp; try omega)]; exact heap_new_at _ _ (by simp)
  have h5 : V.heap[w.heap.size + 1 + 1 + 1 + 1 + 1]? = some (.cells #[.int .i64 1, .int .i64 0, .int .i64 1] 77) := by rw [hV.out]; exact heap_new_at _ _ (by simp)
  have hB : Below w.heap.size w V := by rw [hV.out]; exact ((((((Below.refl _ _).alloc (Nat.le_refl _) _).alloc (by simp; try omega) _).alloc (by simp; try omega) _).alloc (by simp; try omega) _).alloc (by simp; try omega) _).alloc (by simp; try omega) _
  have hS : V.heap.size = w.heap.size + 6 := by rw [hV.out]; simp
  have y0 := cell_blk h0 (i := 0) rfl
  have y1 := cell_blk h0 (i := 1) rfl
  have y2 := cell_blk h0 (i := 2) rfl
  have y3 := cell_blk h0 (i := 3) rfl
  have y4 := cell_blk h0 (i := 4) rfl
  have y5 := cell_blk h0 (i := 5) rfl
  clear hV
  refine bodyPost_ret (v := .agg #[.slice (some ⟨w.heap.size + 1, 0, none⟩) 2 2, .slice (some ⟨w.heap.size + 1 + 1, 0, none⟩) 1 1, .int .i64 1, .slice (some ⟨w.heap.size + 1 + 1 + 1 + 1, 0, none⟩) 1 1, .int .i64 1, .slice (some ⟨w.heap.size + 1 + 1 + 1 + 1 + 1, 0, none⟩) 1 1]) (by simp [results, Try.results31, go_sem, y0, y1, y2, y3, y4, y5]) rfl ⟨⟨some ⟨w.heap.size + 1, 0, none⟩, 2, some ⟨w.heap.size + 1 + 1, 0, none⟩, 1, some ⟨w.heap.size + 1 + 1 + 1 + 1, 0, none⟩, 1, some ⟨w.heap.size + 1 + 1 + 1 + 1 + 1, 0, none⟩, 1⟩, rfl, ⟨?_, ?_, ?_, ?_, ?_, ?_, ?_, ?_⟩, hB⟩
  · exact row_lit [.i64, .i64] (l := exC.parts) h1 (by omega) exC_wf.wp rfl
  · exact row_lit [.i64, .i64, .i64, .i64, .i64, .i64, .u32] (l := exC.chans) h2 (by omega) exC_wf.wc rfl
  · exact row_lit [.i64, .i64, .i64] (l := exC.win0) h4 (by omega) exC_wf.wa rfl
  · exact row_lit [.i64, .i64, .i64] (l := exC.win1) h5 (by omega) exC_wf.wb rfl
  all_goals exact ⟨by simp [exC], by simp [maxLen], fun h => by cases h⟩
end Go.Proofs.Ytjnmgofkdimdaaa
