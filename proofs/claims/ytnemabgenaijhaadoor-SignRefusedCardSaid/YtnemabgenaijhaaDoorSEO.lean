/- The example of the law. No condition but those in the statements. The openings of a standing and of a request by value. No condition but those in the statements. -/
import Derived.Test.YtnemabgenaijhaaDoorRows10
import Derived.BigQuiet
import Derived.IntWalk
import Derived.Test.YtnemabgenaijhaaDoorRMade
import Derived.Lib.SmallJoins
namespace Go.Proofs.YtnemabgenaijhaaDoor
open Go.RowKit Go.Sort Go.ChangeShapes Go.WideShapes
set_option linter.unusedVariables false
set_option linter.unusedSimpArgs false

/-- The law's example. -/
def ex10 : Cfg := ⟨[[0, 2], [1, 0]], [[1, 0, 1, 3, 0, 0, 0]], 1, [[0, 0, 1]], 1, [[1, 0, 1]]⟩
theorem heap_new_at10 (w : World) (o : Obj) {k : Nat} (h : k = w.heap.size) : (w.alloc o).heap[k]? = some o := by subst h; exact heap_alloc_new w o
/-- A row that fills a block. -/
theorem row_lit10 (ks : List IntKind) {w : World} {b B : Nat} {cs : Array Value} {t : TypeId} {m : Nat × Nat} {l : List (List Int)} (h : w.heap[b]? = some (.cells cs t m)) (hB : b < B) (hw : wfR ks l) (hcs : cs = (rcells ks l).toArray) :
    RowN ks w B (some ⟨b, 0, none⟩) l := fun _ => by
  refine ⟨b, 0, rfl, hB, fun i x hx j v hv => ?_⟩
  have hj : j < ks.length := by have := (List.getElem?_eq_some_iff.1 hv).1; rwa [ncells_len (hw x (List.mem_of_getElem? hx)).1] at this
  have h1 := rcells_at hw hx j hj
  rw [Nat.zero_add]
  exact cell_blk h (by rw [hcs]; simpa using h1.trans hv)
theorem ex10_wf : CfgWf ex10 :=
  ⟨fun q hq => by simp [ex10] at hq; rcases hq with rfl | rfl <;> exact wfN2_mk rfl rfl, fun q hq => by simp [ex10] at hq; subst hq; exact wfN7_mk rfl rfl rfl rfl rfl rfl rfl, fun q hq => by simp [ex10] at hq; subst hq; exact wfN3_mk rfl rfl rfl, fun q hq => by simp [ex10] at hq; subst hq; exact wfN3_mk rfl rfl rfl, rfl, rfl⟩
theorem ex10_few : CfgFew ex10 := ⟨by simp [ex10], by simp [ex10], by simp [ex10], by simp [ex10]⟩
set_option maxRecDepth 100000 in
set_option maxHeartbeats 1600000 in
theorem example10_b (w : World) : Calls Tryd.prog 20 #[] w fun e w' => ∃ x, e = .returned (.agg (cfgCells ex10 x)) ∧ CfgIn w' w'.heap.size ex10 x ∧ Below w.heap.size w w' := by
  go_enter Tryd.func20, Tryd.ntmps20
  go_wp2
  obtain ⟨V, hV⟩ : ∃ u, Hid (u = ((((((w.alloc (.cells #[.slice (some ⟨w.heap.size + 1, 0, none⟩) 2 2, .slice (some ⟨w.heap.size + 1 + 1, 0, none⟩) 1 1, .int .i64 1, .slice (some ⟨w.heap.size + 1 + 1 + 1 + 1, 0, none⟩) 1 1, .int .i64 1, .slice (some ⟨w.heap.size + 1 + 1 + 1 + 1 + 1, 0, none⟩) 1 1] 35)).alloc (.cells #[.int .i64 0, .int .i64 2, .int .i64 1, .int .i64 0] 78)).alloc (.cells #[.int .i64 1, .int .i64 0, .int .i64 1, .int .i64 3, .int .i64 0, .int .i64 0, .int .u32 0] 58)).alloc (.cells #[.slice (some ⟨w.heap.size + 1, 0, none⟩) 2 2, .slice (some ⟨w.heap.size + 1 + 1, 0, none⟩) 1 1, .int .i64 1, .slice (some ⟨w.heap.size + 1 + 1 + 1 + 1, 0, none⟩) 1 1, .int .i64 1, .slice (some ⟨w.heap.size + 1 + 1 + 1 + 1 + 1, 0, none⟩) 1 1] 35)).alloc (.cells #[.int .i64 0, .int .i64 0, .int .i64 1] 80)).alloc (.cells #[.int .i64 1, .int .i64 0, .int .i64 1] 80))) := ⟨_, rfl⟩
  rw [← hV.out]
  have h0 : V.heap[w.heap.size]? = some (.cells #[.slice (some ⟨w.heap.size + 1, 0, none⟩) 2 2, .slice (some ⟨w.heap.size + 1 + 1, 0, none⟩) 1 1, .int .i64 1, .slice (some ⟨w.heap.size + 1 + 1 + 1 + 1, 0, none⟩) 1 1, .int .i64 1, .slice (some ⟨w.heap.size + 1 + 1 + 1 + 1 + 1, 0, none⟩) 1 1] 35) := by rw [hV.out]; rw [Below.heap_alloc _ _ _ (by simp; try omega)]; rw [Below.heap_alloc _ _ _ (by simp; try omega)]; rw [Below.heap_alloc _ _ _ (by simp; try omega)]; rw [Below.heap_alloc _ _ _ (by simp; try omega)]; rw [Below.heap_alloc _ _ _ (by simp; try omega)]; exact heap_new_at10 _ _ (by simp)
  have h1 : V.heap[w.heap.size + 1]? = some (.cells #[.int .i64 0, .int .i64 2, .int .i64 1, .int .i64 0] 78) := by rw [hV.out]; rw [Below.heap_alloc _ _ _ (by simp; try omega)]; rw [Below.heap_alloc _ _ _ (by simp; try omega)]; rw [Below.heap_alloc _ _ _ (by simp; try omega)]; rw [Below.heap_alloc _ _ _ (by simp; try omega)]; exact heap_new_at10 _ _ (by simp)
  have h2 : V.heap[w.heap.size + 1 + 1]? = some (.cells #[.int .i64 1, .int .i64 0, .int .i64 1, .int .i64 3, .int .i64 0, .int .i64 0, .int .u32 0] 58) := by rw [hV.out]; rw [Below.heap_alloc _ _ _ (by simp; try omega)]; rw [Below.heap_alloc _ _ _ (by simp; try omega)]; rw [Below.heap_alloc _ _ _ (by simp; try omega)]; exact heap_new_at10 _ _ (by simp)
  have h3 : V.heap[w.heap.size + 1 + 1 + 1]? = some (.cells #[.slice (some ⟨w.heap.size + 1, 0, none⟩) 2 2, .slice (some ⟨w.heap.size + 1 + 1, 0, none⟩) 1 1, .int .i64 1, .slice (some ⟨w.heap.size + 1 + 1 + 1 + 1, 0, none⟩) 1 1, .int .i64 1, .slice (some ⟨w.heap.size + 1 + 1 + 1 + 1 + 1, 0, none⟩) 1 1] 35) := by rw [hV.out]; rw [Below.heap_alloc _ _ _ (by simp; try omega)]; rw [Below.heap_alloc _ _ _ (by simp; try omega)]; exact heap_new_at10 _ _ (by simp)
  have h4 : V.heap[w.heap.size + 1 + 1 + 1 + 1]? = some (.cells #[.int .i64 0, .int .i64 0, .int .i64 1] 80) := by rw [hV.out]; rw [Below.heap_alloc _ _ _ (by simp; try omega)]; exact heap_new_at10 _ _ (by simp)
  have h5 : V.heap[w.heap.size + 1 + 1 + 1 + 1 + 1]? = some (.cells #[.int .i64 1, .int .i64 0, .int .i64 1] 80) := by rw [hV.out]; exact heap_new_at10 _ _ (by simp)
  have hB : Below w.heap.size w V := by rw [hV.out]; exact ((((((Below.refl _ _).alloc (Nat.le_refl _) _).alloc (by simp; try omega) _).alloc (by simp; try omega) _).alloc (by simp; try omega) _).alloc (by simp; try omega) _).alloc (by simp; try omega) _
  have hS : V.heap.size = w.heap.size + 6 := by rw [hV.out]; simp
  have y0 := cell_blk h0 (i := 0) rfl
  have y1 := cell_blk h0 (i := 1) rfl
  have y2 := cell_blk h0 (i := 2) rfl
  have y3 := cell_blk h0 (i := 3) rfl
  have y4 := cell_blk h0 (i := 4) rfl
  have y5 := cell_blk h0 (i := 5) rfl
  clear hV
  refine bodyPost_ret (v := .agg #[.slice (some ⟨w.heap.size + 1, 0, none⟩) 2 2, .slice (some ⟨w.heap.size + 1 + 1, 0, none⟩) 1 1, .int .i64 1, .slice (some ⟨w.heap.size + 1 + 1 + 1 + 1, 0, none⟩) 1 1, .int .i64 1, .slice (some ⟨w.heap.size + 1 + 1 + 1 + 1 + 1, 0, none⟩) 1 1]) (by simp [results, Tryd.results20, go_sem, y0, y1, y2, y3, y4, y5]) rfl ⟨⟨some ⟨w.heap.size + 1, 0, none⟩, 2, some ⟨w.heap.size + 1 + 1, 0, none⟩, 1, some ⟨w.heap.size + 1 + 1 + 1 + 1, 0, none⟩, 1, some ⟨w.heap.size + 1 + 1 + 1 + 1 + 1, 0, none⟩, 1⟩, rfl, ⟨?_, ?_, ?_, ?_, ?_, ?_, ?_, ?_⟩, hB⟩
  · exact row_lit10 [.i64, .i64] (l := ex10.parts) h1 (by omega) ex10_wf.wp rfl
  · exact row_lit10 [.i64, .i64, .i64, .i64, .i64, .i64, .u32] (l := ex10.chans) h2 (by omega) ex10_wf.wc rfl
  · exact row_lit10 [.i64, .i64, .i64] (l := ex10.win0) h4 (by omega) ex10_wf.wa rfl
  · exact row_lit10 [.i64, .i64, .i64] (l := ex10.win1) h5 (by omega) ex10_wf.wb rfl
  all_goals exact ⟨by simp [ex10], by simp [maxLen], fun h => by cases h⟩
theorem ex10_ref : refusedN ex10 0 false [] 3 0 0 1 = 3 ∧ refusedN ex10 0 true [] 2 0 0 0 = 5 ∧ refusedN ex10 0 true [0] 3 0 0 1 = 0 := by decide +kernel
end Go.Proofs.YtnemabgenaijhaaDoor

namespace Go.Proofs.YtnemabgenaijhaaDoor
open Go.RowKit Go.Sort Go.ChangeShapes Go.WideShapes Go.Joins
set_option linter.unusedVariables false
set_option linter.unusedSimpArgs false

theorem size4 {α : Type} {cs : Array α} (h : cs.size = 4) : ∃ c0 c1 c2 c3, cs = #[c0, c1, c2, c3] := by
  obtain ⟨l⟩ := cs
  match l, h with
  | [c0, c1, c2, c3], _ => exact ⟨c0, c1, c2, c3, rfl⟩
section
variable {H : Type} {enc : TypeId × Value → H} {w : World} {r : Reach} {b0 : Nat} {v : Value} {d : DataW H} {p : List MemPlace}
set_option maxRecDepth 100000 in
theorem stand_open (hv : Value.okWide Tryd.prog w r b0 45 v) (h : DataW.Trod enc Tryd.prog w 0 (fun _ => true) true 45 v d p) :
    ∃ (sp : Int) (sn : Bool) (made : List Int) (ma : Option Addr) (mc : Nat) (va : Option Addr) (vn vc : Nat), v = .agg #[.int .i64 sp, .bool sn, .slice ma made.length mc, .slice va vn vc] ∧ (Lit.int .i64 sp).wf = true ∧ IntRowK .i64 w w.heap.size ma made := by
  obtain ⟨cs, rfl, hsz⟩ := okWide_struct Tryd.underlying45 hv
  obtain ⟨v0, v1, v2, v3, rfl⟩ := size4 (hsz.trans (by kernel_rfl))
  obtain ⟨fuel, hf⟩ := h
  obtain ⟨xs, m, _, _, _, hxl, hff⟩ := DataW.trod_struct Tryd.underlying45 (show DataW.trod enc Tryd.prog w 0 (fun _ => true) true fuel 45 [v0, v1, v2, v3] = some (d, p) by simpa [Value.cells] using hf)
  simp only [List.size_toArray, List.length_cons, List.length_nil] at hxl
  have h0 := hff 0 _ rfl
  have h1 := hff 1 _ rfl
  have h2 := hff 2 _ rfl
  have h3 := hff 3 _ rfl
  have k1 : Tryd.prog.cellsOf 3 = 1 := by kernel_rfl
  have k2 : Tryd.prog.cellsOf 4 = 1 := by kernel_rfl
  have k3 : Tryd.prog.cellsOf 43 = 1 := by kernel_rfl
  rw [List.getElem?_eq_getElem (by omega)] at h0 h1 h2 h3
  simp [k1, k2, k3] at h0 h1 h2 h3
  obtain ⟨sp, e0, _, w0⟩ := DataW.trod_int Tryd.underlying3 h0
  obtain ⟨sn, e1, _⟩ := DataW.trod_bool Tryd.underlying4 h1
  obtain ⟨ma, mn, mc, e2⟩ := slice_form Tryd.underlying43 h2
  obtain ⟨va, vn, vc, e3⟩ := slice_form Tryd.underlying43 h3
  rw [e2] at h2
  obtain ⟨l, rfl, _, _, _, hr, _⟩ := ints_argK .i64 Tryd.underlying43 Tryd.underlying3 k1 ⟨_, h2⟩
  simp at e0 e1 e2 e3
  subst e0 e1 e2 e3
  exact ⟨sp, sn, l, ma, mc, va, vn, vc, rfl, w0, hr⟩
set_option maxRecDepth 100000 in
theorem req_open (hv : Value.okWide Tryd.prog w r b0 49 v) (h : DataW.Trod enc Tryd.prog w 0 (fun _ => true) true 49 v d p) :
    ∃ (op port ad : Int) (da : Option Addr) (dn dc : Nat), v = .agg #[.int .i64 op, .int .i64 port, .int .u64 ad, .slice da dn dc] ∧ (Lit.int .i64 op).wf = true ∧ (Lit.int .i64 port).wf = true ∧ (Lit.int .u64 ad).wf = true := by
  obtain ⟨cs, rfl, hsz⟩ := okWide_struct Tryd.underlying49 hv
  obtain ⟨v0, v1, v2, v3, rfl⟩ := size4 (hsz.trans (by kernel_rfl))
  obtain ⟨fuel, hf⟩ := h
  obtain ⟨xs, m, _, _, _, hxl, hff⟩ := DataW.trod_struct Tryd.underlying49 (show DataW.trod enc Tryd.prog w 0 (fun _ => true) true fuel 49 [v0, v1, v2, v3] = some (d, p) by simpa [Value.cells] using hf)
  simp only [List.size_toArray, List.length_cons, List.length_nil] at hxl
  have h0 := hff 0 _ rfl
  have h1 := hff 1 _ rfl
  have h2 := hff 2 _ rfl
  have h3 := hff 3 _ rfl
  have k1 : Tryd.prog.cellsOf 3 = 1 := by kernel_rfl
  have k2 : Tryd.prog.cellsOf 46 = 1 := by kernel_rfl
  have k3 : Tryd.prog.cellsOf 47 = 1 := by kernel_rfl
  rw [List.getElem?_eq_getElem (by omega)] at h0 h1 h2 h3
  simp [k1, k2, k3] at h0 h1 h2 h3
  obtain ⟨op, e0, _, w0⟩ := DataW.trod_int Tryd.underlying3 h0
  obtain ⟨port, e1, _, w1⟩ := DataW.trod_int Tryd.underlying3 h1
  obtain ⟨ad, e2, _, w2⟩ := DataW.trod_int Tryd.underlying46 h2
  obtain ⟨da, dn, dc, e3⟩ := slice_form Tryd.underlying47 h3
  simp at e0 e1 e2 e3
  subst e0 e1 e2 e3
  exact ⟨op, port, ad, da, dn, dc, rfl, w0, w1, w2⟩
end
end Go.Proofs.YtnemabgenaijhaaDoor
