/- The example of the law. No condition but those in the statements. The openings of a standing and of a request by value. No condition but those in the statements. -/
import Derived.Test.YtmhpcgcloojfbaaGreatDoorRows10
import Derived.BigQuiet
import Derived.IntWalk
import Derived.Test.YtmhpcgcloojfbaaGreatDoorRMade
import Derived.Lib.SmallJoins
namespace Go.Proofs.YtmhpcgcloojfbaaGreatDoor
open Go.RowKit Go.Sort Go.ChangeShapes Go.WideShapes
set_option linter.unusedVariables false
set_option linter.unusedSimpArgs false

/-- The law's example. -/
def ex10 : Cfg := ⟨[[0, 2], [1, 0]], [[1, 0, 1, 3, 0, 0, 0]], 1, [[0, 0, 1]], 1, [[1, 0, 1]]⟩
theorem heap_new_at10 (w : World) (o : Obj) {k : Nat} (h : k = w.heap.size) : (w.alloc o).heap[k]? = some o := by subst h; exact heap_alloc_new w o
/-- A row that fills a block. -/
theorem row_lit10 (ks : List IntKind) {w : World} {b B : Nat} {cs : Array Value} {t : TypeId} {m : Nat × Nat} {l : List (List Int)} (h : w.heap[b]? = some (.cells cs t m)) (hB : b < B) (hw : wfR ks l) (hcs : cs = (rcells ks l).toArray) :
    RowN ks w B (some ⟨b, 0, none⟩) l := fun _ => by
  refine ⟨b, 0, rfl, hB, fun i x hx j v hv => ?_⟩
  have hj : j < ks.length := by have := (List.getElem?_eq_some_iff.1 hv).1; rwa [ncells_len (hw x (List.mem_of_getElem? hx)).1] at this
  have h1 := rcells_at hw hx j hj
  rw [Nat.zero_add]
  exact cell_blk h (by rw [hcs]; simpa using h1.trans hv)
theorem ex10_wf : CfgWf ex10 :=
  ⟨fun q hq => by simp [ex10] at hq; rcases hq with rfl | rfl <;> exact wfN2_mk rfl rfl, fun q hq => by simp [ex10] at hq; subst hq; exact wfN7_mk rfl rfl rfl rfl rfl rfl rfl, fun q hq => by simp [ex10] at hq; subst hq; exact wfN3_mk rfl rfl rfl, fun q hq => by simp [ex10] at hq; subst hq; exact wfN3_mk rfl rfl rfl, rfl, rfl⟩
theorem ex10_few : CfgFew ex10 := ⟨by simp [ex10], by simp [ex10], by simp [ex10], by simp [ex10]⟩
theorem ex10_ref : refusedN ex10 0 false [] 3 0 0 1 = 3 ∧ refusedN ex10 0 true [] 2 0 0 0 = 5 ∧ refusedN ex10 0 true [0] 3 0 0 1 = 0 := by decide +kernel
end Go.Proofs.YtmhpcgcloojfbaaGreatDoor

namespace Go.Proofs.YtmhpcgcloojfbaaGreatDoor
open Go.RowKit Go.Sort Go.ChangeShapes Go.WideShapes Go.Joins
set_option linter.unusedVariables false
set_option linter.unusedSimpArgs false

theorem size4 {α : Type} {cs : Array α} (h : cs.size = 4) : ∃ c0 c1 c2 c3, cs = #[c0, c1, c2, c3] := by
  obtain ⟨l⟩ := cs
  match l, h with
  | [c0, c1, c2, c3], _ => exact ⟨c0, c1, c2, c3, rfl⟩
section
variable {H : Type} {enc : TypeId × Value → H} {w : World} {r : Reach} {b0 : Nat} {v : Value} {d : DataW H} {p : List MemPlace}
set_option maxRecDepth 100000 in
theorem stand_open (hv : Value.okWide Tryz.prog w r b0 32 v) (h : DataW.Trod enc Tryz.prog w 0 (fun _ => true) true 32 v d p) :
    ∃ (sp : Int) (sn : Bool) (made : List Int) (ma : Option Addr) (mc : Nat) (va : Option Addr) (vn vc : Nat), v = .agg #[.int .i64 sp, .bool sn, .slice ma made.length mc, .slice va vn vc] ∧ (Lit.int .i64 sp).wf = true ∧ IntRowK .i64 w w.heap.size ma made := by
  obtain ⟨cs, rfl, hsz⟩ := okWide_struct Tryz.underlying32 hv
  obtain ⟨v0, v1, v2, v3, rfl⟩ := size4 (hsz.trans (by kernel_rfl))
  obtain ⟨fuel, hf⟩ := h
  obtain ⟨xs, m, _, _, _, hxl, hff⟩ := DataW.trod_struct Tryz.underlying32 (show DataW.trod enc Tryz.prog w 0 (fun _ => true) true fuel 32 [v0, v1, v2, v3] = some (d, p) by simpa [Value.cells] using hf)
  simp only [List.size_toArray, List.length_cons, List.length_nil] at hxl
  have h0 := hff 0 _ rfl
  have h1 := hff 1 _ rfl
  have h2 := hff 2 _ rfl
  have h3 := hff 3 _ rfl
  have k1 : Tryz.prog.cellsOf 3 = 1 := by kernel_rfl
  have k2 : Tryz.prog.cellsOf 4 = 1 := by kernel_rfl
  have k3 : Tryz.prog.cellsOf 30 = 1 := by kernel_rfl
  rw [List.getElem?_eq_getElem (by omega)] at h0 h1 h2 h3
  simp [k1, k2, k3] at h0 h1 h2 h3
  obtain ⟨sp, e0, _, w0⟩ := DataW.trod_int Tryz.underlying3 h0
  obtain ⟨sn, e1, _⟩ := DataW.trod_bool Tryz.underlying4 h1
  obtain ⟨ma, mn, mc, e2⟩ := slice_form Tryz.underlying30 h2
  obtain ⟨va, vn, vc, e3⟩ := slice_form Tryz.underlying30 h3
  rw [e2] at h2
  obtain ⟨l, rfl, _, _, _, hr, _⟩ := ints_argK .i64 Tryz.underlying30 Tryz.underlying3 k1 ⟨_, h2⟩
  simp at e0 e1 e2 e3
  subst e0 e1 e2 e3
  exact ⟨sp, sn, l, ma, mc, va, vn, vc, rfl, w0, hr⟩
set_option maxRecDepth 100000 in
theorem req_open (hv : Value.okWide Tryz.prog w r b0 36 v) (h : DataW.Trod enc Tryz.prog w 0 (fun _ => true) true 36 v d p) :
    ∃ (op port ad : Int) (da : Option Addr) (dn dc : Nat), v = .agg #[.int .i64 op, .int .i64 port, .int .u64 ad, .slice da dn dc] ∧ (Lit.int .i64 op).wf = true ∧ (Lit.int .i64 port).wf = true ∧ (Lit.int .u64 ad).wf = true := by
  obtain ⟨cs, rfl, hsz⟩ := okWide_struct Tryz.underlying36 hv
  obtain ⟨v0, v1, v2, v3, rfl⟩ := size4 (hsz.trans (by kernel_rfl))
  obtain ⟨fuel, hf⟩ := h
  obtain ⟨xs, m, _, _, _, hxl, hff⟩ := DataW.trod_struct Tryz.underlying36 (show DataW.trod enc Tryz.prog w 0 (fun _ => true) true fuel 36 [v0, v1, v2, v3] = some (d, p) by simpa [Value.cells] using hf)
  simp only [List.size_toArray, List.length_cons, List.length_nil] at hxl
  have h0 := hff 0 _ rfl
  have h1 := hff 1 _ rfl
  have h2 := hff 2 _ rfl
  have h3 := hff 3 _ rfl
  have k1 : Tryz.prog.cellsOf 3 = 1 := by kernel_rfl
  have k2 : Tryz.prog.cellsOf 33 = 1 := by kernel_rfl
  have k3 : Tryz.prog.cellsOf 34 = 1 := by kernel_rfl
  rw [List.getElem?_eq_getElem (by omega)] at h0 h1 h2 h3
  simp [k1, k2, k3] at h0 h1 h2 h3
  obtain ⟨op, e0, _, w0⟩ := DataW.trod_int Tryz.underlying3 h0
  obtain ⟨port, e1, _, w1⟩ := DataW.trod_int Tryz.underlying3 h1
  obtain ⟨ad, e2, _, w2⟩ := DataW.trod_int Tryz.underlying33 h2
  obtain ⟨da, dn, dc, e3⟩ := slice_form Tryz.underlying34 h3
  simp at e0 e1 e2 e3
  subst e0 e1 e2 e3
  exact ⟨op, port, ad, da, dn, dc, rfl, w0, w1, w2⟩
end
end Go.Proofs.YtmhpcgcloojfbaaGreatDoor
