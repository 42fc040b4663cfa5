/- wakes answers true. No condition but those in the statements. -/
import Derived.Test.YtfnpdoppdbhlcaaAt
import Derived.BigQuiet
import Derived.IntWalk
import Derived.BigRegion
import Derived.OpenShut
namespace Go.Proofs.Ytfnpdoppdbhlcaa
open Go.RowKit Go.Sort Go.ChangeShapes Go.WideShapes
set_option linter.unusedVariables false
set_option linter.unusedSimpArgs false

theorem at_open_no (len : Int) (l : List (List Int)) (A : Option Addr) (c : Nat) (t : Int) (w : World) (hf : FIn w len l A)  (h : atO openB len l t = none) : Calls Try.prog 9 #[.agg #[.int .i64 len, .slice A l.length c], .int .i64 t] w fun e w' => e = .returned (.tuple #[.int .i64 0, .bool false]) ∧ Below w.heap.size w w' := by
  have := at_open_b len l A c t w hf
  rwa [h] at this
theorem at_open_yes (len : Int) (l : List (List Int)) (A : Option Addr) (c : Nat) (t : Int) (q : Int) (w : World) (hf : FIn w len l A)  (h : atO openB len l t = some q) : Calls Try.prog 9 #[.agg #[.int .i64 len, .slice A l.length c], .int .i64 t] w fun e w' => e = .returned (.tuple #[.int .i64 q, .bool true]) ∧ Below w.heap.size w w' := by
  have := at_open_b len l A c t w hf
  rwa [h] at this
theorem at_ent_no (len : Int) (l : List (List Int)) (A : Option Addr) (c : Nat) (t : Int) (w : World) (hf : FIn w len l A)  (h : atO entB len l t = none) : Calls Try.prog 10 #[.agg #[.int .i64 len, .slice A l.length c], .int .i64 t] w fun e w' => e = .returned (.tuple #[.int .i64 0, .bool false]) ∧ Below w.heap.size w w' := by
  have := at_ent_b len l A c t w hf
  rwa [h] at this
theorem at_ent_yes (len : Int) (l : List (List Int)) (A : Option Addr) (c : Nat) (t : Int) (q : Int) (w : World) (hf : FIn w len l A)  (h : atO entB len l t = some q) : Calls Try.prog 10 #[.agg #[.int .i64 len, .slice A l.length c], .int .i64 t] w fun e w' => e = .returned (.tuple #[.int .i64 q, .bool true]) ∧ Below w.heap.size w w' := by
  have := at_ent_b len l A c t w hf
  rwa [h] at this

def exL : List (List Int) := [[7, 1, 2], [8, 3, 1]]
theorem ex_wf : wfR [.i64, .i64, .i64] exL := by
  intro x hx
  simp [exL] at hx
  rcases hx with rfl | rfl
  · exact wfN3_mk (by decide) (by decide) (by decide)
  · exact wfN3_mk (by decide) (by decide) (by decide)
theorem ex_row {w : World} {b : Nat} (h : w.heap[b]? = some (.cells #[.int .i64 7, .int .i64 1, .int .i64 2, .int .i64 8, .int .i64 3, .int .i64 1] 39 (0, 0))) : RowN [.i64, .i64, .i64] w w.heap.size (some ⟨b, 0, none⟩) exL := by
  intro _
  refine ⟨b, 0, rfl, (Array.getElem?_eq_some_iff.1 h).1, fun i x hx j v hv => ?_⟩
  match i, hx with
  | 0, hx =>
    cases hx
    match j, hv with
    | 0, hv => cases hv; exact cell_blk h rfl
    | 1, hv => cases hv; exact cell_blk h rfl
    | 2, hv => cases hv; exact cell_blk h rfl
    | j + 3, hv => simp [ncells] at hv
  | 1, hx =>
    cases hx
    match j, hv with
    | 0, hv => cases hv; exact cell_blk h rfl
    | 1, hv => cases hv; exact cell_blk h rfl
    | 2, hv => cases hv; exact cell_blk h rfl
    | j + 3, hv => simp [ncells] at hv
  | i + 2, hx => simp [exL] at hx
theorem ex_b (w : World) : Calls Try.prog 20 #[] w fun e w' => ∃ b, e = .returned (.agg #[.int .i64 5, .slice (some ⟨b, 0, none⟩) 2 2]) ∧ FIn w' 5 exL (some ⟨b, 0, none⟩) ∧ Below w.heap.size w w' := by
  go_enter Try.func20, Try.ntmps20
  go_wp2
  have h0 : ((w.alloc (.cells #[.int .i64 5, .slice (some ⟨w.heap.size + 1, 0, none⟩) 2 2] 24)).alloc (.cells #[.int .i64 7, .int .i64 1, .int .i64 2, .int .i64 8, .int .i64 3, .int .i64 1] 39)).heap[w.heap.size]? = some (.cells #[.int .i64 5, .slice (some ⟨w.heap.size + 1, 0, none⟩) 2 2] 24 (0, 0)) :=
    (Below.heap_alloc _ _ _ (by simp)).trans (heap_alloc_new _ _)
  have h1 : ((w.alloc (.cells #[.int .i64 5, .slice (some ⟨w.heap.size + 1, 0, none⟩) 2 2] 24)).alloc (.cells #[.int .i64 7, .int .i64 1, .int .i64 2, .int .i64 8, .int .i64 3, .int .i64 1] 39)).heap[w.heap.size + 1]? = some (.cells #[.int .i64 7, .int .i64 1, .int .i64 2, .int .i64 8, .int .i64 3, .int .i64 1] 39 (0, 0)) := by
    have := heap_alloc_new (w.alloc (.cells #[.int .i64 5, .slice (some ⟨w.heap.size + 1, 0, none⟩) 2 2] 24)) (.cells #[.int .i64 7, .int .i64 1, .int .i64 2, .int .i64 8, .int .i64 3, .int .i64 1] 39)
    rwa [World.size_alloc] at this
  have hbw : Below w.heap.size w ((w.alloc (.cells #[.int .i64 5, .slice (some ⟨w.heap.size + 1, 0, none⟩) 2 2] 24)).alloc (.cells #[.int .i64 7, .int .i64 1, .int .i64 2, .int .i64 8, .int .i64 3, .int .i64 1] 39)) := ((Below.refl _ w).alloc (Nat.le_refl _) _).alloc (by simp) _
  generalize (w.alloc (.cells #[.int .i64 5, .slice (some ⟨w.heap.size + 1, 0, none⟩) 2 2] 24)).alloc (.cells #[.int .i64 7, .int .i64 1, .int .i64 2, .int .i64 8, .int .i64 3, .int .i64 1] 39) = wf at h0 h1 hbw ⊢
  have y0 := cell_blk h0 (i := 0) rfl
  have y1 := cell_blk h0 (i := 1) rfl
  refine bodyPost_ret (v := .agg #[.int .i64 5, .slice (some ⟨w.heap.size + 1, 0, none⟩) 2 2]) (by simp [results, Try.results20, go_sem, y0, y1]) rfl ⟨w.heap.size + 1, rfl, ⟨ex_row h1, ex_wf, by decide, by decide⟩, hbw⟩
set_option maxRecDepth 100000 in
set_option maxHeartbeats 1600000 in
theorem wakes_b (w : World) : Calls Try.prog 8 #[] w fun e w' => e = .returned (.bool true) ∧ Below w.heap.size w w' := by
  go_enter Try.func8, Try.ntmps8
  go_wp2_with fail
  refine (ex_b w).mono ?_
  rintro e w1 ⟨b, rfl, hf, hb⟩
  obtain ⟨W, HW, hB, hWs, bx⟩ := fbox_new w1 5 (some ⟨b, 0, none⟩) 2 2 24
  have hfW := hf.later hB
  have HB := Lib.hid (hb.trans (hB.mono hb.size))
  obtain ⟨c0, c1⟩ := bx _ (Below.refl _ _)
  clear hf hb hB hWs
  go_wp2_with (first | (rw [← HW.out]) | fail)
  refine (at_open_yes 5 exL (some ⟨b, 0, none⟩) 2 7 7 _ hfW (by decide)).mono ?_
  rintro e w2 ⟨rfl, hb2⟩
  obtain ⟨c0, c1⟩ := bx _ hb2
  have hf2 := hfW.later hb2
  have HB2 := Lib.hid hb2
  clear hfW hb2
  go_wp2_with fail
  refine (at_open_no 5 exL (some ⟨b, 0, none⟩) 2 9 _ hf2 (by decide)).mono ?_
  rintro e w3 ⟨rfl, hb3⟩
  have HB3 := Lib.hid (HB2.out.trans (hb3.mono HB2.out.size))
  obtain ⟨c0, c1⟩ := bx _ HB3.out
  have hf3 := hf2.later hb3
  clear hf2 hb3
  go_wp2_with fail
  refine (at_ent_yes 5 exL (some ⟨b, 0, none⟩) 2 6 7 _ hf3 (by decide)).mono ?_
  rintro e w4 ⟨rfl, hb4⟩
  have HB4 := Lib.hid (HB3.out.trans (hb4.mono HB3.out.size))
  clear hf3 hb4 c0 c1 bx
  go_wp2
  go_ret
  exact ⟨rfl, HB.out.trans (HB4.out.mono HB.out.size)⟩
end Go.Proofs.Ytfnpdoppdbhlcaa
