/- layer 19's example. No condition but those in the statements. -/
import Derived.Test.YtmonneeikkgllaaWRt
import Derived.Test.YtmonneeikkgllaaHWk
import Derived.BigQuiet
import Derived.IntWalk
import Derived.BigRegion
import Derived.OpenShut
import Derived.Deep.MidRow
import Derived.Lib.Hide
import Derived.Deep.Slices
import Derived.Lib.SmallJoins
import Derived.OwnWalk
namespace Go.Proofs.Ytmonneeikkgllaa
open WtP Go.RowKit Go.Sort Go.Deep Go.ChangeShapes Go.WideShapes Go.Joins
set_option linter.unusedVariables false
set_option linter.unusedSimpArgs false


/-- The example's call. -/
def xv19 : CV := { zcv with done := true, own0 := 1, own1 := 1, ring := -1, saw := -1 }
theorem xv19_cells : (cCells xv19).toArray = #[.int .i64 0, .int .i64 0, .int .i64 0, .int .u64 0, .slice none 0 0, .int .i64 0, .slice none 0 0, .bool false, .int .i64 0, .bool true, .int .i64 0, .int .i64 0, .int .i64 0, .int .i64 0, .int .i64 1, .int .i64 1, .int .i64 0, .int .i64 (-1), .int .i64 0, .int .i64 (-1)] := by unfold cCells xv19 zcv; rfl
theorem xv19_row {w : World} {b : Nat} {t : TypeId} {m : Nat × Nat} (h : w.heap[b]? = some (.cells (cCells xv19).toArray t m)) : CRow w w.heap.size (some ⟨b, 0, none⟩) [xv19] := fun _ => by
  refine ⟨b, 0, rfl, (Array.getElem?_eq_some_iff.1 h).1, fun i v hv => ?_⟩
  match i, hv with
  | 0, hv => injection hv with hv; subst hv; exact ⟨CAt.of_blk h, ⟨fun h => absurd h (by simp [xv19, zcv]), ⟨by simp [xv19, zcv], by simp [xv19, zcv], fun _ => rfl⟩, fun h => absurd h (by simp [xv19, zcv]), ⟨by simp [xv19, zcv], by simp [xv19, zcv], fun _ => rfl⟩⟩, ⟨by decide, by decide, by decide⟩⟩
  | i + 1, hv => simp at hv
theorem wit_none : witS [] [] = [] := by simp [witS, allP, upN, ordS]
theorem wit_one : witS [xv19] [] = [⟨0, 0, 1, 0⟩] := by
  have h : allP (spL [xv19]) (rgL [xv19]) (btL []) [xv19].length ([] : List BV).length = [⟨0, 0, 1, 0⟩] := by
    unfold allP
    simp [upN, both, effs, rngs, spL, rgL, spotN, xv19, zcv, rk]
  unfold witS
  rw [h]
  exact (ordS_one (List.Perm.refl _) (List.pairwise_singleton _ _)).symm
theorem fold19 (v : CV) : List.foldl (fun (cs : Array Value) (x : Value × Nat) => cs.setIfInBounds x.snd x.fst) #[.int .i64 0, .int .i64 0, .int .i64 0, .int .u64 0, .slice none 0 0, .int .i64 0, .slice none 0 0, .bool false, .int .i64 0, .bool false, .int .i64 0, .int .i64 0, .int .i64 0, .int .i64 0, .int .i64 0, .int .i64 0, .int .i64 0, .int .i64 0, .int .i64 0, .int .i64 0] (cCells v).zipIdx = (cCells v).toArray := by unfold cCells; kernel_rfl
set_option maxRecDepth 100000 in
set_option maxHeartbeats 4000000 in
theorem wakes19_b (w : World) : Calls Try.prog 6 #[] w fun e w' => e = .returned (.bool true) ∧ Below w.heap.size w w' := by
  obtain ⟨X1, W, HX1, HX2, hth, -, hbW, hsW, hxv⟩ := var17 w xv19 #[.int .i64 0, .int .i64 0, .int .i64 0, .int .u64 0, .slice none 0 0, .int .i64 0, .slice none 0 0, .bool false, .int .i64 0, .bool false, .int .i64 0, .int .i64 0, .int .i64 0, .int .i64 0, .int .i64 0, .int .i64 0, .int .i64 0, .int .i64 0, .int .i64 0, .int .i64 0] rfl
  rw [xv19_cells] at HX2 hth
  have HTH := Lib.hid hth
  have hin : (Try.prog.info? 51).map (·.size) = some (#[.int .i64 0, .int .i64 0, .int .i64 0, .int .u64 0, .slice none 0 0, .int .i64 0, .slice none 0 0, .bool false, .int .i64 0, .bool true, .int .i64 0, .int .i64 0, .int .i64 0, .int .i64 0, .int .i64 1, .int .i64 1, .int .i64 0, .int .i64 (-1), .int .i64 0, .int .i64 (-1)] : Array Value).size := by kernel_rfl
  have hon : (#[.int .i64 0, .int .i64 0, .int .i64 0, .int .u64 0, .slice none 0 0, .int .i64 0, .slice none 0 0, .bool false, .int .i64 0, .bool true, .int .i64 0, .int .i64 0, .int .i64 0, .int .i64 0, .int .i64 1, .int .i64 1, .int .i64 0, .int .i64 (-1), .int .i64 0, .int .i64 (-1)] : Array Value).all (·.oneCell') = true := by kernel_rfl
  have HIN0 := Lib.hid hin; have HON0 := Lib.hid hon
  have HBW := Lib.hid hbW; have HXV := Lib.hid hxv
  clear hth hbW hsW hxv hin hon
  have HO1 := Lib.hid (fun u : World => order19_b [] none 0 [] none 0 u (fun h => absurd h (by simp)) (fun h => absurd h (by simp)) (by simp) (by simp))
  rw [wit_none] at HO1
  go_enter Try.func6, Try.ntmps6
  go_wp2_with (first | (rw [← HX1.out]) | (with_reducible refine wpList_store_mid (by kernel_rfl) _ _ _ rfl w.heap.size 0 #[.int .i64 0, .int .i64 0, .int .i64 0, .int .u64 0, .slice none 0 0, .int .i64 0, .slice none 0 0, .bool false, .int .i64 0, .bool true, .int .i64 0, .int .i64 0, .int .i64 0, .int .i64 0, .int .i64 1, .int .i64 1, .int .i64 0, .int .i64 (-1), .int .i64 0, .int .i64 (-1)] (by kernel_rfl) (by kernel_rfl) HTH.out HIN0.out HON0.out ?_) | (rw [← HX2.out]))
  refine (HO1.out _).mono ?_
  rintro e w1 ⟨v1, rfl, hown1, hb1⟩
  obtain ⟨A1, c1, rfl, -, -, -⟩ := own_irow hown1 rfl
  have HB1 := Lib.hid (HBW.out.trans (hb1.mono HBW.out.size))
  have HX1 : Hid (CAt w1 w.heap.size 0 xv19) := Lib.hid (HXV.out.later hb1 HXV.out.lt)
  obtain ⟨X, HX⟩ : ∃ u, Hid (u = w1.alloc (.cells (cCells xv19).toArray 51)) := ⟨_, rfl⟩
  have hbX : Below w1.heap.size w1 X := by rw [HX.out]; exact (Below.refl _ _).alloc (Nat.le_refl _) _
  have HRX := Lib.hid (xv19_row (w := X) (b := w1.heap.size) (t := 51) (m := (0, 0)) (by rw [HX.out]; exact heap_alloc_new _ _))
  have HBX := Lib.hid (HB1.out.trans (hbX.mono HB1.out.size))
  have HO2 := Lib.hid (order19_b [xv19] (some ⟨w1.heap.size, 0, none⟩) 1 [] none 0 X HRX.out (fun h => absurd h (by simp)) (by simp) (by simp))
  rw [wit_one] at HO2
  have hl20 := cCells_len xv19
  have hfold := fold19 xv19
  clear hown1 hb1 hbX
  go_wp2_with (first | (with_reducible refine wpList_loadC (by kernel_rfl) _ rfl _ _ xv19 (by kernel_rfl) HX1.out ?_) | (rw [← HX.out]))
  refine HO2.out.mono ?_
  rintro e w3 ⟨v3, rfl, hown3, hb3⟩
  obtain ⟨A3, c3, rfl, -, -, hir⟩ := own_irow hown3 rfl
  have HB3 := Lib.hid (HBX.out.trans (hb3.mono HBX.out.size))
  have HIR := Lib.hid hir
  obtain ⟨Y, HY⟩ : ∃ u, Hid (u = w3.alloc (.cells #[.int .i64 1, .int .i64 0] 37)) := ⟨_, rfl⟩
  have hbY : Below w3.heap.size w3 Y := by rw [HY.out]; exact (Below.refl _ _).alloc (Nat.le_refl _) _
  have hYb : Y.heap[w3.heap.size]? = some (.cells #[.int .i64 1, .int .i64 0] 37 (0, 0)) := by rw [HY.out]; exact heap_alloc_new _ _
  have HIY := Lib.hid (hir.later hbY)
  have HBY := Lib.hid (HB3.out.trans (hbY.mono HB3.out.size))
  have HIN : Hid (IRow Y Y.heap.size (some ⟨w3.heap.size, 0, none⟩) [⟨0, 0, 1, 0⟩]) := Lib.hid (fun _ => ⟨w3.heap.size, 0, rfl, (Array.getElem?_eq_some_iff.1 hYb).1, fun i x hx => by
    match i, hx with
    | 0, hx => injection hx with hx; subst hx; exact ⟨cell_at19 hYb rfl, cell_at19 hYb rfl⟩
    | i + 1, hx => simp at hx⟩)
  clear hown3 hb3 hir hbY hYb hl20 hfold
  go_wp2_with (rw [← HY.out])
  refine (same19_b [⟨0, 0, 1, 0⟩] A3 _ c3 1 Y HIY.out HIN.out (by simp)).mono ?_
  rintro e w5 ⟨rfl, hb5⟩
  have HB5 := Lib.hid (HBY.out.trans (hb5.mono HBY.out.size))
  clear hb5
  go_wp2
  go_ret
  exact ⟨rfl, HB5.out⟩
end Go.Proofs.Ytmonneeikkgllaa
