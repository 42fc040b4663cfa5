/- cmp.Compare, cmp.Or, and the function that All hands to the sort. No condition but those in the statements. -/
import Derived.Test.YtmonneeikkgllaaHCl
import Derived.Test.YtmonneeikkgllaaWT
import Derived.BigQuiet
import Derived.IntWalk
import Derived.BigRegion
import Derived.OpenShut
import Derived.Deep.MidRow
import Derived.Shelf.SlSortCmp.KitK
import Derived.Deep.RegionHeld3
import Derived.Lib.Hide
namespace Go.Proofs.Ytmonneeikkgllaa
open WtP Go.RowKit Go.Sort Go.ChangeShapes Go.WideShapes
set_option linter.unusedVariables false
set_option linter.unusedSimpArgs false


theorem nan19_b (x : Int) (w : World) : Calls Try.prog 30 #[.int .i64 x] w fun e w' => e = .returned (.bool false) ∧ w = w' := by
  go_enter Try.func30, Try.ntmps30
  go_wp2
  go_ret
  exact ⟨by simp, rfl⟩
theorem cmp19_b (x y : Int) (w : World) : Calls Try.prog 24 #[.int .i64 x, .int .i64 y] w fun e w' => e = .returned (.int .i64 (cmpI x y)) ∧ w = w' := by
  by_cases h1 : x < y
  · rw [show cmpI x y = -1 by simp [cmpI, h1]]
    go_enter Try.func24, Try.ntmps24
    go_wp2_with (go_at_call 30; refine (nan19_b _ _).mono ?_; rintro e w' ⟨rfl, rfl⟩)
    go_ret
    exact ⟨rfl, rfl⟩
  · by_cases h2 : y < x
    · rw [show cmpI x y = 1 by simp [cmpI, h1, h2]]
      go_enter Try.func24, Try.ntmps24
      go_wp2_with (go_at_call 30; refine (nan19_b _ _).mono ?_; rintro e w' ⟨rfl, rfl⟩)
      go_ret
      exact ⟨rfl, rfl⟩
    · rw [show cmpI x y = 0 by simp [cmpI, h1, h2]]
      go_enter Try.func24, Try.ntmps24
      go_wp2_with (go_at_call 30; refine (nan19_b _ _).mono ?_; rintro e w' ⟨rfl, rfl⟩)
      go_ret
      exact ⟨rfl, rfl⟩
theorem or19_b (a b : Int) (B c : Nat) (w : World) (h0 : w.cell? ⟨B, 0, none⟩ = some (.int .i64 a)) (h1 : w.cell? ⟨B, 1, none⟩ = some (.int .i64 b)) : Calls Try.prog 23 #[.slice (some ⟨B, 0, none⟩) 2 c] w fun e w' => e = .returned (.int .i64 (if a ≠ 0 then a else b)) ∧ w = w' := by
  go_enter Try.func23, Try.ntmps23
  go_wp2
  go_loopw [5, 8] (fun v ix wr => ∃ k : Nat, k ≤ 2 ∧ ix = .int .i64 k ∧ (1 ≤ k → a = 0) ∧ (2 ≤ k → b = 0) ∧ w = wr) (fun _ ix _ => 2 - (intOf ix).toNat)
  case atStart => exact ⟨0, by omega, rfl, fun h => by omega, fun h => by omega, rfl⟩
  case round =>
    obtain ⟨k, hk, rfl, ha, hb, rfl⟩ := hrel
    have hk3 : k = 0 ∨ k = 1 ∨ k = 2 := by omega
    rcases hk3 with rfl | rfl | rfl
    · by_cases hz : a = 0
      · subst hz
        clear ha hb hk
        go_wp2
        go_roundw
        case rel => exact ⟨1, by omega, by go_num, by simp, by omega, by trivial⟩
        case measure => simp [intOf]
      · have hzn : (a != 0) = true := by simp [hz]
        clear ha hb hk
        go_wp2
        go_ret
        exact ⟨by simp [hz], rfl⟩
    · obtain rfl := ha (by omega)
      by_cases hz : b = 0
      · subst hz
        clear ha hb hk
        go_wp2
        go_roundw
        case rel => exact ⟨2, by omega, by go_num, by simp, by simp, by trivial⟩
        case measure => simp [intOf]
      · have hzn : (b != 0) = true := by simp [hz]
        clear ha hb hk
        go_wp2
        go_ret
        exact ⟨by simp, rfl⟩
    · obtain rfl := ha (by omega)
      obtain rfl := hb (by omega)
      clear ha hb hk
      go_wp2
      go_ret
      exact ⟨by simp, rfl⟩
/-- An item's cells. -/
def tc (x : T4) : List Value := [.int .i64 x.mom, .int .i64 x.rank, .int .i64 x.kind, .int .i64 x.idx]
theorem tc_len (x : T4) : (tc x).length = 4 := rfl
set_option maxHeartbeats 4000000 in
set_option maxRecDepth 100000 in
theorem clo19_b (x y : T4) (W : World) : Calls Try.prog 22 #[.agg (tc x).toArray, .agg (tc y).toArray] W fun e w' => e = .returned (.int .i64 (cf4 x y)) ∧ ∃ q os', w' = grow (W.drewN q) os' := by
  have hor : ∀ (B c : Nat) (w : World), w.cell? ⟨B, 0, none⟩ = some (.int .i64 (cmpI x.mom y.mom)) → w.cell? ⟨B, 1, none⟩ = some (.int .i64 (cmpI x.rank y.rank)) → Calls Try.prog 23 #[.slice (some ⟨B, 0, none⟩) 2 c] w fun e w' => e = .returned (.int .i64 (cf4 x y)) ∧ w = w' := fun B c w h0 h1 => or19_b _ _ B c w h0 h1
  have HC1 := Lib.hid (fun W' => cmp19_b x.mom y.mom W')
  have HC2 := Lib.hid (fun W' => cmp19_b x.rank y.rank W')
  generalize cf4 x y = z at hor ⊢
  generalize cmpI x.mom y.mom = r at HC1 hor
  generalize cmpI x.rank y.rank = s at HC2 hor
  have HOR := Lib.hid hor
  clear hor
  obtain ⟨x0, x1, x2, x3⟩ := x
  obtain ⟨y0, y1, y2, y3⟩ := y
  simp only [tc] at *
  obtain ⟨V, HV⟩ : ∃ V, Hid (V = (W.alloc (.cells #[.int .i64 x0, .int .i64 x1, .int .i64 x2, .int .i64 x3] 64)).alloc (.cells #[.int .i64 y0, .int .i64 y1, .int .i64 y2, .int .i64 y3] 64)) := ⟨_, rfl⟩
  have e1 : (W.alloc (.cells #[.int .i64 x0, .int .i64 x1, .int .i64 x2, .int .i64 x3] 64)).heap.size = W.heap.size + 1 := by simp
  have b0 : V.heap[W.heap.size]? = some (.cells #[.int .i64 x0, .int .i64 x1, .int .i64 x2, .int .i64 x3] 64 (0, 0)) := by rw [HV.out]; exact (Below.heap_alloc _ _ _ (by simp)).trans (heap_alloc_new W _)
  have b1 : V.heap[W.heap.size + 1]? = some (.cells #[.int .i64 y0, .int .i64 y1, .int .i64 y2, .int .i64 y3] 64 (0, 0)) := by rw [HV.out, ← e1]; exact heap_alloc_new _ _
  have HSV : Hid (V.cell? ⟨W.heap.size, 0, none⟩ = some (.int .i64 x0) ∧ V.cell? ⟨W.heap.size, 1, none⟩ = some (.int .i64 x1) ∧ V.cell? ⟨W.heap.size + 1, 0, none⟩ = some (.int .i64 y0) ∧ V.cell? ⟨W.heap.size + 1, 1, none⟩ = some (.int .i64 y1)) := Lib.hid (by simp [World.cell?, b0, b1])
  have HGV : Hid (V = grow (W.drewN 0) (#[.cells #[.int .i64 x0, .int .i64 x1, .int .i64 x2, .int .i64 x3] 64] ++ #[.cells #[.int .i64 y0, .int .i64 y1, .int .i64 y2, .int .i64 y3] 64])) := Lib.hid (by rw [HV.out, alloc_eq_grow, alloc_eq_grow, grow_grow]; rfl)
  obtain ⟨V2, HV2⟩ : ∃ V2, Hid (V2 = (V.alloc (.cells #[.int .i64 r, .int .i64 s] 3)).drew) := ⟨_, rfl⟩
  have n0 : V2.heap[V.heap.size]? = some (.cells #[.int .i64 r, .int .i64 s] 3 (0, 0)) := by rw [HV2.out]; exact heap_alloc_new V _
  have m0 : V2.cell? ⟨V.heap.size, 0, none⟩ = some (.int .i64 r) := by simp [World.cell?, n0]
  have m1 : V2.cell? ⟨V.heap.size, 1, none⟩ = some (.int .i64 s) := by simp [World.cell?, n0]
  have HM := Lib.hid (And.intro m0 m1)
  have HS2 : Hid (V2.cell? ⟨W.heap.size, 0, none⟩ = some (.int .i64 x0) ∧ V2.cell? ⟨W.heap.size, 1, none⟩ = some (.int .i64 x1) ∧ V2.cell? ⟨W.heap.size + 1, 0, none⟩ = some (.int .i64 y0) ∧ V2.cell? ⟨W.heap.size + 1, 1, none⟩ = some (.int .i64 y1)) := Lib.hid (by
    have hlt1 := (Array.getElem?_eq_some_iff.1 b0).1
    have hlt2 := (Array.getElem?_eq_some_iff.1 b1).1
    have f0 : V2.heap[W.heap.size]? = V.heap[W.heap.size]? := by rw [HV2.out]; exact Below.heap_alloc V _ _ hlt1
    have f1 : V2.heap[W.heap.size + 1]? = V.heap[W.heap.size + 1]? := by rw [HV2.out]; exact Below.heap_alloc V _ _ hlt2
    simp [World.cell?, f0, f1, b0, b1])
  clear e1 b0 b1 n0 m0 m1
  go_enter Try.func22, Try.ntmps22
  go_wp2_with (rw [← HV.out])
  refine wp_region_held_drew (S := fun W' => W'.cell? ⟨W.heap.size, 0, none⟩ = some (.int .i64 x0) ∧ W'.cell? ⟨W.heap.size, 1, none⟩ = some (.int .i64 x1) ∧ W'.cell? ⟨W.heap.size + 1, 0, none⟩ = some (.int .i64 y0) ∧ W'.cell? ⟨W.heap.size + 1, 1, none⟩ = some (.int .i64 y1)) (by kernel_rfl) (HSV.out) (fun hHeld => ?_)
  first
    | (refine wpAnyH_take (i := 0) rfl (by kernel_rfl) (by kernel_rfl) (by kernel_rfl) (fun _ _ _ h => h) (Or.inl ⟨by rfl, by intro w hSw; obtain ⟨q0, q1, q2, q3⟩ := hSw; (go_simp <;> with_reducible rfl)⟩) (by assumption) ?_)
    | (refine wpAnyH_take (i := 0) rfl (by kernel_rfl) (by kernel_rfl) (by kernel_rfl) (fun _ _ _ h => h) (Or.inr ⟨by rfl, rfl⟩) (by assumption) ?_)
  (try simp only [Act.put, List.setIfInBounds_toArray, List.set_cons_zero, List.set_cons_succ, List.getElem_toArray, List.getElem_cons_zero, List.getElem_cons_succ])
  first
    | (refine wpAnyH_take (i := 1) rfl (by kernel_rfl) (by kernel_rfl) (by kernel_rfl) (fun _ _ _ h => h) (Or.inl ⟨by rfl, by intro w hSw; obtain ⟨q0, q1, q2, q3⟩ := hSw; (go_simp <;> with_reducible rfl)⟩) (by assumption) ?_)
    | (refine wpAnyH_take (i := 1) rfl (by kernel_rfl) (by kernel_rfl) (by kernel_rfl) (fun _ _ _ h => h) (Or.inr ⟨by rfl, rfl⟩) (by assumption) ?_)
  (try simp only [Act.put, List.setIfInBounds_toArray, List.set_cons_zero, List.set_cons_succ, List.getElem_toArray, List.getElem_cons_zero, List.getElem_cons_succ])
  first
    | (refine wpAnyH_take (i := 2) rfl (by kernel_rfl) (by kernel_rfl) (by kernel_rfl) (fun _ _ _ h => h) (Or.inl ⟨by rfl, by intro w hSw; obtain ⟨q0, q1, q2, q3⟩ := hSw; (go_simp <;> with_reducible rfl)⟩) (by assumption) ?_)
    | (refine wpAnyH_take (i := 2) rfl (by kernel_rfl) (by kernel_rfl) (by kernel_rfl) (fun _ _ _ h => h) (Or.inr ⟨by rfl, rfl⟩) (by assumption) ?_)
  (try simp only [Act.put, List.setIfInBounds_toArray, List.set_cons_zero, List.set_cons_succ, List.getElem_toArray, List.getElem_cons_zero, List.getElem_cons_succ])
  first
    | (refine wpAnyH_take (i := 3) rfl (by kernel_rfl) (by kernel_rfl) (by kernel_rfl) (fun _ _ _ h => h) (Or.inl ⟨by rfl, by intro w hSw; obtain ⟨q0, q1, q2, q3⟩ := hSw; (go_simp <;> with_reducible rfl)⟩) (by assumption) ?_)
    | (refine wpAnyH_take (i := 3) rfl (by kernel_rfl) (by kernel_rfl) (by kernel_rfl) (fun _ _ _ h => h) (Or.inr ⟨by rfl, rfl⟩) (by assumption) ?_)
  (try simp only [Act.put, List.setIfInBounds_toArray, List.set_cons_zero, List.set_cons_succ, List.getElem_toArray, List.getElem_cons_zero, List.getElem_cons_succ])
  first
    | (refine wpAnyH_take (i := 5) rfl (by kernel_rfl) (by kernel_rfl) (by kernel_rfl) (fun _ _ _ h => h) (Or.inl ⟨by rfl, by intro w hSw; obtain ⟨q0, q1, q2, q3⟩ := hSw; (go_simp <;> with_reducible rfl)⟩) (by assumption) ?_)
    | (refine wpAnyH_take (i := 5) rfl (by kernel_rfl) (by kernel_rfl) (by kernel_rfl) (fun _ _ _ h => h) (Or.inr ⟨by rfl, rfl⟩) (by assumption) ?_)
  (try simp only [Act.put, List.setIfInBounds_toArray, List.set_cons_zero, List.set_cons_succ, List.getElem_toArray, List.getElem_cons_zero, List.getElem_cons_succ])
  first
    | (refine wpAnyH_take (i := 6) rfl (by kernel_rfl) (by kernel_rfl) (by kernel_rfl) (fun _ _ _ h => h) (Or.inl ⟨by rfl, by intro w hSw; obtain ⟨q0, q1, q2, q3⟩ := hSw; (go_simp <;> with_reducible rfl)⟩) (by assumption) ?_)
    | (refine wpAnyH_take (i := 6) rfl (by kernel_rfl) (by kernel_rfl) (by kernel_rfl) (fun _ _ _ h => h) (Or.inr ⟨by rfl, rfl⟩) (by assumption) ?_)
  (try simp only [Act.put, List.setIfInBounds_toArray, List.set_cons_zero, List.set_cons_succ, List.getElem_toArray, List.getElem_cons_zero, List.getElem_cons_succ])
  first
    | (refine wpAnyH_take (i := 7) rfl (by kernel_rfl) (by kernel_rfl) (by kernel_rfl) (fun _ _ _ h => h) (Or.inl ⟨by rfl, by intro w hSw; obtain ⟨q0, q1, q2, q3⟩ := hSw; (go_simp <;> with_reducible rfl)⟩) (by assumption) ?_)
    | (refine wpAnyH_take (i := 7) rfl (by kernel_rfl) (by kernel_rfl) (by kernel_rfl) (fun _ _ _ h => h) (Or.inr ⟨by rfl, rfl⟩) (by assumption) ?_)
  (try simp only [Act.put, List.setIfInBounds_toArray, List.set_cons_zero, List.set_cons_succ, List.getElem_toArray, List.getElem_cons_zero, List.getElem_cons_succ])
  first
    | (refine wpAnyH_take (i := 8) rfl (by kernel_rfl) (by kernel_rfl) (by kernel_rfl) (fun _ _ _ h => h) (Or.inl ⟨by rfl, by intro w hSw; obtain ⟨q0, q1, q2, q3⟩ := hSw; (go_simp <;> with_reducible rfl)⟩) (by assumption) ?_)
    | (refine wpAnyH_take (i := 8) rfl (by kernel_rfl) (by kernel_rfl) (by kernel_rfl) (fun _ _ _ h => h) (Or.inr ⟨by rfl, rfl⟩) (by assumption) ?_)
  (try simp only [Act.put, List.setIfInBounds_toArray, List.set_cons_zero, List.set_cons_succ, List.getElem_toArray, List.getElem_cons_zero, List.getElem_cons_succ])
  refine wpAnyH_ready (rs := [4]) (by kernel_rfl) (by simp) (AllReadyH.cons rfl (fun K hK => ?_) AllReadyH.nil)
  go_simp
  refine (HC1.out _).mono ?_
  rintro e w' ⟨rfl, rfl⟩
  (try go_wp2_with fail)
  refine hK.out _ _ (HSV.out) (fun hHeld => ?_)
  clear hK K
  (try simp only [Act.put, List.setIfInBounds_toArray, List.set_cons_zero, List.set_cons_succ, List.getElem_toArray, List.getElem_cons_zero, List.getElem_cons_succ])
  refine wpAnyH_ready (rs := [9]) (by kernel_rfl) (by simp) (AllReadyH.cons rfl (fun K hK => ?_) AllReadyH.nil)
  go_simp
  refine (HC2.out _).mono ?_
  rintro e w' ⟨rfl, rfl⟩
  (try go_wp2_with fail)
  refine hK.out _ _ (HSV.out) (fun hHeld => ?_)
  clear hK K
  (try simp only [Act.put, List.setIfInBounds_toArray, List.set_cons_zero, List.set_cons_succ, List.getElem_toArray, List.getElem_cons_zero, List.getElem_cons_succ])
  refine wpAnyH_ready (rs := [10]) (by kernel_rfl) (by simp) (AllReadyH.cons rfl (fun K hK => ?_) AllReadyH.nil)
  go_simp
  rw [← HV2.out]
  refine hK.out _ _ (HS2.out) (fun hHeld => ?_)
  clear hK K
  (try simp only [Act.put, List.setIfInBounds_toArray, List.set_cons_zero, List.set_cons_succ, List.getElem_toArray, List.getElem_cons_zero, List.getElem_cons_succ])
  refine wpAnyH_ready (rs := [11]) (by kernel_rfl) (by simp) (AllReadyH.cons rfl (fun K hK => ?_) AllReadyH.nil)
  go_simp
  refine (HOR.out _ _ _ HM.out.1 HM.out.2).mono ?_
  rintro e w' ⟨rfl, rfl⟩
  (try go_wp2_with fail)
  refine hK.out _ _ (HS2.out) (fun hHeld => ?_)
  clear hK K
  (try simp only [Act.put, List.setIfInBounds_toArray, List.set_cons_zero, List.set_cons_succ, List.getElem_toArray, List.getElem_cons_zero, List.getElem_cons_succ])
  first
    | (refine wpAnyH_take (i := 12) rfl (by kernel_rfl) (by kernel_rfl) (by kernel_rfl) (fun _ _ _ h => h) (Or.inl ⟨by rfl, by intro w hSw; (go_simp <;> with_reducible rfl)⟩) (by assumption) ?_)
    | (refine wpAnyH_take (i := 12) rfl (by kernel_rfl) (by kernel_rfl) (by kernel_rfl) (fun _ _ _ h => h) (Or.inr ⟨by rfl, rfl⟩) (by assumption) ?_)
  (try simp only [Act.put, List.setIfInBounds_toArray, List.set_cons_zero, List.set_cons_succ, List.getElem_toArray, List.getElem_cons_zero, List.getElem_cons_succ])
  refine wpAnyH_done (by kernel_rfl) ?_ _
  clear hHeld
  go_wp2
  go_ret
  exact ⟨rfl, 1, _, by rw [HV2.out, HGV.out, alloc_eq_grow, grow_grow]; rfl⟩
end Go.Proofs.Ytmonneeikkgllaa
