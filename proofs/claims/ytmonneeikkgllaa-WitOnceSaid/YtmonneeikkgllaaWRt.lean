/- The document's taken, Items and Same, as contracts. No condition but those in the statements. -/
import Derived.Test.YtmonneeikkgllaaWOr
import Derived.BigQuiet
import Derived.IntWalk
import Derived.BigRegion
import Derived.OpenShut
import Derived.Deep.MidRow
import Derived.Lib.Hide
import Derived.Deep.Slices
import Derived.Lib.SmallJoins
import Derived.OwnWalk
import Derived.Deep.RegionHeld3
import Derived.Laws.StructEq
namespace Go.Proofs.Ytmonneeikkgllaa
open WtP Go.RowKit Go.Sort Go.Deep Go.ChangeShapes Go.WideShapes Go.Joins
set_option linter.unusedVariables false
set_option linter.unusedSimpArgs false


theorem isTaken_take {o : List T4} {k : Nat} {y x : T4} (hy : o[k]? = some y) (h : isTaken (o.take k) x = false) : isTaken (o.take (k + 1)) x = (y.kind == x.kind && y.idx == x.idx) := by
  rw [take_pre19 hy, taken_app, h, Bool.false_or]
theorem isTaken_hit {o : List T4} {k : Nat} {y x : T4} (hy : o[k]? = some y) (h : (y.kind == x.kind && y.idx == x.idx) = true) : isTaken o x = true := List.any_eq_true.2 ⟨y, List.mem_of_getElem? hy, h⟩
theorem eq_item (w : World) (a b a' b' : Int) : (binOp .eql 37 (.agg #[.int .i64 a, .int .i64 b]) (.agg #[.int .i64 a', .int .i64 b'])).run Try.prog w = .ok (.bool (a == a' && b == b')) w := by
  go_simp
  by_cases h1 : a = a' <;> by_cases h2 : b = b' <;> simp [h1, h2]
set_option maxRecDepth 100000 in
set_option maxHeartbeats 4000000 in
theorem taken_b (o : List T4) (A : Option Addr) (c : Nat) (x : T4) (q : Bool) (w : World) (hr : TRow w w.heap.size A o) (hl : o.length ≤ 1000000) (hq : isTaken o x = q) :
    Calls Try.prog 17 #[.slice A o.length c, .agg #[.int .i64 x.kind, .int .i64 x.idx]] w fun e w' => e = .returned (.bool q) ∧ Below w.heap.size w w' := by
  obtain ⟨W, HW⟩ : ∃ u, Hid (u = w.alloc (.cells #[.int .i64 x.kind, .int .i64 x.idx] 37)) := ⟨_, rfl⟩
  have hbW : Below w.heap.size w W := by rw [HW.out]; exact (Below.refl _ _).alloc (Nat.le_refl _) _
  have hWb : W.heap[w.heap.size]? = some (.cells #[.int .i64 x.kind, .int .i64 x.idx] 37 (0, 0)) := by rw [HW.out]; exact heap_alloc_new _ _
  have HBW := Lib.hid hbW
  have HRW := Lib.hid (hr.below hbW)
  have HXB : Hid (∀ V, Below W.heap.size W V → V.cell? ⟨w.heap.size, 0, none⟩ = some (.int .i64 x.kind) ∧ V.cell? ⟨w.heap.size, 1, none⟩ = some (.int .i64 x.idx)) := Lib.hid (fun V hV => by
    have hb := (hV.block w.heap.size (Array.getElem?_eq_some_iff.1 hWb).1).trans hWb
    exact ⟨cell_at19 hb rfl, cell_at19 hb rfl⟩)
  have HQ := Lib.hid hq
  clear hbW hWb hr hq
  go_enter Try.func17, Try.ntmps17
  go_wp2_with (rw [← HW.out])
  go_loopw [5] (fun ix wr => ∃ k : Nat, k ≤ o.length ∧ ix = .int .i64 k ∧ isTaken (o.take k) x = false ∧ Below W.heap.size W wr) (fun ix _ => o.length - (intOf ix).toNat)
  case atStart => exact ⟨0, Nat.zero_le _, rfl, rfl, Below.refl _ _⟩
  case round =>
    obtain ⟨k, hk, rfl, ht, hbr⟩ := hrel
    have HT := Lib.hid ht
    have HBR := Lib.hid hbr
    clear ht
    by_cases hlt : k < o.length
    · obtain ⟨bb, oo, y, rfl, hbl, hy, hyc⟩ := HRW.out.at_ hlt
      have hlt2 : (k : Int) < (o.length : Int) := by omega
      have HSC : Hid (∀ V, Below wr.heap.size wr V → V.cell? ⟨bb, oo + k * 4 + 2, none⟩ = some (.int .i64 y.kind) ∧ V.cell? ⟨bb, oo + k * 4 + 3, none⟩ = some (.int .i64 y.idx) ∧ V.cell? ⟨w.heap.size, 0, none⟩ = some (.int .i64 x.kind) ∧ V.cell? ⟨w.heap.size, 1, none⟩ = some (.int .i64 x.idx)) := Lib.hid (fun V hV => by
        have hWV := hbr.trans (hV.mono hbr.size)
        have h1 := tc_cells (hyc V (hWV.mono HBW.out.size))
        have h2 := HXB.out V hWV
        exact ⟨h1.2.2.1, h1.2.2.2, h2.1, h2.2⟩)
      have HY := Lib.hid hy
      have HLT := Lib.hid hlt
      clear hyc hy hbl hbr
      cases hq1 : (y.kind == x.kind && y.idx == x.idx) with
      | true =>
        have HH := Lib.hid (isTaken_hit HY.out hq1)
        have hequ : ∀ w, (binOp .eql 37 (.agg #[.int .i64 y.kind, .int .i64 y.idx]) (.agg #[.int .i64 x.kind, .int .i64 x.idx])).run Try.prog w = .ok (.bool true) w := fun w => by rw [eq_item, hq1]
        clear hq1
        go_wp2_with fail
        refine wp_region_held_drew (S := fun V => Below wr.heap.size wr V) (by kernel_rfl) ((Below.refl _ _).drew) (fun hHeld => ?_)
        first
          | (refine wpAnyH_take (i := 0) rfl (by kernel_rfl) (by kernel_rfl) (by kernel_rfl) (fun _ _ _ h => h) (Or.inl ⟨by rfl, by intro w hSw; obtain ⟨q0, q1, q2, q3⟩ := HSC.out _ hSw; (go_simp <;> with_reducible rfl)⟩) (by assumption) ?_)
          | (refine wpAnyH_take (i := 0) rfl (by kernel_rfl) (by kernel_rfl) (by kernel_rfl) (fun _ _ _ h => h) (Or.inr ⟨by rfl, rfl⟩) (by assumption) ?_)
        (try simp only [Act.put, List.setIfInBounds_toArray, List.set_cons_zero, List.set_cons_succ, List.getElem_toArray, List.getElem_cons_zero, List.getElem_cons_succ])
        first
          | (refine wpAnyH_take (i := 1) rfl (by kernel_rfl) (by kernel_rfl) (by kernel_rfl) (fun _ _ _ h => h) (Or.inl ⟨by rfl, by intro w hSw; obtain ⟨q0, q1, q2, q3⟩ := HSC.out _ hSw; (go_simp <;> with_reducible rfl)⟩) (by assumption) ?_)
          | (refine wpAnyH_take (i := 1) rfl (by kernel_rfl) (by kernel_rfl) (by kernel_rfl) (fun _ _ _ h => h) (Or.inr ⟨by rfl, rfl⟩) (by assumption) ?_)
        (try simp only [Act.put, List.setIfInBounds_toArray, List.set_cons_zero, List.set_cons_succ, List.getElem_toArray, List.getElem_cons_zero, List.getElem_cons_succ])
        first
          | (refine wpAnyH_take (i := 2) rfl (by kernel_rfl) (by kernel_rfl) (by kernel_rfl) (fun _ _ _ h => h) (Or.inl ⟨by rfl, by intro w hSw; obtain ⟨q0, q1, q2, q3⟩ := HSC.out _ hSw; (go_simp <;> with_reducible rfl)⟩) (by assumption) ?_)
          | (refine wpAnyH_take (i := 2) rfl (by kernel_rfl) (by kernel_rfl) (by kernel_rfl) (fun _ _ _ h => h) (Or.inr ⟨by rfl, rfl⟩) (by assumption) ?_)
        (try simp only [Act.put, List.setIfInBounds_toArray, List.set_cons_zero, List.set_cons_succ, List.getElem_toArray, List.getElem_cons_zero, List.getElem_cons_succ])
        first
          | (refine wpAnyH_take (i := 3) rfl (by kernel_rfl) (by kernel_rfl) (by kernel_rfl) (fun _ _ _ h => h) (Or.inl ⟨by rfl, by intro w hSw; obtain ⟨q0, q1, q2, q3⟩ := HSC.out _ hSw; (go_simp <;> with_reducible rfl)⟩) (by assumption) ?_)
          | (refine wpAnyH_take (i := 3) rfl (by kernel_rfl) (by kernel_rfl) (by kernel_rfl) (fun _ _ _ h => h) (Or.inr ⟨by rfl, rfl⟩) (by assumption) ?_)
        (try simp only [Act.put, List.setIfInBounds_toArray, List.set_cons_zero, List.set_cons_succ, List.getElem_toArray, List.getElem_cons_zero, List.getElem_cons_succ])
        first
          | (refine wpAnyH_take (i := 4) rfl (by kernel_rfl) (by kernel_rfl) (by kernel_rfl) (fun _ _ _ h => h) (Or.inl ⟨by rfl, by intro w hSw; obtain ⟨q0, q1, q2, q3⟩ := HSC.out _ hSw; (go_simp <;> with_reducible rfl)⟩) (by assumption) ?_)
          | (refine wpAnyH_take (i := 4) rfl (by kernel_rfl) (by kernel_rfl) (by kernel_rfl) (fun _ _ _ h => h) (Or.inr ⟨by rfl, rfl⟩) (by assumption) ?_)
        (try simp only [Act.put, List.setIfInBounds_toArray, List.set_cons_zero, List.set_cons_succ, List.getElem_toArray, List.getElem_cons_zero, List.getElem_cons_succ])
        first
          | (refine wpAnyH_take (i := 5) rfl (by kernel_rfl) (by kernel_rfl) (by kernel_rfl) (fun _ _ _ h => h) (Or.inl ⟨by rfl, by intro w hSw; obtain ⟨q0, q1, q2, q3⟩ := HSC.out _ hSw; (go_simp <;> with_reducible rfl)⟩) (by assumption) ?_)
          | (refine wpAnyH_take (i := 5) rfl (by kernel_rfl) (by kernel_rfl) (by kernel_rfl) (fun _ _ _ h => h) (Or.inr ⟨by rfl, rfl⟩) (by assumption) ?_)
        (try simp only [Act.put, List.setIfInBounds_toArray, List.set_cons_zero, List.set_cons_succ, List.getElem_toArray, List.getElem_cons_zero, List.getElem_cons_succ])
        first
          | (refine wpAnyH_take (i := 6) rfl (by kernel_rfl) (by kernel_rfl) (by kernel_rfl) (fun _ _ _ h => h) (Or.inl ⟨by rfl, by intro w hSw; (go_simp <;> with_reducible rfl)⟩) (by assumption) ?_)
          | (refine wpAnyH_take (i := 6) rfl (by kernel_rfl) (by kernel_rfl) (by kernel_rfl) (fun _ _ _ h => h) (Or.inr ⟨by rfl, rfl⟩) (by assumption) ?_)
        (try simp only [Act.put, List.setIfInBounds_toArray, List.set_cons_zero, List.set_cons_succ, List.getElem_toArray, List.getElem_cons_zero, List.getElem_cons_succ])
        refine wpAnyH_done (by kernel_rfl) ?_ _
        clear hHeld
        go_wp2
        go_ret
        exact ⟨by rw [← HQ.out, HH.out]; rfl, HBW.out.trans ((HBR.out.drew).mono HBW.out.size)⟩
      | false =>
        have HH := Lib.hid (show isTaken (o.take (k + 1)) x = false by rw [isTaken_take HY.out HT.out]; exact hq1)
        have hequ : ∀ w, (binOp .eql 37 (.agg #[.int .i64 y.kind, .int .i64 y.idx]) (.agg #[.int .i64 x.kind, .int .i64 x.idx])).run Try.prog w = .ok (.bool false) w := fun w => by rw [eq_item, hq1]
        clear hq1
        go_wp2_with fail
        refine wp_region_held_drew (S := fun V => Below wr.heap.size wr V) (by kernel_rfl) ((Below.refl _ _).drew) (fun hHeld => ?_)
        first
          | (refine wpAnyH_take (i := 0) rfl (by kernel_rfl) (by kernel_rfl) (by kernel_rfl) (fun _ _ _ h => h) (Or.inl ⟨by rfl, by intro w hSw; obtain ⟨q0, q1, q2, q3⟩ := HSC.out _ hSw; (go_simp <;> with_reducible rfl)⟩) (by assumption) ?_)
          | (refine wpAnyH_take (i := 0) rfl (by kernel_rfl) (by kernel_rfl) (by kernel_rfl) (fun _ _ _ h => h) (Or.inr ⟨by rfl, rfl⟩) (by assumption) ?_)
        (try simp only [Act.put, List.setIfInBounds_toArray, List.set_cons_zero, List.set_cons_succ, List.getElem_toArray, List.getElem_cons_zero, List.getElem_cons_succ])
        first
          | (refine wpAnyH_take (i := 1) rfl (by kernel_rfl) (by kernel_rfl) (by kernel_rfl) (fun _ _ _ h => h) (Or.inl ⟨by rfl, by intro w hSw; obtain ⟨q0, q1, q2, q3⟩ := HSC.out _ hSw; (go_simp <;> with_reducible rfl)⟩) (by assumption) ?_)
          | (refine wpAnyH_take (i := 1) rfl (by kernel_rfl) (by kernel_rfl) (by kernel_rfl) (fun _ _ _ h => h) (Or.inr ⟨by rfl, rfl⟩) (by assumption) ?_)
        (try simp only [Act.put, List.setIfInBounds_toArray, List.set_cons_zero, List.set_cons_succ, List.getElem_toArray, List.getElem_cons_zero, List.getElem_cons_succ])
        first
          | (refine wpAnyH_take (i := 2) rfl (by kernel_rfl) (by kernel_rfl) (by kernel_rfl) (fun _ _ _ h => h) (Or.inl ⟨by rfl, by intro w hSw; obtain ⟨q0, q1, q2, q3⟩ := HSC.out _ hSw; (go_simp <;> with_reducible rfl)⟩) (by assumption) ?_)
          | (refine wpAnyH_take (i := 2) rfl (by kernel_rfl) (by kernel_rfl) (by kernel_rfl) (fun _ _ _ h => h) (Or.inr ⟨by rfl, rfl⟩) (by assumption) ?_)
        (try simp only [Act.put, List.setIfInBounds_toArray, List.set_cons_zero, List.set_cons_succ, List.getElem_toArray, List.getElem_cons_zero, List.getElem_cons_succ])
        first
          | (refine wpAnyH_take (i := 3) rfl (by kernel_rfl) (by kernel_rfl) (by kernel_rfl) (fun _ _ _ h => h) (Or.inl ⟨by rfl, by intro w hSw; obtain ⟨q0, q1, q2, q3⟩ := HSC.out _ hSw; (go_simp <;> with_reducible rfl)⟩) (by assumption) ?_)
          | (refine wpAnyH_take (i := 3) rfl (by kernel_rfl) (by kernel_rfl) (by kernel_rfl) (fun _ _ _ h => h) (Or.inr ⟨by rfl, rfl⟩) (by assumption) ?_)
        (try simp only [Act.put, List.setIfInBounds_toArray, List.set_cons_zero, List.set_cons_succ, List.getElem_toArray, List.getElem_cons_zero, List.getElem_cons_succ])
        first
          | (refine wpAnyH_take (i := 4) rfl (by kernel_rfl) (by kernel_rfl) (by kernel_rfl) (fun _ _ _ h => h) (Or.inl ⟨by rfl, by intro w hSw; obtain ⟨q0, q1, q2, q3⟩ := HSC.out _ hSw; (go_simp <;> with_reducible rfl)⟩) (by assumption) ?_)
          | (refine wpAnyH_take (i := 4) rfl (by kernel_rfl) (by kernel_rfl) (by kernel_rfl) (fun _ _ _ h => h) (Or.inr ⟨by rfl, rfl⟩) (by assumption) ?_)
        (try simp only [Act.put, List.setIfInBounds_toArray, List.set_cons_zero, List.set_cons_succ, List.getElem_toArray, List.getElem_cons_zero, List.getElem_cons_succ])
        first
          | (refine wpAnyH_take (i := 5) rfl (by kernel_rfl) (by kernel_rfl) (by kernel_rfl) (fun _ _ _ h => h) (Or.inl ⟨by rfl, by intro w hSw; obtain ⟨q0, q1, q2, q3⟩ := HSC.out _ hSw; (go_simp <;> with_reducible rfl)⟩) (by assumption) ?_)
          | (refine wpAnyH_take (i := 5) rfl (by kernel_rfl) (by kernel_rfl) (by kernel_rfl) (fun _ _ _ h => h) (Or.inr ⟨by rfl, rfl⟩) (by assumption) ?_)
        (try simp only [Act.put, List.setIfInBounds_toArray, List.set_cons_zero, List.set_cons_succ, List.getElem_toArray, List.getElem_cons_zero, List.getElem_cons_succ])
        first
          | (refine wpAnyH_take (i := 6) rfl (by kernel_rfl) (by kernel_rfl) (by kernel_rfl) (fun _ _ _ h => h) (Or.inl ⟨by rfl, by intro w hSw; obtain ⟨q0, q1, q2, q3⟩ := HSC.out _ hSw; (go_simp <;> with_reducible rfl)⟩) (by assumption) ?_)
          | (refine wpAnyH_take (i := 6) rfl (by kernel_rfl) (by kernel_rfl) (by kernel_rfl) (fun _ _ _ h => h) (Or.inr ⟨by rfl, rfl⟩) (by assumption) ?_)
        (try simp only [Act.put, List.setIfInBounds_toArray, List.set_cons_zero, List.set_cons_succ, List.getElem_toArray, List.getElem_cons_zero, List.getElem_cons_succ])
        refine wpAnyH_done (by kernel_rfl) ?_ _
        clear hHeld
        go_wp2
        go_roundw
        case rel => exact ⟨k + 1, by have := HLT.out; omega, by go_num, HH.out, HBR.out.drew⟩
        case measure => have := HLT.out; simp [intOf]; omega
    · have hkk : o.take k = o := List.take_of_length_le (by omega)
      have HH := Lib.hid (show isTaken o x = false by rw [← HT.out, hkk])
      clear hkk hbr
      go_wp2
      go_ret
      exact ⟨by rw [← HQ.out, HH.out]; rfl, HBW.out.trans (HBR.out.mono HBW.out.size)⟩
set_option maxRecDepth 100000 in
set_option maxHeartbeats 4000000 in
theorem items_b (o : List T4) (A : Option Addr) (c : Nat) (w : World) (hr : TRow w w.heap.size A o) (hl : o.length ≤ 1000) : Calls Try.prog 10 #[.slice A o.length c] w (GivesI w o) := by
  have HR := Lib.hid hr
  obtain ⟨z0, hz0, hz1, hz2, hz3⟩ := info_parts Try.infoI19
  clear hr
  go_enter Try.func10, Try.ntmps10
  go_wp2
  go_loopw [3, 4] (fun v ix wr => ∃ i : Nat, i ≤ o.length ∧ ix = .int .i64 i ∧ OwnsOff wr w.heap.size 37 2 v (o.take i).length (ics (o.take i)) ∧ Below w.heap.size w wr) (fun _ ix _ => o.length - (intOf ix).toNat)
  case atStart => exact ⟨0, Nat.zero_le _, rfl, OwnsOff.nil _ _ _ _, Below.refl _ _⟩
  case round =>
    obtain ⟨i, hi, rfl, hown, hbr⟩ := hrel
    by_cases hlt : i < o.length
    · obtain ⟨bb, oo, y, rfl, hbl, hy, hyc⟩ := HR.out.at_ hlt
      have hi2 : (i : Int) < (o.length : Int) := by omega
      obtain ⟨xs, hxs⟩ : ∃ xs, o.take i = xs := ⟨_, rfl⟩
      have HXL := Lib.hid (show xs.length ≤ 1000 by rw [← hxs, List.length_take]; omega)
      have HN := Lib.hid (show o.take (i + 1) = xs ++ [y] by rw [take_pre19 hy, hxs])
      rw [hxs] at hown
      obtain ⟨-, -, y2, y3⟩ := tc_cells (hyc _ hbr)
      have hbo := hbr
      have HLT := Lib.hid hlt
      clear hxs hy hyc hbl hbr hlt
      go_wp2_with (at_builtin; refine wpList_append_off _ rfl _ _ 27 rfl (w.heap.size) 37 z0 (.agg #[.int .i64 0, .int .i64 0]) 2 16 Try.underlying27 hz0 hz1 hz2 hz3 rfl (by decide) _ _ _ rfl (hown.keptB ((Below.refl _ _).alloc (Nat.le_refl _) _)) ⟨wr.heap.size, 0, none⟩ 1 1 (ic y) rfl rfl (news_blk (heap_alloc_new wr _)) (ic_ones _) (by have := HXL.out; unfold maxLen; omega) (by have := HXL.out; omega) (by have := hbo.size; simp; omega) ?_)
      intro v' w6 hown' hgrow _
      have hb6 := Lib.hid ((hbo.alloc hbo.size _).grown hgrow (by have := hbo.size; simp; omega) (fun i e => (hown.lt i e).1))
      have H3 : Hid (OwnsOff w6 w.heap.size 37 2 v' (xs ++ [y]).length (ics (xs ++ [y]))) := Lib.hid (by rw [List.length_append, ics_app, ics_one]; exact hown')
      clear hown' hgrow hown hbo y2 y3
      go_wp2
      go_roundw
      case rel => exact ⟨i + 1, by have := HLT.out; omega, by go_num, by rw [HN.out]; exact H3.out, hb6.out⟩
      case measure => have := HLT.out; simp [intOf]; omega
    · have hil : o.take i = o := List.take_of_length_le (by omega)
      rw [hil] at hown
      have H3 := Lib.hid hown; have HB := Lib.hid hbr
      clear hown hbr hil
      go_wp2
      go_ret
      exact ⟨_, rfl, H3.out, HB.out⟩
theorem neq_item (w : World) (a b : Int) : (binOp .neq 37 (.agg #[.int .i64 a, .int .i64 b]) (.agg #[.int .i64 a, .int .i64 b])).run Try.prog w = .ok (.bool false) w := by
  go_simp
set_option maxRecDepth 100000 in
set_option maxHeartbeats 4000000 in
theorem same19_b (o : List T4) (A A' : Option Addr) (c c' : Nat) (w : World) (hr : IRow w w.heap.size A o) (hr' : IRow w w.heap.size A' o) (hl : o.length ≤ 1000000) : Calls Try.prog 8 #[.slice A o.length c, .slice A' o.length c'] w fun e w' => e = .returned (.bool true) ∧ Below w.heap.size w w' := by
  have HR := Lib.hid hr; have HR' := Lib.hid hr'
  clear hr hr'
  go_enter Try.func8, Try.ntmps8
  go_wp2
  go_loopw [5] (fun ix wr => ∃ k : Nat, k ≤ o.length ∧ ix = .int .i64 k ∧ Below w.heap.size w wr) (fun ix _ => o.length - (intOf ix).toNat)
  case atStart => exact ⟨0, Nat.zero_le _, rfl, Below.refl _ _⟩
  case round =>
    obtain ⟨k, hk, rfl, hbr⟩ := hrel
    have HBR := Lib.hid hbr
    by_cases hlt : k < o.length
    · obtain ⟨b1, o1, rfl, hb1, hc1⟩ := HR.out (by omega)
      obtain ⟨b2, o2, rfl, hb2, hc2⟩ := HR'.out (by omega)
      obtain ⟨y, hy⟩ : ∃ y, o[k]? = some y := ⟨_, List.getElem?_eq_getElem hlt⟩
      have hlt2 : (k : Int) < (o.length : Int) := by omega
      have HSC : Hid (∀ V, Below wr.heap.size wr V → V.cell? ⟨b1, o1 + k * 2, none⟩ = some (.int .i64 y.kind) ∧ V.cell? ⟨b1, o1 + k * 2 + 1, none⟩ = some (.int .i64 y.idx) ∧ V.cell? ⟨b2, o2 + k * 2, none⟩ = some (.int .i64 y.kind) ∧ V.cell? ⟨b2, o2 + k * 2 + 1, none⟩ = some (.int .i64 y.idx)) := Lib.hid (fun V hV => by
        have hWV := hbr.trans (hV.mono hbr.size)
        have h1 := hc1 k y hy
        have h2 := hc2 k y hy
        exact ⟨(hWV.cell (p := ⟨b1, o1 + k * 2, none⟩) hb1).trans h1.1, (hWV.cell (p := ⟨b1, o1 + k * 2 + 1, none⟩) hb1).trans h1.2, (hWV.cell (p := ⟨b2, o2 + k * 2, none⟩) hb2).trans h2.1, (hWV.cell (p := ⟨b2, o2 + k * 2 + 1, none⟩) hb2).trans h2.2⟩)
      have HLT := Lib.hid hlt
      clear hc1 hc2 hb1 hb2 hy hbr
      go_wp2_with fail
      refine wp_region_held_drew (S := fun V => Below wr.heap.size wr V) (by kernel_rfl) ((Below.refl _ _).drew) (fun hHeld => ?_)
      first
        | (refine wpAnyH_take (i := 0) rfl (by kernel_rfl) (by kernel_rfl) (by kernel_rfl) (fun _ _ _ h => h) (Or.inl ⟨by rfl, by intro w hSw; obtain ⟨q0, q1, q2, q3⟩ := HSC.out _ hSw; (go_simp <;> with_reducible rfl)⟩) (by assumption) ?_)
        | (refine wpAnyH_take (i := 0) rfl (by kernel_rfl) (by kernel_rfl) (by kernel_rfl) (fun _ _ _ h => h) (Or.inr ⟨by rfl, rfl⟩) (by assumption) ?_)
      (try simp only [Act.put, List.setIfInBounds_toArray, List.set_cons_zero, List.set_cons_succ, List.getElem_toArray, List.getElem_cons_zero, List.getElem_cons_succ])
      first
        | (refine wpAnyH_take (i := 1) rfl (by kernel_rfl) (by kernel_rfl) (by kernel_rfl) (fun _ _ _ h => h) (Or.inl ⟨by rfl, by intro w hSw; obtain ⟨q0, q1, q2, q3⟩ := HSC.out _ hSw; (go_simp <;> with_reducible rfl)⟩) (by assumption) ?_)
        | (refine wpAnyH_take (i := 1) rfl (by kernel_rfl) (by kernel_rfl) (by kernel_rfl) (fun _ _ _ h => h) (Or.inr ⟨by rfl, rfl⟩) (by assumption) ?_)
      (try simp only [Act.put, List.setIfInBounds_toArray, List.set_cons_zero, List.set_cons_succ, List.getElem_toArray, List.getElem_cons_zero, List.getElem_cons_succ])
      first
        | (refine wpAnyH_take (i := 2) rfl (by kernel_rfl) (by kernel_rfl) (by kernel_rfl) (fun _ _ _ h => h) (Or.inl ⟨by rfl, by intro w hSw; obtain ⟨q0, q1, q2, q3⟩ := HSC.out _ hSw; (go_simp <;> with_reducible rfl)⟩) (by assumption) ?_)
        | (refine wpAnyH_take (i := 2) rfl (by kernel_rfl) (by kernel_rfl) (by kernel_rfl) (fun _ _ _ h => h) (Or.inr ⟨by rfl, rfl⟩) (by assumption) ?_)
      (try simp only [Act.put, List.setIfInBounds_toArray, List.set_cons_zero, List.set_cons_succ, List.getElem_toArray, List.getElem_cons_zero, List.getElem_cons_succ])
      first
        | (refine wpAnyH_take (i := 3) rfl (by kernel_rfl) (by kernel_rfl) (by kernel_rfl) (fun _ _ _ h => h) (Or.inl ⟨by rfl, by intro w hSw; obtain ⟨q0, q1, q2, q3⟩ := HSC.out _ hSw; (go_simp <;> with_reducible rfl)⟩) (by assumption) ?_)
        | (refine wpAnyH_take (i := 3) rfl (by kernel_rfl) (by kernel_rfl) (by kernel_rfl) (fun _ _ _ h => h) (Or.inr ⟨by rfl, rfl⟩) (by assumption) ?_)
      (try simp only [Act.put, List.setIfInBounds_toArray, List.set_cons_zero, List.set_cons_succ, List.getElem_toArray, List.getElem_cons_zero, List.getElem_cons_succ])
      first
        | (refine wpAnyH_take (i := 4) rfl (by kernel_rfl) (by kernel_rfl) (by kernel_rfl) (fun _ _ _ h => h) (Or.inl ⟨by rfl, by intro w hSw; obtain ⟨q0, q1, q2, q3⟩ := HSC.out _ hSw; (go_simp <;> with_reducible rfl)⟩) (by assumption) ?_)
        | (refine wpAnyH_take (i := 4) rfl (by kernel_rfl) (by kernel_rfl) (by kernel_rfl) (fun _ _ _ h => h) (Or.inr ⟨by rfl, rfl⟩) (by assumption) ?_)
      (try simp only [Act.put, List.setIfInBounds_toArray, List.set_cons_zero, List.set_cons_succ, List.getElem_toArray, List.getElem_cons_zero, List.getElem_cons_succ])
      first
        | (refine wpAnyH_take (i := 5) rfl (by kernel_rfl) (by kernel_rfl) (by kernel_rfl) (fun _ _ _ h => h) (Or.inl ⟨by rfl, by intro w hSw; obtain ⟨q0, q1, q2, q3⟩ := HSC.out _ hSw; (go_simp <;> with_reducible rfl)⟩) (by assumption) ?_)
        | (refine wpAnyH_take (i := 5) rfl (by kernel_rfl) (by kernel_rfl) (by kernel_rfl) (fun _ _ _ h => h) (Or.inr ⟨by rfl, rfl⟩) (by assumption) ?_)
      (try simp only [Act.put, List.setIfInBounds_toArray, List.set_cons_zero, List.set_cons_succ, List.getElem_toArray, List.getElem_cons_zero, List.getElem_cons_succ])
      first
        | (refine wpAnyH_take (i := 6) rfl (by kernel_rfl) (by kernel_rfl) (by kernel_rfl) (fun _ _ _ h => h) (Or.inl ⟨by rfl, by intro w hSw; obtain ⟨q0, q1, q2, q3⟩ := HSC.out _ hSw; (go_simp <;> with_reducible rfl)⟩) (by assumption) ?_)
        | (refine wpAnyH_take (i := 6) rfl (by kernel_rfl) (by kernel_rfl) (by kernel_rfl) (fun _ _ _ h => h) (Or.inr ⟨by rfl, rfl⟩) (by assumption) ?_)
      (try simp only [Act.put, List.setIfInBounds_toArray, List.set_cons_zero, List.set_cons_succ, List.getElem_toArray, List.getElem_cons_zero, List.getElem_cons_succ])
      first
        | (refine wpAnyH_take (i := 7) rfl (by kernel_rfl) (by kernel_rfl) (by kernel_rfl) (fun _ _ _ h => h) (Or.inl ⟨by rfl, by intro w hSw; obtain ⟨q0, q1, q2, q3⟩ := HSC.out _ hSw; (go_simp <;> with_reducible rfl)⟩) (by assumption) ?_)
        | (refine wpAnyH_take (i := 7) rfl (by kernel_rfl) (by kernel_rfl) (by kernel_rfl) (fun _ _ _ h => h) (Or.inr ⟨by rfl, rfl⟩) (by assumption) ?_)
      (try simp only [Act.put, List.setIfInBounds_toArray, List.set_cons_zero, List.set_cons_succ, List.getElem_toArray, List.getElem_cons_zero, List.getElem_cons_succ])
      have hnq := neq_item
      first
        | (refine wpAnyH_take (i := 8) rfl (by kernel_rfl) (by kernel_rfl) (by kernel_rfl) (fun _ _ _ h => h) (Or.inl ⟨by rfl, by intro w hSw; (go_simp <;> with_reducible rfl)⟩) (by assumption) ?_)
        | (refine wpAnyH_take (i := 8) rfl (by kernel_rfl) (by kernel_rfl) (by kernel_rfl) (fun _ _ _ h => h) (Or.inr ⟨by rfl, rfl⟩) (by assumption) ?_)
      (try simp only [Act.put, List.setIfInBounds_toArray, List.set_cons_zero, List.set_cons_succ, List.getElem_toArray, List.getElem_cons_zero, List.getElem_cons_succ])
      refine wpAnyH_done (by kernel_rfl) ?_ _
      clear hHeld
      go_wp2
      go_roundw
      case rel => exact ⟨k + 1, by have := HLT.out; omega, by go_num, HBR.out.drew⟩
      case measure => have := HLT.out; simp [intOf]; omega
    · clear hbr
      go_wp2
      go_ret
      exact ⟨rfl, HBR.out⟩
end Go.Proofs.Ytmonneeikkgllaa
