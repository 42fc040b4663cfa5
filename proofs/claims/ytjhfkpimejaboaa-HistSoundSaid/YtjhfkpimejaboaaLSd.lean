/- HistSound answers true. No condition but those in the statements. -/
import Derived.Test.YtjhfkpimejaboaaHWk
import Derived.BigQuiet
import Derived.IntWalk
import Derived.BigRegion
import Derived.OpenShut
import Derived.Deep.MidRow
import Derived.Deep.RegionHeld3
namespace Go.Proofs.Ytjhfkpimejaboaa
open Go.RowKit Go.Sort Go.ChangeShapes Go.WideShapes
set_option linter.unusedVariables false
set_option linter.unusedSimpArgs false


theorem rem_ix {i : Int} {n : Nat} (h0 : 0 ≤ i) (hn : 0 < n) : ∃ k : Nat, k < n ∧ i % (n : Int) = (k : Int) ∧ i.tmod (n : Int) = (k : Int) := by
  obtain ⟨k, hk⟩ := Int.eq_ofNat_of_zero_le (Int.emod_nonneg i (show (n : Int) ≠ 0 by omega))
  have h1 := Int.emod_lt_of_pos i (show (0 : Int) < n by omega)
  exact ⟨k, by omega, hk, by rw [Int.tmod_eq_emod_of_nonneg h0]; exact hk⟩
/-- Two variables, made in whatever order, then stored into. -/
theorem vars2 (w : World) (u v : CV) : ∃ Y1 Y2, Hid (Y1 = (w.alloc (.cells #[.int .i64 0, .int .i64 0, .int .i64 0, .int .u64 0, .slice none 0 0, .int .i64 0, .slice none 0 0, .bool false, .int .i64 0, .bool false, .int .i64 0, .int .i64 0, .int .i64 0, .int .i64 0, .int .i64 0, .int .i64 0, .int .i64 0, .int .i64 0, .int .i64 0, .int .i64 0] 34)).drew) ∧ Hid (Y2 = Y1.alloc (.cells #[.int .i64 0, .int .i64 0, .int .i64 0, .int .u64 0, .slice none 0 0, .int .i64 0, .slice none 0 0, .bool false, .int .i64 0, .bool false, .int .i64 0, .int .i64 0, .int .i64 0, .int .i64 0, .int .i64 0, .int .i64 0, .int .i64 0, .int .i64 0, .int .i64 0, .int .i64 0] 34)) ∧ Below w.heap.size w Y1 ∧ Below w.heap.size w Y2 ∧
    ∀ p q, (p = w.heap.size ∧ q = Y1.heap.size) ∨ (p = Y1.heap.size ∧ q = w.heap.size) → ∃ Y3 Y4, Hid (Y3 = Y2.setCells p 0 (cCells u)) ∧ Hid (Y4 = Y3.setCells q 0 (cCells v)) ∧ Y2.there p 0 (cCells u).toArray.size ∧ Y3.there q 0 (cCells v).toArray.size ∧
      Below w.heap.size w Y3 ∧ Below w.heap.size w Y4 ∧ CAt Y4 p 0 u ∧ CAt Y4 q 0 v := by
  have hb1 : Below w.heap.size w ((w.alloc (.cells #[.int .i64 0, .int .i64 0, .int .i64 0, .int .u64 0, .slice none 0 0, .int .i64 0, .slice none 0 0, .bool false, .int .i64 0, .bool false, .int .i64 0, .int .i64 0, .int .i64 0, .int .i64 0, .int .i64 0, .int .i64 0, .int .i64 0, .int .i64 0, .int .i64 0, .int .i64 0] 34)).drew) := ((Below.refl _ _).alloc (Nat.le_refl _) _).drew
  have hs1 : ((w.alloc (.cells #[.int .i64 0, .int .i64 0, .int .i64 0, .int .u64 0, .slice none 0 0, .int .i64 0, .slice none 0 0, .bool false, .int .i64 0, .bool false, .int .i64 0, .int .i64 0, .int .i64 0, .int .i64 0, .int .i64 0, .int .i64 0, .int .i64 0, .int .i64 0, .int .i64 0, .int .i64 0] 34)).drew).heap.size = w.heap.size + 1 := by simp
  have hn1 : ((w.alloc (.cells #[.int .i64 0, .int .i64 0, .int .i64 0, .int .u64 0, .slice none 0 0, .int .i64 0, .slice none 0 0, .bool false, .int .i64 0, .bool false, .int .i64 0, .int .i64 0, .int .i64 0, .int .i64 0, .int .i64 0, .int .i64 0, .int .i64 0, .int .i64 0, .int .i64 0, .int .i64 0] 34)).drew).heap[w.heap.size]? = some (.cells #[.int .i64 0, .int .i64 0, .int .i64 0, .int .u64 0, .slice none 0 0, .int .i64 0, .slice none 0 0, .bool false, .int .i64 0, .bool false, .int .i64 0, .int .i64 0, .int .i64 0, .int .i64 0, .int .i64 0, .int .i64 0, .int .i64 0, .int .i64 0, .int .i64 0, .int .i64 0] 34 (0, 0)) := heap_alloc_new w _
  refine ⟨_, _, rfl, rfl, hb1, hb1.alloc (by omega) _, fun p q hpq => ?_⟩
  generalize hY1 : (w.alloc (.cells #[.int .i64 0, .int .i64 0, .int .i64 0, .int .u64 0, .slice none 0 0, .int .i64 0, .slice none 0 0, .bool false, .int .i64 0, .bool false, .int .i64 0, .int .i64 0, .int .i64 0, .int .i64 0, .int .i64 0, .int .i64 0, .int .i64 0, .int .i64 0, .int .i64 0, .int .i64 0] 34)).drew = Y1 at *
  have e1 := heap_alloc_new Y1 (.cells #[.int .i64 0, .int .i64 0, .int .i64 0, .int .u64 0, .slice none 0 0, .int .i64 0, .slice none 0 0, .bool false, .int .i64 0, .bool false, .int .i64 0, .int .i64 0, .int .i64 0, .int .i64 0, .int .i64 0, .int .i64 0, .int .i64 0, .int .i64 0, .int .i64 0, .int .i64 0] 34)
  have e0 : (Y1.alloc (.cells #[.int .i64 0, .int .i64 0, .int .i64 0, .int .u64 0, .slice none 0 0, .int .i64 0, .slice none 0 0, .bool false, .int .i64 0, .bool false, .int .i64 0, .int .i64 0, .int .i64 0, .int .i64 0, .int .i64 0, .int .i64 0, .int .i64 0, .int .i64 0, .int .i64 0, .int .i64 0] 34)).heap[w.heap.size]? = some (.cells #[.int .i64 0, .int .i64 0, .int .i64 0, .int .u64 0, .slice none 0 0, .int .i64 0, .slice none 0 0, .bool false, .int .i64 0, .bool false, .int .i64 0, .int .i64 0, .int .i64 0, .int .i64 0, .int .i64 0, .int .i64 0, .int .i64 0, .int .i64 0, .int .i64 0, .int .i64 0] 34 (0, 0)) := (Below.heap_alloc _ _ _ (by omega)).trans hn1
  have hz : (#[.int .i64 0, .int .i64 0, .int .i64 0, .int .u64 0, .slice none 0 0, .int .i64 0, .slice none 0 0, .bool false, .int .i64 0, .bool false, .int .i64 0, .int .i64 0, .int .i64 0, .int .i64 0, .int .i64 0, .int .i64 0, .int .i64 0, .int .i64 0, .int .i64 0, .int .i64 0] : Array Value).size = 20 := rfl
  have t0 : ∀ x : CV, (Y1.alloc (.cells #[.int .i64 0, .int .i64 0, .int .i64 0, .int .u64 0, .slice none 0 0, .int .i64 0, .slice none 0 0, .bool false, .int .i64 0, .bool false, .int .i64 0, .int .i64 0, .int .i64 0, .int .i64 0, .int .i64 0, .int .i64 0, .int .i64 0, .int .i64 0, .int .i64 0, .int .i64 0] 34)).there w.heap.size 0 (cCells x).toArray.size := fun x => there_at e0 (by rw [cCells_size, hz])
  have t1 : ∀ x : CV, (Y1.alloc (.cells #[.int .i64 0, .int .i64 0, .int .i64 0, .int .u64 0, .slice none 0 0, .int .i64 0, .slice none 0 0, .bool false, .int .i64 0, .bool false, .int .i64 0, .int .i64 0, .int .i64 0, .int .i64 0, .int .i64 0, .int .i64 0, .int .i64 0, .int .i64 0, .int .i64 0, .int .i64 0] 34)).there Y1.heap.size 0 (cCells x).toArray.size := fun x => there_at e1 (by rw [cCells_size, hz])
  have hpu : (Y1.alloc (.cells #[.int .i64 0, .int .i64 0, .int .i64 0, .int .u64 0, .slice none 0 0, .int .i64 0, .slice none 0 0, .bool false, .int .i64 0, .bool false, .int .i64 0, .int .i64 0, .int .i64 0, .int .i64 0, .int .i64 0, .int .i64 0, .int .i64 0, .int .i64 0, .int .i64 0, .int .i64 0] 34)).there p 0 (cCells u).toArray.size := by rcases hpq with ⟨rfl, -⟩ | ⟨rfl, -⟩ <;> first | exact t0 u | exact t1 u
  have hqv : (Y1.alloc (.cells #[.int .i64 0, .int .i64 0, .int .i64 0, .int .u64 0, .slice none 0 0, .int .i64 0, .slice none 0 0, .bool false, .int .i64 0, .bool false, .int .i64 0, .int .i64 0, .int .i64 0, .int .i64 0, .int .i64 0, .int .i64 0, .int .i64 0, .int .i64 0, .int .i64 0, .int .i64 0] 34)).there q 0 (cCells v).toArray.size := by rcases hpq with ⟨-, rfl⟩ | ⟨-, rfl⟩ <;> first | exact t0 v | exact t1 v
  have hp : w.heap.size ≤ p := by omega
  have hq : w.heap.size ≤ q := by omega
  have hne : p ≠ q := by omega
  have hb2 : Below w.heap.size w (Y1.alloc (.cells #[.int .i64 0, .int .i64 0, .int .i64 0, .int .u64 0, .slice none 0 0, .int .i64 0, .slice none 0 0, .bool false, .int .i64 0, .bool false, .int .i64 0, .int .i64 0, .int .i64 0, .int .i64 0, .int .i64 0, .int .i64 0, .int .i64 0, .int .i64 0, .int .i64 0, .int .i64 0] 34)) := hb1.alloc (by omega) _
  have hqv3 := World.there_setCells hqv p 0 (cCells u)
  have c1 : CAt ((Y1.alloc (.cells #[.int .i64 0, .int .i64 0, .int .i64 0, .int .u64 0, .slice none 0 0, .int .i64 0, .slice none 0 0, .bool false, .int .i64 0, .bool false, .int .i64 0, .int .i64 0, .int .i64 0, .int .i64 0, .int .i64 0, .int .i64 0, .int .i64 0, .int .i64 0, .int .i64 0, .int .i64 0] 34)).setCells p 0 (cCells u)) p 0 u := World.rangeAt_setCells_same _ _ _ _ (by simpa using hpu)
  exact ⟨_, _, rfl, rfl, hpu, hqv3, below_setCells _ _ _ hb2 hp, below_setCells _ _ _ (below_setCells _ _ _ hb2 hp) hq, World.rangeAt_setCells_apart c1 q 0 _ (.inl hne), World.rangeAt_setCells_same _ _ _ _ (by simpa using hqv3)⟩

set_option maxRecDepth 100000 in
set_option maxHeartbeats 8000000 in
theorem lsound_b (A : Option Addr) (l : List CV) (c : Nat) (i k : Int) (w : World) (hr : CRow w w.heap.size A l) (hi : 0 ≤ i ∧ i ≤ 255) (hk : 0 ≤ k ∧ k ≤ 255) : Calls Try.prog 3 #[.slice A l.length c, .int .u8 i, .int .u8 k] w fun e w' => e = .returned (.bool true) ∧ Below w.heap.size w w' := by
  have HR := Lib.hid hr
  clear hr
  go_enter Try.func3, Try.ntmps3
  go_wp2_with fail
  refine (wakes_b _).mono ?_
  rintro e w1 ⟨rfl, hb1⟩
  have HB1 := Lib.hid hb1
  clear hb1
  by_cases hl : (60 : Int) < (l.length : Int)
  · go_wp2
    go_ret
    exact ⟨rfl, HB1.out⟩
  have hld : decide ((60 : Int) < (l.length : Int)) = false := decide_eq_false hl
  have hl60 : l.length ≤ 60 := by omega
  obtain ⟨q0, hq0⟩ : ∃ q, soundB l = q := ⟨_, rfl⟩
  have HQ0 := Lib.hid hq0
  clear hq0
  go_wp2_with fail
  refine (sound_q A l c q0 _ (HR.out.later HB1.out) hl60 HQ0.out).mono ?_
  rintro e w2 ⟨rfl, hb2⟩
  have HB2 := Lib.hid (HB1.out.trans (hb2.mono HB1.out.size))
  clear hb2
  go_wp2_with fail
  refine (rsound_q A l c q0 _ (HR.out.later HB2.out) hl60 HQ0.out).mono ?_
  rintro e w3 ⟨rfl, hb3⟩
  have HB3 := Lib.hid (HB2.out.trans (hb3.mono HB2.out.size))
  clear hb3
  by_cases hz : l.length = 0
  · have hza : ((l.length : Int) == 0) = true := by simp [hz]
    clear hl hld hl60
    go_wp2
    go_ret
    exact ⟨rfl, HB3.out⟩
  have hnl : ¬ l = [] := fun e => hz (by rw [e]; rfl)
  have hza : ((l.length : Int) == 0) = false := by simp [hnl]
  obtain ⟨iu, hiu, hie, hit⟩ := rem_ix hi.1 (show 0 < l.length by omega)
  obtain ⟨kv, hkv, hke, hkt⟩ := rem_ix hk.1 (show 0 < l.length by omega)
  obtain ⟨b, o, u, rfl, hbl, hu, -, huc⟩ := HR.out.at_ hiu
  obtain ⟨b', o', v, hA, -, hv, -, hvc⟩ := HR.out.at_ hkv
  injection hA with hA
  injection hA with hA1 hA2
  subst hA1 hA2
  have HU : Hid (∀ W', Below w3.heap.size w3 W' → CAt W' b (o + iu * 20) u) := Lib.hid (fun W' h => (huc _ (HB3.out.trans (h.mono HB3.out.size))).1)
  have HV : Hid (∀ W', Below w3.heap.size w3 W' → CAt W' b (o + kv * 20) v) := Lib.hid (fun W' h => (hvc _ (HB3.out.trans (h.mono HB3.out.size))).1)
  obtain ⟨q1, hq1⟩ : ∃ q, aheadB u v = q := ⟨_, rfl⟩
  have HQ1 := Lib.hid hq1
  obtain ⟨Y1, Y2, HY1, HY2, hby1, hby2, hv2⟩ := vars2 w3 u v
  have HBY1 := Lib.hid hby1; have HBY2 := Lib.hid hby2; have HV2 := Lib.hid hv2
  have hn0 : (l.length : Int) ≠ 0 := by omega
  have hiu2 : (iu : Int) < (l.length : Int) := by omega
  have hkv2 : (kv : Int) < (l.length : Int) := by omega
  have w1 := IntWalk.i64_in i (by omega); have w2 := IntWalk.i64_in k (by omega)
  have w3' := IntWalk.i64_in (iu : Int) (by omega); have w4' := IntWalk.i64_in (kv : Int) (by omega)
  clear hl hz hq1 hby1 hby2 hv2 huc hvc hu hv hbl hi hk hiu hkv
  go_wp2_with fail
  refine wp_region_held_drew (S := fun W' => Below w3.heap.size w3 W') (by kernel_rfl) ((Below.refl _ _).drew) (fun hHeld => ?_)
  first
    | (refine wpAnyH_take (i := 0) rfl (by kernel_rfl) (by kernel_rfl) (by kernel_rfl) (fun _ _ _ h => h) (Or.inl ⟨by rfl, by intro w hSw; (go_simp <;> with_reducible rfl)⟩) (by assumption) ?_)
    | (refine wpAnyH_take (i := 0) rfl (by kernel_rfl) (by kernel_rfl) (by kernel_rfl) (fun _ _ _ h => h) (Or.inr ⟨by rfl, rfl⟩) (by assumption) ?_)
  (try simp only [Act.put, List.setIfInBounds_toArray, List.set_cons_zero, List.set_cons_succ, List.getElem_toArray, List.getElem_cons_zero, List.getElem_cons_succ])
  first
    | (refine wpAnyH_take (i := 1) rfl (by kernel_rfl) (by kernel_rfl) (by kernel_rfl) (fun _ _ _ h => h) (Or.inl ⟨by rfl, by intro w hSw; (go_simp <;> with_reducible rfl)⟩) (by assumption) ?_)
    | (refine wpAnyH_take (i := 1) rfl (by kernel_rfl) (by kernel_rfl) (by kernel_rfl) (fun _ _ _ h => h) (Or.inr ⟨by rfl, rfl⟩) (by assumption) ?_)
  (try simp only [Act.put, List.setIfInBounds_toArray, List.set_cons_zero, List.set_cons_succ, List.getElem_toArray, List.getElem_cons_zero, List.getElem_cons_succ])
  first
    | (refine wpAnyH_take (i := 2) rfl (by kernel_rfl) (by kernel_rfl) (by kernel_rfl) (fun _ _ _ h => h) (Or.inl ⟨by rfl, by intro w hSw; (go_simp <;> with_reducible rfl)⟩) (by assumption) ?_)
    | (refine wpAnyH_take (i := 2) rfl (by kernel_rfl) (by kernel_rfl) (by kernel_rfl) (fun _ _ _ h => h) (Or.inr ⟨by rfl, rfl⟩) (by assumption) ?_)
  (try simp only [Act.put, List.setIfInBounds_toArray, List.set_cons_zero, List.set_cons_succ, List.getElem_toArray, List.getElem_cons_zero, List.getElem_cons_succ])
  first
    | (refine wpAnyH_take (i := 3) rfl (by kernel_rfl) (by kernel_rfl) (by kernel_rfl) (fun _ _ _ h => h) (Or.inl ⟨by rfl, by intro w hSw; (go_simp <;> with_reducible rfl)⟩) (by assumption) ?_)
    | (refine wpAnyH_take (i := 3) rfl (by kernel_rfl) (by kernel_rfl) (by kernel_rfl) (fun _ _ _ h => h) (Or.inr ⟨by rfl, rfl⟩) (by assumption) ?_)
  (try simp only [Act.put, List.setIfInBounds_toArray, List.set_cons_zero, List.set_cons_succ, List.getElem_toArray, List.getElem_cons_zero, List.getElem_cons_succ])
  first
    | (refine wpAnyH_take (i := 4) rfl (by kernel_rfl) (by kernel_rfl) (by kernel_rfl) (fun _ _ _ h => h) (Or.inl ⟨by rfl, by intro w hSw; (go_simp <;> with_reducible rfl)⟩) (by assumption) ?_)
    | (refine wpAnyH_take (i := 4) rfl (by kernel_rfl) (by kernel_rfl) (by kernel_rfl) (fun _ _ _ h => h) (Or.inr ⟨by rfl, rfl⟩) (by assumption) ?_)
  (try simp only [Act.put, List.setIfInBounds_toArray, List.set_cons_zero, List.set_cons_succ, List.getElem_toArray, List.getElem_cons_zero, List.getElem_cons_succ])
  first
    | (refine wpAnyH_take (i := 5) rfl (by kernel_rfl) (by kernel_rfl) (by kernel_rfl) (fun _ _ _ h => h) (Or.inl ⟨by rfl, by intro w hSw; (go_simp <;> with_reducible rfl)⟩) (by assumption) ?_)
    | (refine wpAnyH_take (i := 5) rfl (by kernel_rfl) (by kernel_rfl) (by kernel_rfl) (fun _ _ _ h => h) (Or.inr ⟨by rfl, rfl⟩) (by assumption) ?_)
  (try simp only [Act.put, List.setIfInBounds_toArray, List.set_cons_zero, List.set_cons_succ, List.getElem_toArray, List.getElem_cons_zero, List.getElem_cons_succ])
  first
    | (refine wpAnyH_take (i := 6) rfl (by kernel_rfl) (by kernel_rfl) (by kernel_rfl) (fun _ _ _ h => h) (Or.inl ⟨by rfl, by intro w hSw; (go_simp <;> with_reducible rfl)⟩) (by assumption) ?_)
    | (refine wpAnyH_take (i := 6) rfl (by kernel_rfl) (by kernel_rfl) (by kernel_rfl) (fun _ _ _ h => h) (Or.inr ⟨by rfl, rfl⟩) (by assumption) ?_)
  (try simp only [Act.put, List.setIfInBounds_toArray, List.set_cons_zero, List.set_cons_succ, List.getElem_toArray, List.getElem_cons_zero, List.getElem_cons_succ])
  refine wpAnyH_take (i := 7) rfl (by kernel_rfl) (by kernel_rfl) (by kernel_rfl) (fun _ _ _ h => h) (yieldsIf_load_mid (by with_unfolding_all rfl) 34 _ rfl (b) (o + iu * 20) (by with_unfolding_all rfl) (cCells u) _ (fun W' hW' => HU.out W' hW') Try.underlying34 rfl (cCells_info u)) (by assumption) ?_
  (try simp only [Act.put, List.setIfInBounds_toArray, List.set_cons_zero, List.set_cons_succ, List.getElem_toArray, List.getElem_cons_zero, List.getElem_cons_succ])
  first
    | (refine wpAnyH_take (i := 8) rfl (by kernel_rfl) (by kernel_rfl) (by kernel_rfl) (fun _ _ _ h => h) (Or.inl ⟨by rfl, by intro w hSw; (go_simp <;> with_reducible rfl)⟩) (by assumption) ?_)
    | (refine wpAnyH_take (i := 8) rfl (by kernel_rfl) (by kernel_rfl) (by kernel_rfl) (fun _ _ _ h => h) (Or.inr ⟨by rfl, rfl⟩) (by assumption) ?_)
  (try simp only [Act.put, List.setIfInBounds_toArray, List.set_cons_zero, List.set_cons_succ, List.getElem_toArray, List.getElem_cons_zero, List.getElem_cons_succ])
  first
    | (refine wpAnyH_take (i := 9) rfl (by kernel_rfl) (by kernel_rfl) (by kernel_rfl) (fun _ _ _ h => h) (Or.inl ⟨by rfl, by intro w hSw; (go_simp <;> with_reducible rfl)⟩) (by assumption) ?_)
    | (refine wpAnyH_take (i := 9) rfl (by kernel_rfl) (by kernel_rfl) (by kernel_rfl) (fun _ _ _ h => h) (Or.inr ⟨by rfl, rfl⟩) (by assumption) ?_)
  (try simp only [Act.put, List.setIfInBounds_toArray, List.set_cons_zero, List.set_cons_succ, List.getElem_toArray, List.getElem_cons_zero, List.getElem_cons_succ])
  first
    | (refine wpAnyH_take (i := 10) rfl (by kernel_rfl) (by kernel_rfl) (by kernel_rfl) (fun _ _ _ h => h) (Or.inl ⟨by rfl, by intro w hSw; (go_simp <;> with_reducible rfl)⟩) (by assumption) ?_)
    | (refine wpAnyH_take (i := 10) rfl (by kernel_rfl) (by kernel_rfl) (by kernel_rfl) (fun _ _ _ h => h) (Or.inr ⟨by rfl, rfl⟩) (by assumption) ?_)
  (try simp only [Act.put, List.setIfInBounds_toArray, List.set_cons_zero, List.set_cons_succ, List.getElem_toArray, List.getElem_cons_zero, List.getElem_cons_succ])
  first
    | (refine wpAnyH_take (i := 11) rfl (by kernel_rfl) (by kernel_rfl) (by kernel_rfl) (fun _ _ _ h => h) (Or.inl ⟨by rfl, by intro w hSw; (go_simp <;> with_reducible rfl)⟩) (by assumption) ?_)
    | (refine wpAnyH_take (i := 11) rfl (by kernel_rfl) (by kernel_rfl) (by kernel_rfl) (fun _ _ _ h => h) (Or.inr ⟨by rfl, rfl⟩) (by assumption) ?_)
  (try simp only [Act.put, List.setIfInBounds_toArray, List.set_cons_zero, List.set_cons_succ, List.getElem_toArray, List.getElem_cons_zero, List.getElem_cons_succ])
  first
    | (refine wpAnyH_take (i := 12) rfl (by kernel_rfl) (by kernel_rfl) (by kernel_rfl) (fun _ _ _ h => h) (Or.inl ⟨by rfl, by intro w hSw; (go_simp <;> with_reducible rfl)⟩) (by assumption) ?_)
    | (refine wpAnyH_take (i := 12) rfl (by kernel_rfl) (by kernel_rfl) (by kernel_rfl) (fun _ _ _ h => h) (Or.inr ⟨by rfl, rfl⟩) (by assumption) ?_)
  (try simp only [Act.put, List.setIfInBounds_toArray, List.set_cons_zero, List.set_cons_succ, List.getElem_toArray, List.getElem_cons_zero, List.getElem_cons_succ])
  first
    | (refine wpAnyH_take (i := 13) rfl (by kernel_rfl) (by kernel_rfl) (by kernel_rfl) (fun _ _ _ h => h) (Or.inl ⟨by rfl, by intro w hSw; (go_simp <;> with_reducible rfl)⟩) (by assumption) ?_)
    | (refine wpAnyH_take (i := 13) rfl (by kernel_rfl) (by kernel_rfl) (by kernel_rfl) (fun _ _ _ h => h) (Or.inr ⟨by rfl, rfl⟩) (by assumption) ?_)
  (try simp only [Act.put, List.setIfInBounds_toArray, List.set_cons_zero, List.set_cons_succ, List.getElem_toArray, List.getElem_cons_zero, List.getElem_cons_succ])
  first
    | (refine wpAnyH_take (i := 14) rfl (by kernel_rfl) (by kernel_rfl) (by kernel_rfl) (fun _ _ _ h => h) (Or.inl ⟨by rfl, by intro w hSw; (go_simp <;> with_reducible rfl)⟩) (by assumption) ?_)
    | (refine wpAnyH_take (i := 14) rfl (by kernel_rfl) (by kernel_rfl) (by kernel_rfl) (fun _ _ _ h => h) (Or.inr ⟨by rfl, rfl⟩) (by assumption) ?_)
  (try simp only [Act.put, List.setIfInBounds_toArray, List.set_cons_zero, List.set_cons_succ, List.getElem_toArray, List.getElem_cons_zero, List.getElem_cons_succ])
  refine wpAnyH_take (i := 15) rfl (by kernel_rfl) (by kernel_rfl) (by kernel_rfl) (fun _ _ _ h => h) (yieldsIf_load_mid (by with_unfolding_all rfl) 34 _ rfl (b) (o + kv * 20) (by with_unfolding_all rfl) (cCells v) _ (fun W' hW' => HV.out W' hW') Try.underlying34 rfl (cCells_info v)) (by assumption) ?_
  (try simp only [Act.put, List.setIfInBounds_toArray, List.set_cons_zero, List.set_cons_succ, List.getElem_toArray, List.getElem_cons_zero, List.getElem_cons_succ])
  refine wpAnyH_ready (rs := [16, 17]) (by kernel_rfl) (by simp) (AllReadyH.cons rfl (fun K hK => ?_) (AllReadyH.cons rfl (fun K hK => ?_) AllReadyH.nil))
  · obtain ⟨Y3, Y4, HY3, HY4, hth3, hth4, hb3, hb4, cu, cv⟩ := HV2.out (w3.heap.size) (Y1.heap.size) (.inl ⟨rfl, rfl⟩)
    have HT3 := Lib.hid hth3; have HT4 := Lib.hid hth4; have HB3' := Lib.hid hb3; have HB4' := Lib.hid hb4
    have HCU : Hid (∀ W', Below Y4.heap.size Y4 W' → CAt W' (w3.heap.size) 0 u) := Lib.hid (fun W' h => cu.later h cu.lt)
    have HCV : Hid (∀ W', Below Y4.heap.size Y4 W' → CAt W' (Y1.heap.size) 0 v) := Lib.hid (fun W' h => cv.later h cv.lt)
    clear hth3 hth4 hb3 hb4 cu cv
    go_simp
    rw [← HY1.out]
    refine hK.out _ _ (HBY1.out) (fun hHeld => ?_)
    clear hK K
    (try simp only [Act.put, List.setIfInBounds_toArray, List.set_cons_zero, List.set_cons_succ, List.getElem_toArray, List.getElem_cons_zero, List.getElem_cons_succ])
    refine wpAnyH_ready (rs := [17]) (by kernel_rfl) (by simp) (AllReadyH.cons rfl (fun K hK => ?_) AllReadyH.nil)
    go_simp
    rw [← HY2.out]
    refine hK.out _ _ (HBY2.out) (fun hHeld => ?_)
    clear hK K
    (try simp only [Act.put, List.setIfInBounds_toArray, List.set_cons_zero, List.set_cons_succ, List.getElem_toArray, List.getElem_cons_zero, List.getElem_cons_succ])
    refine wpAnyH_ready (rs := [18]) (by kernel_rfl) (by simp) (AllReadyH.cons rfl (fun K hK => ?_) AllReadyH.nil)
    refine wp_store_mid 34 _ _ rfl (w3.heap.size) 0 (cCells u).toArray (by kernel_rfl) (by kernel_rfl) HT3.out (cCells_infoA u) (cCells_one u) ?_
    (try simp only [List.toList_toArray])
    rw [← HY3.out]
    refine hK.out _ _ (HB3'.out) (fun hHeld => ?_)
    clear hK K
    (try simp only [Act.put, List.setIfInBounds_toArray, List.set_cons_zero, List.set_cons_succ, List.getElem_toArray, List.getElem_cons_zero, List.getElem_cons_succ])
    refine wpAnyH_ready (rs := [19]) (by kernel_rfl) (by simp) (AllReadyH.cons rfl (fun K hK => ?_) AllReadyH.nil)
    refine wp_store_mid 34 _ _ rfl (Y1.heap.size) 0 (cCells v).toArray (by kernel_rfl) (by kernel_rfl) HT4.out (cCells_infoA v) (cCells_one v) ?_
    (try simp only [List.toList_toArray])
    rw [← HY4.out]
    refine hK.out _ _ (HB4'.out) (fun hHeld => ?_)
    clear hK K
    (try simp only [Act.put, List.setIfInBounds_toArray, List.set_cons_zero, List.set_cons_succ, List.getElem_toArray, List.getElem_cons_zero, List.getElem_cons_succ])
    refine wpAnyH_done (by kernel_rfl) ?_ _
    clear hHeld
    go_wp2_with fail
    refine wp_region_held_drew (S := fun W' => Below Y4.heap.size Y4 W') (by kernel_rfl) ((Below.refl _ _).drew) (fun hHeld => ?_)
    refine wpAnyH_take (i := 0) rfl (by kernel_rfl) (by kernel_rfl) (by kernel_rfl) (fun _ _ _ h => h) (yieldsIf_load_mid (by with_unfolding_all rfl) 34 _ rfl (w3.heap.size) (0) (by with_unfolding_all rfl) (cCells u) _ (fun W' hW' => HCU.out W' hW') Try.underlying34 rfl (cCells_info u)) (by assumption) ?_
    (try simp only [Act.put, List.setIfInBounds_toArray, List.set_cons_zero, List.set_cons_succ, List.getElem_toArray, List.getElem_cons_zero, List.getElem_cons_succ])
    refine wpAnyH_take (i := 1) rfl (by kernel_rfl) (by kernel_rfl) (by kernel_rfl) (fun _ _ _ h => h) (yieldsIf_load_mid (by with_unfolding_all rfl) 34 _ rfl (Y1.heap.size) (0) (by with_unfolding_all rfl) (cCells v) _ (fun W' hW' => HCV.out W' hW') Try.underlying34 rfl (cCells_info v)) (by assumption) ?_
    (try simp only [Act.put, List.setIfInBounds_toArray, List.set_cons_zero, List.set_cons_succ, List.getElem_toArray, List.getElem_cons_zero, List.getElem_cons_succ])
    refine wpAnyH_take (i := 3) rfl (by kernel_rfl) (by kernel_rfl) (by kernel_rfl) (fun _ _ _ h => h) (yieldsIf_load_mid (by with_unfolding_all rfl) 34 _ rfl (w3.heap.size) (0) (by with_unfolding_all rfl) (cCells u) _ (fun W' hW' => HCU.out W' hW') Try.underlying34 rfl (cCells_info u)) (by assumption) ?_
    (try simp only [Act.put, List.setIfInBounds_toArray, List.set_cons_zero, List.set_cons_succ, List.getElem_toArray, List.getElem_cons_zero, List.getElem_cons_succ])
    refine wpAnyH_take (i := 4) rfl (by kernel_rfl) (by kernel_rfl) (by kernel_rfl) (fun _ _ _ h => h) (yieldsIf_load_mid (by with_unfolding_all rfl) 34 _ rfl (Y1.heap.size) (0) (by with_unfolding_all rfl) (cCells v) _ (fun W' hW' => HCV.out W' hW') Try.underlying34 rfl (cCells_info v)) (by assumption) ?_
    (try simp only [Act.put, List.setIfInBounds_toArray, List.set_cons_zero, List.set_cons_succ, List.getElem_toArray, List.getElem_cons_zero, List.getElem_cons_succ])
    refine wpAnyH_ready (rs := [2]) (by kernel_rfl) (by simp) (AllReadyH.cons rfl (fun K hK => ?_) AllReadyH.nil)
    go_simp
    refine (ahead_q u v q1 _ HQ1.out).mono ?_
    rintro e w5 ⟨rfl, hb5⟩
    (try go_wp2_with fail)
    have HZ5 := Lib.hid ((Below.refl Y4.heap.size Y4).drew.trans hb5)
    clear hb5
    refine hK.out _ _ (HZ5.out) (fun hHeld => ?_)
    clear hK K
    (try simp only [Act.put, List.setIfInBounds_toArray, List.set_cons_zero, List.set_cons_succ, List.getElem_toArray, List.getElem_cons_zero, List.getElem_cons_succ])
    refine wpAnyH_ready (rs := [5]) (by kernel_rfl) (by simp) (AllReadyH.cons rfl (fun K hK => ?_) AllReadyH.nil)
    go_simp
    refine (rahead_q u v q1 _ HQ1.out).mono ?_
    rintro e w6 ⟨rfl, hb6⟩
    (try go_wp2_with fail)
    have HZ6 := Lib.hid (HZ5.out.trans (hb6.mono HZ5.out.size))
    clear hb6
    refine hK.out _ _ (HZ6.out) (fun hHeld => ?_)
    clear hK K
    (try simp only [Act.put, List.setIfInBounds_toArray, List.set_cons_zero, List.set_cons_succ, List.getElem_toArray, List.getElem_cons_zero, List.getElem_cons_succ])
    first
      | (refine wpAnyH_take (i := 6) rfl (by kernel_rfl) (by kernel_rfl) (by kernel_rfl) (fun _ _ _ h => h) (Or.inl ⟨by rfl, by intro w hSw; (go_simp <;> with_reducible rfl)⟩) (by assumption) ?_)
      | (refine wpAnyH_take (i := 6) rfl (by kernel_rfl) (by kernel_rfl) (by kernel_rfl) (fun _ _ _ h => h) (Or.inr ⟨by rfl, rfl⟩) (by assumption) ?_)
    (try simp only [Act.put, List.setIfInBounds_toArray, List.set_cons_zero, List.set_cons_succ, List.getElem_toArray, List.getElem_cons_zero, List.getElem_cons_succ])
    first
      | (refine wpAnyH_take (i := 7) rfl (by kernel_rfl) (by kernel_rfl) (by kernel_rfl) (fun _ _ _ h => h) (Or.inl ⟨by rfl, by intro w hSw; (go_simp <;> with_reducible rfl)⟩) (by assumption) ?_)
      | (refine wpAnyH_take (i := 7) rfl (by kernel_rfl) (by kernel_rfl) (by kernel_rfl) (fun _ _ _ h => h) (Or.inr ⟨by rfl, rfl⟩) (by assumption) ?_)
    (try simp only [Act.put, List.setIfInBounds_toArray, List.set_cons_zero, List.set_cons_succ, List.getElem_toArray, List.getElem_cons_zero, List.getElem_cons_succ])
    refine wpAnyH_done (by kernel_rfl) ?_ _
    clear hHeld
    have HE := Lib.hid (HB3.out.trans (HB4'.out.mono HB3.out.size))
    go_wp2
    go_ret
    exact ⟨by simp, HE.out.trans (HZ6.out.mono HE.out.size)⟩
  · obtain ⟨Y3, Y4, HY3, HY4, hth3, hth4, hb3, hb4, cu, cv⟩ := HV2.out (Y1.heap.size) (w3.heap.size) (.inr ⟨rfl, rfl⟩)
    have HT3 := Lib.hid hth3; have HT4 := Lib.hid hth4; have HB3' := Lib.hid hb3; have HB4' := Lib.hid hb4
    have HCU : Hid (∀ W', Below Y4.heap.size Y4 W' → CAt W' (Y1.heap.size) 0 u) := Lib.hid (fun W' h => cu.later h cu.lt)
    have HCV : Hid (∀ W', Below Y4.heap.size Y4 W' → CAt W' (w3.heap.size) 0 v) := Lib.hid (fun W' h => cv.later h cv.lt)
    clear hth3 hth4 hb3 hb4 cu cv
    go_simp
    rw [← HY1.out]
    refine hK.out _ _ (HBY1.out) (fun hHeld => ?_)
    clear hK K
    (try simp only [Act.put, List.setIfInBounds_toArray, List.set_cons_zero, List.set_cons_succ, List.getElem_toArray, List.getElem_cons_zero, List.getElem_cons_succ])
    refine wpAnyH_ready (rs := [16]) (by kernel_rfl) (by simp) (AllReadyH.cons rfl (fun K hK => ?_) AllReadyH.nil)
    go_simp
    rw [← HY2.out]
    refine hK.out _ _ (HBY2.out) (fun hHeld => ?_)
    clear hK K
    (try simp only [Act.put, List.setIfInBounds_toArray, List.set_cons_zero, List.set_cons_succ, List.getElem_toArray, List.getElem_cons_zero, List.getElem_cons_succ])
    refine wpAnyH_ready (rs := [18]) (by kernel_rfl) (by simp) (AllReadyH.cons rfl (fun K hK => ?_) AllReadyH.nil)
    refine wp_store_mid 34 _ _ rfl (Y1.heap.size) 0 (cCells u).toArray (by kernel_rfl) (by kernel_rfl) HT3.out (cCells_infoA u) (cCells_one u) ?_
    (try simp only [List.toList_toArray])
    rw [← HY3.out]
    refine hK.out _ _ (HB3'.out) (fun hHeld => ?_)
    clear hK K
    (try simp only [Act.put, List.setIfInBounds_toArray, List.set_cons_zero, List.set_cons_succ, List.getElem_toArray, List.getElem_cons_zero, List.getElem_cons_succ])
    refine wpAnyH_ready (rs := [19]) (by kernel_rfl) (by simp) (AllReadyH.cons rfl (fun K hK => ?_) AllReadyH.nil)
    refine wp_store_mid 34 _ _ rfl (w3.heap.size) 0 (cCells v).toArray (by kernel_rfl) (by kernel_rfl) HT4.out (cCells_infoA v) (cCells_one v) ?_
    (try simp only [List.toList_toArray])
    rw [← HY4.out]
    refine hK.out _ _ (HB4'.out) (fun hHeld => ?_)
    clear hK K
    (try simp only [Act.put, List.setIfInBounds_toArray, List.set_cons_zero, List.set_cons_succ, List.getElem_toArray, List.getElem_cons_zero, List.getElem_cons_succ])
    refine wpAnyH_done (by kernel_rfl) ?_ _
    clear hHeld
    go_wp2_with fail
    refine wp_region_held_drew (S := fun W' => Below Y4.heap.size Y4 W') (by kernel_rfl) ((Below.refl _ _).drew) (fun hHeld => ?_)
    refine wpAnyH_take (i := 0) rfl (by kernel_rfl) (by kernel_rfl) (by kernel_rfl) (fun _ _ _ h => h) (yieldsIf_load_mid (by with_unfolding_all rfl) 34 _ rfl (Y1.heap.size) (0) (by with_unfolding_all rfl) (cCells u) _ (fun W' hW' => HCU.out W' hW') Try.underlying34 rfl (cCells_info u)) (by assumption) ?_
    (try simp only [Act.put, List.setIfInBounds_toArray, List.set_cons_zero, List.set_cons_succ, List.getElem_toArray, List.getElem_cons_zero, List.getElem_cons_succ])
    refine wpAnyH_take (i := 1) rfl (by kernel_rfl) (by kernel_rfl) (by kernel_rfl) (fun _ _ _ h => h) (yieldsIf_load_mid (by with_unfolding_all rfl) 34 _ rfl (w3.heap.size) (0) (by with_unfolding_all rfl) (cCells v) _ (fun W' hW' => HCV.out W' hW') Try.underlying34 rfl (cCells_info v)) (by assumption) ?_
    (try simp only [Act.put, List.setIfInBounds_toArray, List.set_cons_zero, List.set_cons_succ, List.getElem_toArray, List.getElem_cons_zero, List.getElem_cons_succ])
    refine wpAnyH_take (i := 3) rfl (by kernel_rfl) (by kernel_rfl) (by kernel_rfl) (fun _ _ _ h => h) (yieldsIf_load_mid (by with_unfolding_all rfl) 34 _ rfl (Y1.heap.size) (0) (by with_unfolding_all rfl) (cCells u) _ (fun W' hW' => HCU.out W' hW') Try.underlying34 rfl (cCells_info u)) (by assumption) ?_
    (try simp only [Act.put, List.setIfInBounds_toArray, List.set_cons_zero, List.set_cons_succ, List.getElem_toArray, List.getElem_cons_zero, List.getElem_cons_succ])
    refine wpAnyH_take (i := 4) rfl (by kernel_rfl) (by kernel_rfl) (by kernel_rfl) (fun _ _ _ h => h) (yieldsIf_load_mid (by with_unfolding_all rfl) 34 _ rfl (w3.heap.size) (0) (by with_unfolding_all rfl) (cCells v) _ (fun W' hW' => HCV.out W' hW') Try.underlying34 rfl (cCells_info v)) (by assumption) ?_
    (try simp only [Act.put, List.setIfInBounds_toArray, List.set_cons_zero, List.set_cons_succ, List.getElem_toArray, List.getElem_cons_zero, List.getElem_cons_succ])
    refine wpAnyH_ready (rs := [2]) (by kernel_rfl) (by simp) (AllReadyH.cons rfl (fun K hK => ?_) AllReadyH.nil)
    go_simp
    refine (ahead_q u v q1 _ HQ1.out).mono ?_
    rintro e w5 ⟨rfl, hb5⟩
    (try go_wp2_with fail)
    have HZ5 := Lib.hid ((Below.refl Y4.heap.size Y4).drew.trans hb5)
    clear hb5
    refine hK.out _ _ (HZ5.out) (fun hHeld => ?_)
    clear hK K
    (try simp only [Act.put, List.setIfInBounds_toArray, List.set_cons_zero, List.set_cons_succ, List.getElem_toArray, List.getElem_cons_zero, List.getElem_cons_succ])
    refine wpAnyH_ready (rs := [5]) (by kernel_rfl) (by simp) (AllReadyH.cons rfl (fun K hK => ?_) AllReadyH.nil)
    go_simp
    refine (rahead_q u v q1 _ HQ1.out).mono ?_
    rintro e w6 ⟨rfl, hb6⟩
    (try go_wp2_with fail)
    have HZ6 := Lib.hid (HZ5.out.trans (hb6.mono HZ5.out.size))
    clear hb6
    refine hK.out _ _ (HZ6.out) (fun hHeld => ?_)
    clear hK K
    (try simp only [Act.put, List.setIfInBounds_toArray, List.set_cons_zero, List.set_cons_succ, List.getElem_toArray, List.getElem_cons_zero, List.getElem_cons_succ])
    first
      | (refine wpAnyH_take (i := 6) rfl (by kernel_rfl) (by kernel_rfl) (by kernel_rfl) (fun _ _ _ h => h) (Or.inl ⟨by rfl, by intro w hSw; (go_simp <;> with_reducible rfl)⟩) (by assumption) ?_)
      | (refine wpAnyH_take (i := 6) rfl (by kernel_rfl) (by kernel_rfl) (by kernel_rfl) (fun _ _ _ h => h) (Or.inr ⟨by rfl, rfl⟩) (by assumption) ?_)
    (try simp only [Act.put, List.setIfInBounds_toArray, List.set_cons_zero, List.set_cons_succ, List.getElem_toArray, List.getElem_cons_zero, List.getElem_cons_succ])
    first
      | (refine wpAnyH_take (i := 7) rfl (by kernel_rfl) (by kernel_rfl) (by kernel_rfl) (fun _ _ _ h => h) (Or.inl ⟨by rfl, by intro w hSw; (go_simp <;> with_reducible rfl)⟩) (by assumption) ?_)
      | (refine wpAnyH_take (i := 7) rfl (by kernel_rfl) (by kernel_rfl) (by kernel_rfl) (fun _ _ _ h => h) (Or.inr ⟨by rfl, rfl⟩) (by assumption) ?_)
    (try simp only [Act.put, List.setIfInBounds_toArray, List.set_cons_zero, List.set_cons_succ, List.getElem_toArray, List.getElem_cons_zero, List.getElem_cons_succ])
    refine wpAnyH_done (by kernel_rfl) ?_ _
    clear hHeld
    have HE := Lib.hid (HB3.out.trans (HB4'.out.mono HB3.out.size))
    go_wp2
    go_ret
    exact ⟨by simp, HE.out.trans (HZ6.out.mono HE.out.size)⟩
end Go.Proofs.Ytjhfkpimejaboaa
