/- SameAnswer at what is the same. No condition but those in the statements. -/
import Derived.BigQuiet
import Derived.BigRegion
import Derived.Deep.MidRow
import Derived.Deep.RegionHeld3
import Derived.Deep.Upon
import Derived.IntWalk
import Derived.Shelf.Abstract
import Derived.Test.YthcnooimegaloaaDoorQgv
namespace Go.Proofs.YthcnooimegaloaaDoor
open Go.RowKit Go.Sort
set_option linter.unusedVariables false
set_option linter.unusedSimpArgs false
set_option linter.unusedVariables false
set_option linter.unusedSimpArgs false
set_option maxRecDepth 100000
set_option maxHeartbeats 3200000
theorem sameAns_eq (cd : Int) (vl : Bool) (ct : Int) (ds : List Int) (A A' : Option Addr) (c c' : Nat) (w : World) (h1 : IntRowK .u32 w w.heap.size A ds) (h2 : IntRowK .u32 w w.heap.size A' ds) (hl : ds.length ≤ 1000000) :
    Calls Tryd.prog 9 #[.agg #[.int .i64 cd, .slice A ds.length c, .bool vl, .int .i64 ct], .agg #[.int .i64 cd, .slice A' ds.length c', .bool vl, .int .i64 ct]] w (fun e w' => e = .returned (.bool true) ∧ Below w.heap.size w w') := by
  obtain ⟨W, HW⟩ : ∃ u, Hid (u = (w.alloc (.cells #[.int .i64 cd, .slice A ds.length c, .bool vl, .int .i64 ct] 41)).alloc (.cells #[.int .i64 cd, .slice A' ds.length c', .bool vl, .int .i64 ct] 41)) := ⟨_, rfl⟩
  have hB : Below w.heap.size w W := by rw [HW.out]; exact ((Below.refl _ _).alloc (Nat.le_refl _) _).alloc (by simp) _
  have z2 : W.heap[w.heap.size]? = some (.cells #[.int .i64 cd, .slice A ds.length c, .bool vl, .int .i64 ct] 41 (0, 0)) := by rw [HW.out, Below.heap_alloc _ _ _ (by simp)]; exact heap_alloc_new w _
  have z3 : W.heap[w.heap.size + 1]? = some (.cells #[.int .i64 cd, .slice A' ds.length c', .bool vl, .int .i64 ct] 41 (0, 0)) := by rw [HW.out]; exact heap_new_at10 _ _ (by simp)
  have HZ2 := Lib.hid z2; have HZ3 := Lib.hid z3; have HB := Lib.hid hB
  have H1 := Lib.hid h1; have H2 := Lib.hid h2
  have a0 := cell_blk z2 (i := 0) rfl
  have a1 := cell_blk z2 (i := 1) rfl
  have a2 := cell_blk z2 (i := 2) rfl
  have a3 := cell_blk z2 (i := 3) rfl
  have b0 := cell_blk z3 (i := 0) rfl
  have b1 := cell_blk z3 (i := 1) rfl
  have b2 := cell_blk z3 (i := 2) rfl
  have b3 := cell_blk z3 (i := 3) rfl
  clear z2 z3 hB h1 h2
  go_enter Tryd.func9, Tryd.ntmps9
  go_wp2_with (rw [← HW.out])
  go_loopw [5] (fun ix wr => ∃ k : Nat, k ≤ ds.length ∧ ix = .int .i64 k ∧ Below W.heap.size W wr) (fun ix _ => ds.length - (intOf ix).toNat)
  case atStart => exact ⟨0, Nat.zero_le _, rfl, Below.refl _ _⟩
  case round =>
    obtain ⟨k, hk, rfl, hb⟩ := hrel
    have y2 := cell_blk ((hb.block _ (Array.getElem?_eq_some_iff.1 HZ2.out).1).trans HZ2.out) (i := 1) rfl
    have y3 := cell_blk ((hb.block _ (Array.getElem?_eq_some_iff.1 HZ3.out).1).trans HZ3.out) (i := 1) rfl
    clear a0 a1 a2 a3 b0 b1 b2 b3
    by_cases hkl : k < ds.length
    · obtain ⟨g, o, rfl, -, e1⟩ := H1.out.at_ hkl
      obtain ⟨g', o', rfl, -, e2⟩ := H2.out.at_ hkl
      have hbw := HB.out.trans (hb.mono HB.out.size)
      have u1 := e1 wr hbw
      have u2 := e2 wr hbw
      obtain ⟨y, hy⟩ : ∃ y, ds.getD k 0 = y := ⟨_, rfl⟩
      rw [hy] at u1 u2
      have s1 : (k : Int) < (ds.length : Int) := by omega
      have HBR := Lib.hid hb
      clear e1 e2 hbw hy hb
      go_wp2
      go_region
      go_wp2
      go_roundw
      case rel => exact ⟨k + 1, by omega, by go_num, HBR.out.drew⟩
      case measure => simp [intOf]; omega
    · have HBR := Lib.hid hb
      clear hb
      go_wp2
      go_ret
      exact ⟨rfl, HB.out.trans (HBR.out.mono HB.out.size)⟩
end Go.Proofs.YthcnooimegaloaaDoor
