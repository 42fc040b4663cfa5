/- hist's example. No condition but those in the statements. -/
import Derived.Test.YtjhfkpimejaboaaHRs
import Derived.BigQuiet
import Derived.IntWalk
import Derived.BigRegion
import Derived.OpenShut
import Derived.Deep.MidRow

namespace Go.Proofs.Ytjhfkpimejaboaa
open Go.RowKit Go.Sort Go.ChangeShapes Go.WideShapes
set_option linter.unusedVariables false
set_option linter.unusedSimpArgs false


theorem u8_in17 {n : Int} (h : (Lit.int .u8 n).wf = true) : 0 ≤ n ∧ n ≤ 255 := by
  simp [Lit.wf, IntKind.min, IntKind.max, IntKind.signed, IntKind.bits] at h; omega
theorem sound_q (A : Option Addr) (l : List CV) (c : Nat) (q : Bool) (w : World) (hr : CRow w w.heap.size A l) (hl : l.length ≤ 60) (h : soundB l = q) : Calls Try.prog 8 #[.slice A l.length c] w fun e w' => e = .returned (.bool q) ∧ Below w.heap.size w w' := by subst h; exact sound_b A l c w hr hl
theorem rsound_q (A : Option Addr) (l : List CV) (c : Nat) (q : Bool) (w : World) (hr : CRow w w.heap.size A l) (hl : l.length ≤ 60) (h : soundB l = q) : Calls Try.prog 9 #[.slice A l.length c] w fun e w' => e = .returned (.bool q) ∧ Below w.heap.size w w' := by subst h; exact rsound_b A l c w hr hl
theorem zsound : soundB [zcv] = false := sound_bad (i := 0) (by simp) (by rw [okB_at (x := zcv) rfl]; simp [oneB, TimedP, zcv])
theorem zrow {w : World} {b : Nat} {t : TypeId} {m : Nat × Nat} (h : w.heap[b]? = some (.cells #[.int .i64 0, .int .i64 0, .int .i64 0, .int .u64 0, .slice none 0 0, .int .i64 0, .slice none 0 0, .bool false, .int .i64 0, .bool false, .int .i64 0, .int .i64 0, .int .i64 0, .int .i64 0, .int .i64 0, .int .i64 0, .int .i64 0, .int .i64 0, .int .i64 0, .int .i64 0] t m)) : CRow w w.heap.size (some ⟨b, 0, none⟩) [zcv] := fun _ => by
  rw [← zcv_cells] at h
  refine ⟨b, 0, rfl, (Array.getElem?_eq_some_iff.1 h).1, fun i v hv => ?_⟩
  match i, hv with
  | 0, hv => injection hv with hv; subst hv; exact ⟨CAt.of_blk h, zcv_rows _ _, zcv_wf⟩
  | i + 1, hv => simp at hv
set_option maxRecDepth 100000 in
set_option maxHeartbeats 1600000 in
theorem wakes_b (w : World) : Calls Try.prog 7 #[] w fun e w' => e = .returned (.bool true) ∧ Below w.heap.size w w' := by
  go_enter Try.func7, Try.ntmps7
  go_wp2_with fail
  refine (sound_q none [] 0 true _ (fun h => absurd h (by simp)) (by simp) rfl).mono ?_
  rintro e w1 ⟨rfl, hb1⟩
  have HB1 := Lib.hid hb1
  obtain ⟨W, HW⟩ : ∃ u, Hid (u = w1.alloc (.cells #[.int .i64 0, .int .i64 0, .int .i64 0, .int .u64 0, .slice none 0 0, .int .i64 0, .slice none 0 0, .bool false, .int .i64 0, .bool false, .int .i64 0, .int .i64 0, .int .i64 0, .int .i64 0, .int .i64 0, .int .i64 0, .int .i64 0, .int .i64 0, .int .i64 0, .int .i64 0] 34)) := ⟨_, rfl⟩
  have HBW : Hid (Below w1.heap.size w1 W) := Lib.hid (by rw [HW.out]; exact (Below.refl _ _).alloc (Nat.le_refl _) _)
  have HZR := Lib.hid (zrow (w := W) (by rw [HW.out]; exact heap_alloc_new w1 _))
  clear hb1
  go_wp2_with (rw [← HW.out])
  refine (sound_q _ [zcv] 1 false W HZR.out (by simp) zsound).mono ?_
  rintro e w2 ⟨rfl, hb2⟩
  have HB2 := Lib.hid (HB1.out.trans ((HBW.out.trans (hb2.mono HBW.out.size)).mono HB1.out.size))
  clear hb2
  go_wp2
  go_ret
  exact ⟨rfl, HB2.out⟩
end Go.Proofs.Ytjhfkpimejaboaa
