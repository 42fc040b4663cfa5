/- hist's example. No condition but those in the statements. -/
import Derived.Test.YtmonneeikkgllaaHRs
import Derived.BigQuiet
import Derived.IntWalk
import Derived.BigRegion
import Derived.OpenShut
import Derived.Deep.MidRow

namespace Go.Proofs.Ytmonneeikkgllaa
open Go.RowKit Go.Sort Go.ChangeShapes Go.WideShapes
set_option linter.unusedVariables false
set_option linter.unusedSimpArgs false


theorem u8_in17 {n : Int} (h : (Lit.int .u8 n).wf = true) : 0 ≤ n ∧ n ≤ 255 := by
  simp [Lit.wf, IntKind.min, IntKind.max, IntKind.signed, IntKind.bits] at h; omega
theorem rsound_q (A : Option Addr) (l : List CV) (c : Nat) (q : Bool) (w : World) (hr : CRow w w.heap.size A l) (hl : l.length ≤ 60) (h : soundB l = q) : Calls Try.prog 7 #[.slice A l.length c] w fun e w' => e = .returned (.bool q) ∧ Below w.heap.size w w' := by subst h; exact rsound_b A l c w hr hl
theorem zsound : soundB [zcv] = false := sound_bad (i := 0) (by simp) (by rw [okB_at (x := zcv) rfl]; simp [oneB, TimedP, zcv])
theorem zrow {w : World} {b : Nat} {t : TypeId} {m : Nat × Nat} (h : w.heap[b]? = some (.cells #[.int .i64 0, .int .i64 0, .int .i64 0, .int .u64 0, .slice none 0 0, .int .i64 0, .slice none 0 0, .bool false, .int .i64 0, .bool false, .int .i64 0, .int .i64 0, .int .i64 0, .int .i64 0, .int .i64 0, .int .i64 0, .int .i64 0, .int .i64 0, .int .i64 0, .int .i64 0] t m)) : CRow w w.heap.size (some ⟨b, 0, none⟩) [zcv] := fun _ => by
  rw [← zcv_cells] at h
  refine ⟨b, 0, rfl, (Array.getElem?_eq_some_iff.1 h).1, fun i v hv => ?_⟩
  match i, hv with
  | 0, hv => injection hv with hv; subst hv; exact ⟨CAt.of_blk h, zcv_rows _ _, zcv_wf⟩
  | i + 1, hv => simp at hv
end Go.Proofs.Ytmonneeikkgllaa
