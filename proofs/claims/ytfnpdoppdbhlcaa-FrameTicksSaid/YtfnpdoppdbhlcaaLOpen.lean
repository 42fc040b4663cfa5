/- The opening of a frame by value. No condition but those in the statements. -/
import Derived.Test.YtfnpdoppdbhlcaaRight
namespace Go.Proofs.Ytfnpdoppdbhlcaa
open Go.RowKit Go.Sort Go.ChangeShapes Go.WideShapes
set_option linter.unusedVariables false
set_option linter.unusedSimpArgs false

theorem fields3 : ∃ fs, Try.prog.underlying 39 = some (.struct fs) ∧ fieldsN Try.prog fs [.i64, .i64, .i64] := by
  refine ⟨_, Try.underlying39, rfl, fun i f h => ?_⟩
  match i, h with
  | 0, h => cases h; exact ⟨rfl, by kernel_rfl, fun k hk => by cases hk; exact Try.underlying3⟩
  | 1, h => cases h; exact ⟨rfl, by kernel_rfl, fun k hk => by cases hk; exact Try.underlying3⟩
  | 2, h => cases h; exact ⟨rfl, by kernel_rfl, fun k hk => by cases hk; exact Try.underlying3⟩
  | i + 3, h => simp at h
theorem size2 {α : Type} {cs : Array α} (h : cs.size = 2) : ∃ c0 c1, cs = #[c0, c1] := by
  obtain ⟨l⟩ := cs
  match l, h with
  | [c0, c1], _ => exact ⟨c0, c1, rfl⟩
set_option maxRecDepth 100000 in
/-- A frame by value, opened; as to its windows' number nothing is said yet. -/
theorem frm_open {H : Type} {enc : TypeId × Value → H} {w : World} {r : Reach} {b0 : Nat} {v : Value} {d : DataW H} {p : List MemPlace} (hv : Value.okWide Try.prog w r b0 24 v) (h : DataW.Trod enc Try.prog w 0 (fun _ => true) true 24 v d p) :
    ∃ (len : Int) (l : List (List Int)) (A : Option Addr) (c : Nat), v = .agg #[.int .i64 len, .slice A l.length c] ∧ ((Lit.int .i64 len).wf = true ∧ RowN [.i64, .i64, .i64] w w.heap.size A l ∧ wfR [.i64, .i64, .i64] l ∧ l.length ≤ c ∧ c ≤ maxLen) := by
  obtain ⟨f3, u3, k3⟩ := fields3
  obtain ⟨cs, rfl, hsz⟩ := okWide_struct Try.underlying24 hv
  obtain ⟨c0, c1, rfl⟩ := size2 (hsz.trans (by kernel_rfl))
  obtain ⟨fuel, hf⟩ := h
  obtain ⟨k, A, l, c, rfl, rfl, hw, hr, hl, h1, h2, _⟩ := open_frame Try.underlying24 ⟨rfl, by kernel_rfl⟩ ⟨rfl, by kernel_rfl⟩ Try.underlying3 Try.underlying22 u3 k3 (by kernel_rfl) (show DataW.trod enc Try.prog w 0 (fun _ => true) true fuel 24 [c0, c1] = some (d, p) by simpa [Value.cells] using hf)
  exact ⟨k, l, A, c, rfl, hw, hr, hl, h1, h2⟩
/-- What came in. -/
def FArg (w : World) (len : Int) (l : List (List Int)) (A : Option Addr) (c : Nat) : Prop := (Lit.int .i64 len).wf = true ∧ RowN [.i64, .i64, .i64] w w.heap.size A l ∧ wfR [.i64, .i64, .i64] l ∧ l.length ≤ c ∧ c ≤ maxLen
theorem FArg.fin {w : World} {len : Int} {l : List (List Int)} {A : Option Addr} {c : Nat} (h : FArg w len l A c) (hl : l.length ≤ 100) : FIn w len l A := ⟨h.2.1, h.2.2.1, by omega, h.1⟩
end Go.Proofs.Ytfnpdoppdbhlcaa
