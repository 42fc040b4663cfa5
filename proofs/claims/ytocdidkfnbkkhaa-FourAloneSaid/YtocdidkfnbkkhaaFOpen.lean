/- The opening of an array of two integers of 16 bits; bounds. No condition but those in the statements. -/
import Derived.Test.YtocdidkfnbkkhaaFRow
import Derived.Test.YtocdidkfnbkkhaaKitI
namespace Go.Proofs.Ytocdidkfnbkkhaa
open Go.RowKit Go.Sort Go.ChangeShapes Go.WideShapes
set_option linter.unusedVariables false
set_option linter.unusedSimpArgs false
set_option linter.unusedVariables false
theorem okWide_array11 {P : Program} {w : World} {r : Reach} {b0 : Nat} {n : Nat} {t e : TypeId} {v : Value} (ht : P.underlying t = some (.array n e)) (h : Value.okWide P w r b0 t v) : ∃ cs, v = .agg cs ∧ cs.size = P.cellsOf t := by
  simp only [Value.okWide, ht] at h
  obtain ⟨cs, h1, h2, _⟩ := h
  exact ⟨cs, h1, h2⟩
theorem size2_11 {cs : Array Value} (h : cs.size = 2) : ∃ c0 c1, cs = #[c0, c1] := by
  obtain ⟨l⟩ := cs
  match l, h with
  | [a, b], _ => exact ⟨a, b, rfl⟩
theorem arr2_u16 {H : Type} {enc : TypeId × Value → H} {P : Program} {w : World} {r : Reach} {b0 : Nat} {t e : TypeId} (ht : P.underlying t = some (.array 2 e)) (hu : P.underlying e = some (.int .u16)) (hC : P.cellsOf t = 2) (hE : P.cellsOf e = 1) {v : Value} {d : DataW H} {p : List MemPlace} (hv : Value.okWide P w r b0 t v) (h : DataW.Trod enc P w 0 (fun _ => true) true t v d p) :
    ∃ a b : Int, v = .agg #[.int .u16 a, .int .u16 b] ∧ (Lit.int .u16 a).wf = true ∧ (Lit.int .u16 b).wf = true := by
  obtain ⟨cs, rfl, hsz⟩ := okWide_array11 ht hv
  obtain ⟨c0, c1, rfl⟩ := size2_11 (hsz.trans hC)
  obtain ⟨fuel, hf⟩ := h
  obtain ⟨ys, m, _, _, _, hyl, hyf⟩ := DataW.trod_array ht (show DataW.trod enc P w 0 (fun _ => true) true fuel t [c0, c1] = some (d, p) by simpa [Value.cells] using hf)
  have h0 := hyf 0 (by omega)
  have h1 := hyf 1 (by omega)
  rw [hE, List.getElem?_eq_getElem (by omega)] at h0 h1
  simp at h0 h1
  obtain ⟨a, e0, _, w0⟩ := DataW.trod_int hu h0
  obtain ⟨b, e1, _, w1⟩ := DataW.trod_int hu h1
  simp at e0 e1
  subst e0 e1
  exact ⟨a, b, rfl, w0, w1⟩
theorem u16_in11 {n : Int} (h : (Lit.int .u16 n).wf = true) : 0 ≤ n ∧ n ≤ 65535 := by
  simp [Lit.wf, IntKind.min, IntKind.max, IntKind.signed, IntKind.bits] at h; omega
theorem u32_in11 {n : Int} (h : (Lit.int .u32 n).wf = true) : 0 ≤ n ∧ n ≤ 4294967295 := by
  simp [Lit.wf, IntKind.min, IntKind.max, IntKind.signed, IntKind.bits] at h; omega
theorem w32_wf {l : List Int} (h : ∀ q ∈ l, (Lit.int .u32 q).wf = true) : Simp.W32 l := Simp.w32_of fun q hq => u32_in11 (h q hq)
end Go.Proofs.Ytocdidkfnbkkhaa
