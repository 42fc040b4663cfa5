/- The openings of a configuration, of an array of two integers, of a channel. No condition but those in the statements. -/
import Derived.Test.YtfpcldkgcifciaaKitN
import Derived.Test.YtfpcldkgcifciaaProg
namespace Go.Proofs.Ytfpcldkgcifciaa
open Go.RowKit Go.Sort Go.ChangeShapes Go.WideShapes
set_option linter.unusedVariables false
set_option linter.unusedSimpArgs false

theorem fields2 : ∃ fs, Try.prog.underlying 45 = some (.struct fs) ∧ fieldsN Try.prog fs [.i64, .i64] := by
  refine ⟨_, Try.underlying45, rfl, fun i f h => ?_⟩
  match i, h with
  | 0, h => cases h; exact ⟨rfl, by kernel_rfl, fun k hk => by cases hk; exact Try.underlying3⟩
  | 1, h => cases h; exact ⟨rfl, by kernel_rfl, fun k hk => by cases hk; exact Try.underlying3⟩
  | i + 2, h => simp at h
theorem fields3 : ∃ fs, Try.prog.underlying 49 = some (.struct fs) ∧ fieldsN Try.prog fs [.i64, .i64, .i64] := by
  refine ⟨_, Try.underlying49, rfl, fun i f h => ?_⟩
  match i, h with
  | 0, h => cases h; exact ⟨rfl, by kernel_rfl, fun k hk => by cases hk; exact Try.underlying3⟩
  | 1, h => cases h; exact ⟨rfl, by kernel_rfl, fun k hk => by cases hk; exact Try.underlying3⟩
  | 2, h => cases h; exact ⟨rfl, by kernel_rfl, fun k hk => by cases hk; exact Try.underlying3⟩
  | i + 3, h => simp at h
theorem fields7 : ∃ fs, Try.prog.underlying 64 = some (.struct fs) ∧ fieldsN Try.prog fs [.i64, .i64, .i64, .i64, .i64, .i64, .u32] := by
  refine ⟨_, Try.underlying64, rfl, fun i f h => ?_⟩
  match i, h with
  | 0, h => cases h; exact ⟨rfl, by kernel_rfl, fun k hk => by cases hk; exact Try.underlying3⟩
  | 1, h => cases h; exact ⟨rfl, by kernel_rfl, fun k hk => by cases hk; exact Try.underlying3⟩
  | 2, h => cases h; exact ⟨rfl, by kernel_rfl, fun k hk => by cases hk; exact Try.underlying3⟩
  | 3, h => cases h; exact ⟨rfl, by kernel_rfl, fun k hk => by cases hk; exact Try.underlying3⟩
  | 4, h => cases h; exact ⟨rfl, by kernel_rfl, fun k hk => by cases hk; exact Try.underlying3⟩
  | 5, h => cases h; exact ⟨rfl, by kernel_rfl, fun k hk => by cases hk; exact Try.underlying3⟩
  | 6, h => cases h; exact ⟨rfl, by kernel_rfl, fun k hk => by cases hk; exact Try.underlying62⟩
  | i + 7, h => simp at h
set_option maxRecDepth 100000 in
theorem cfg_open {H : Type} {enc : TypeId × Value → H} {w : World} {r : Reach} {b0 : Nat} {v : Value} {d : DataW H} {p : List MemPlace} (hv : Value.okWide Try.prog w r b0 29 v) (h : DataW.Trod enc Try.prog w 0 (fun _ => true) true 29 v d p) :
    ∃ (c : Cfg) (x : CfgAt), v = .agg (cfgCells c x) ∧ CfgIn w w.heap.size c x ∧ CfgWf c := by
  obtain ⟨f2, u2, k2⟩ := fields2
  obtain ⟨f3, u3, k3⟩ := fields3
  obtain ⟨f7, u7, k7⟩ := fields7
  exact cfg_arg Try.underlying29 (by kernel_rfl) ⟨rfl, by kernel_rfl⟩ ⟨rfl, by kernel_rfl⟩ ⟨rfl, by kernel_rfl⟩ Try.underlying22 u2 k2 (by kernel_rfl) Try.underlying23 u7 k7 (by kernel_rfl) Try.underlying27 (by kernel_rfl) Try.underlying26 ⟨rfl, by kernel_rfl⟩ ⟨rfl, by kernel_rfl⟩ Try.underlying3 Try.underlying24 u3 k3 (by kernel_rfl) hv h
section
variable {H : Type} {enc : TypeId × Value → H} {P : Program} {w : World} {r : Reach} {b0 : Nat}
theorem okWide_array {n : Nat} {t e : TypeId} {v : Value} (ht : P.underlying t = some (.array n e)) (h : Value.okWide P w r b0 t v) : ∃ cs, v = .agg cs ∧ cs.size = P.cellsOf t := by
  simp only [Value.okWide, ht] at h
  obtain ⟨cs, h1, h2, _⟩ := h
  exact ⟨cs, h1, h2⟩
theorem size2 {α : Type} {cs : Array α} (h : cs.size = 2) : ∃ c0 c1, cs = #[c0, c1] := by
  obtain ⟨l⟩ := cs
  match l, h with
  | [c0, c1], _ => exact ⟨c0, c1, rfl⟩
theorem arr2_arg {t e : TypeId} (ht : P.underlying t = some (.array 2 e)) (hu : P.underlying e = some (.int .i64)) (hC : P.cellsOf t = 2) (hE : P.cellsOf e = 1) {v : Value} {d : DataW H} {p : List MemPlace} (hv : Value.okWide P w r b0 t v) (h : DataW.Trod enc P w 0 (fun _ => true) true t v d p) :
    ∃ a b : Int, v = .agg #[.int .i64 a, .int .i64 b] ∧ (Lit.int .i64 a).wf = true ∧ (Lit.int .i64 b).wf = true := by
  obtain ⟨cs, rfl, hsz⟩ := okWide_array ht hv
  obtain ⟨c0, c1, rfl⟩ := size2 (hsz.trans hC)
  obtain ⟨fuel, hf⟩ := h
  obtain ⟨ys, m, _, _, _, hyl, hyf⟩ := DataW.trod_array ht (show DataW.trod enc P w 0 (fun _ => true) true fuel t [c0, c1] = some (d, p) by simpa [Value.cells] using hf)
  have h0 := hyf 0 (by omega)
  have h1 := hyf 1 (by omega)
  rw [hE, List.getElem?_eq_getElem (by omega)] at h0 h1
  simp at h0 h1
  obtain ⟨a, e0, _, w0⟩ := DataW.trod_int hu h0
  obtain ⟨b, e1, _, w1⟩ := DataW.trod_int hu h1
  simp at e0 e1
  subst e0 e1
  exact ⟨a, b, rfl, w0, w1⟩
end
set_option maxRecDepth 100000 in
theorem chan_open {H : Type} {enc : TypeId × Value → H} {w : World} {r : Reach} {b0 : Nat} {v : Value} {d : DataW H} {p : List MemPlace} (hv : Value.okWide Try.prog w r b0 64 v) (h : DataW.Trod enc Try.prog w 0 (fun _ => true) true 64 v d p) :
    ∃ x0 x1 x2 x3 x4 x5 x6 : Int, v = .agg #[.int .i64 x0, .int .i64 x1, .int .i64 x2, .int .i64 x3, .int .i64 x4, .int .i64 x5, .int .u32 x6] ∧ wfN [.i64, .i64, .i64, .i64, .i64, .i64, .u32] [x0, x1, x2, x3, x4, x5, x6] := by
  obtain ⟨f7, u7, k7⟩ := fields7
  obtain ⟨cs, rfl, hsz⟩ := okWide_struct u7 hv
  obtain ⟨fuel, hf⟩ := h
  obtain ⟨l, hl, hw⟩ := open_intsN (cs := cs.toList) u7 k7 (by kernel_rfl) (by simpa [Value.cells] using hf)
  obtain ⟨x0, x1, x2, x3, x4, x5, x6, rfl, _⟩ := wfN7 hw
  exact ⟨x0, x1, x2, x3, x4, x5, x6, by rw [show cs = cs.toList.toArray from rfl, hl]; rfl, hw⟩
end Go.Proofs.Ytfpcldkgcifciaa
