/- Texts of the ring, joined, what is used of them. No condition but those in the statements. -/
import Derived.BigQuiet
import Derived.BigRegion
import Derived.ChangeSlices
import Derived.Deep.Grids
import Derived.Deep.MidRow
import Derived.Deep.RegionHeld3
import Derived.Deep.Upon
import Derived.IntWalk
import Derived.ProofKit
import Derived.Shelf.Abstract
import Derived.Test.YtfdgokkngejbhaaGreatQFRow
import Derived.Test.YtfdgokkngejbhaaGreatQRWk
import Derived.Test.YtfdgokkngejbhaaGreatQgH
section
namespace Go.Proofs.YtfdgokkngejbhaaGreat
open Go.RowKit Go.Sort
set_option linter.unusedVariables false
set_option linter.unusedSimpArgs false
set_option linter.unusedVariables false
set_option linter.unusedSimpArgs false
open Go.Proofs.YtfdgokkngejbhaaGreat.Simp
open Go.ChangeShapes Go.WideShapes Go.Deep
set_option maxRecDepth 100000
set_option maxHeartbeats 1600000
theorem okWide_array12 {P : Program} {w : World} {r : Reach} {b0 : Nat} {n : Nat} {t e : TypeId} {v : Value} (ht : P.underlying t = some (.array n e)) (h : Value.okWide P w r b0 t v) : ∃ cs, v = .agg cs ∧ cs.size = P.cellsOf t := by
  simp only [Value.okWide, ht] at h
  obtain ⟨cs, h1, h2, _⟩ := h
  exact ⟨cs, h1, h2⟩
theorem size2_12 {cs : Array Value} (h : cs.size = 2) : ∃ c0 c1, cs = #[c0, c1] := by
  obtain ⟨l⟩ := cs
  match l, h with
  | [a, b], _ => exact ⟨a, b, rfl⟩
theorem arr2_k (kd : IntKind) {H : Type} {enc : TypeId × Value → H} {P : Program} {w : World} {r : Reach} {b0 : Nat} {t e : TypeId} (ht : P.underlying t = some (.array 2 e)) (hu : P.underlying e = some (.int kd)) (hC : P.cellsOf t = 2) (hE : P.cellsOf e = 1) {v : Value} {d : DataW H} {p : List MemPlace} (hv : Value.okWide P w r b0 t v) (h : DataW.Trod enc P w 0 (fun _ => true) true t v d p) :
    ∃ a b : Int, v = .agg #[.int kd a, .int kd b] ∧ (Lit.int kd a).wf = true ∧ (Lit.int kd b).wf = true := by
  obtain ⟨cs, rfl, hsz⟩ := okWide_array12 ht hv
  obtain ⟨c0, c1, rfl⟩ := size2_12 (hsz.trans hC)
  obtain ⟨fuel, hf⟩ := h
  obtain ⟨ys, m, _, _, _, hyl, hyf⟩ := DataW.trod_array ht (show DataW.trod enc P w 0 (fun _ => true) true fuel t [c0, c1] = some (d, p) by simpa [Value.cells] using hf)
  have h0 := hyf 0 (by omega)
  have h1 := hyf 1 (by omega)
  rw [hE, List.getElem?_eq_getElem (by omega)] at h0 h1
  simp at h0 h1
  obtain ⟨a, e0, _, w0⟩ := DataW.trod_int hu h0
  obtain ⟨b, e1, _, w1⟩ := DataW.trod_int hu h1
  simp at e0 e1
  subst e0 e1
  exact ⟨a, b, rfl, w0, w1⟩
theorem u32_inQ {n : Int} (h : (Lit.int .u32 n).wf = true) : 0 ≤ n ∧ n ≤ 4294967295 := by
  simp [Lit.wf, IntKind.min, IntKind.max, IntKind.signed, IntKind.bits] at h; omega
theorem two_atQ (v1 v2 : Int) (N D : Nat) (boot : Int) (w : World) (h1 : v1 = (N : Int)) (h2 : v2 = (D : Int)) (h3 : N ≤ 16 ∧ D ≤ 16) (h0 : 0 ≤ boot ∧ boot ≤ 4294967295) :
    Calls Tryz.prog 29 #[.int .i64 v1, .int .i64 v2, .int .u32 boot] w fun e w' => ∃ x : CfgAt, e = .returned (.agg #[.slice x.pa 2 x.pc, .slice x.ca 1 x.cc, .int .i64 1, .slice x.aa 1 x.ac, .int .i64 1, .slice x.ba 1 x.bc]) ∧ CfgIn w' w'.heap.size (cfgQ N D boot) x ∧ Below w.heap.size w w' := by
  subst h1; subst h2
  exact twoQ_b N D boot w (i64_of (by omega)) (i64_of (by omega)) (u32_ofQ h0)
theorem begin_atQ (N D : Nat) (boot : Int) (x : CfgAt) (w : World) (hx : CfgIn w w.heap.size (cfgQ N D boot) x) (h1 : 1 ≤ N ∧ N ≤ 4) (h3 : D = 1 ∨ D = 2 ∨ D = 4 ∨ D = 8) (h0 : 0 ≤ boot ∧ boot ≤ 4294967295) :
    Calls Tryz.prog 28 #[.agg #[.slice x.pa 2 x.pc, .slice x.ca 1 x.cc, .int .i64 1, .slice x.aa 1 x.ac, .int .i64 1, .slice x.ba 1 x.bc]] w fun e w' => ∃ pb mb rb bb br, e = .returned (.pointer (some ⟨pb, 0, none⟩)) ∧ PQAt w w' (fun k => k = pb) pb mb rb bb br N D boot x 0 ⟨((List.replicate (3 + D * (N + 1)) 0).set 1 boot).set (2 + D * (N + 1)) boot, false, none, none, boot, boot, 0, 0, 0, 0, 0⟩ 0 0 := beginQ_b N D boot x w hx h1 h3 h0
theorem PQAt.more {W w w' : World} {E : Nat → Prop} {pb mb rb bb br N D K sq rq : Nat} {boot : Int} {x : CfgAt} {P : Ql} (h : PQAt W w E pb mb rb bb br N D boot x (K) (P) sq rq) : PQAt W w E pb mb rb bb br N D boot x (K + 1) (P) sq rq := by
  obtain ⟨h1, h2, h3, h4, h5, ⟨l1, l2, l3, l4, l5, l6, l7, l8, l9, l10⟩, h7⟩ := h
  exact ⟨h1, h2, h3, h4, h5, ⟨l1, by omega, l3, by omega, l5, by omega, l7, by omega, l9, by omega⟩, h7⟩
theorem depthQ_is (b : Int) : ∃ D : Nat, (∀ v : Int, (b % 4 = 0 → v = 1) → (b % 4 = 1 → v = 2) → (b % 4 = 2 → v = 4) → (b % 4 = 3 → v = 8) → v = (D : Int)) ∧ (D = 1 ∨ D = 2 ∨ D = 4 ∨ D = 8) := by
  rcases (show b % 4 = 0 ∨ b % 4 = 1 ∨ b % 4 = 2 ∨ b % 4 = 3 by omega) with h | h | h | h
  · exact ⟨1, fun v h0 _ _ _ => h0 h, by omega⟩
  · exact ⟨2, fun v _ h0 _ _ => h0 h, by omega⟩
  · exact ⟨4, fun v _ _ h0 _ => h0 h, by omega⟩
  · exact ⟨8, fun v _ _ _ h0 => h0 h, by omega⟩
end Go.Proofs.YtfdgokkngejbhaaGreat
end
section
namespace Go.Proofs.YtfdgokkngejbhaaGreat
open Go.RowKit Go.Sort
set_option linter.unusedVariables false
set_option linter.unusedSimpArgs false
set_option linter.unusedVariables false
set_option linter.unusedSimpArgs false
open Go.Proofs.YtfdgokkngejbhaaGreat.Simp
set_option maxRecDepth 100000
set_option maxHeartbeats 12800000
theorem Simp.QInv.len {N D : Nat} {boot : Int} {P : Ql} (h : QInv N D boot P) : P.m.length = 3 + D * (N + 1) := by
  obtain ⟨sn, rn, hi, _⟩ := h
  exact hi.hl
section
variable {W w w' : World} {E : Nat → Prop} {pb mb rb bb br N D K sq rq : Nat} {boot : Int} {x : CfgAt} {P : Ql}
theorem PQAt.later (h : PQAt W w E pb mb rb bb br N D boot x (K) (P) sq rq) (hb : Below w.heap.size w w') : PQAt W w' E pb mb rb bb br N D boot x (K) (P) sq rq := by
  obtain ⟨bs, hq, h1, h2⟩ := h.quo
  exact ⟨(hb.block pb h.lt).trans h.blk, ⟨bs, hq.later hb, h1, h2⟩, h.pe, h.cfg, h.nn, h.lim, h.u32⟩
theorem PQAt.fewE (h : PQAt W w E pb mb rb bb br N D boot x (K) (P) sq rq) {E' : Nat → Prop} (hE : ∀ k, E' k → E k) (hp : E' pb) : PQAt W w E' pb mb rb bb br N D boot x (K) (P) sq rq := by
  obtain ⟨bs, hq, h1, h2⟩ := h.quo
  exact ⟨h.blk, ⟨bs, hq.fewer hE, h1, h2⟩, ⟨hp, h.pe.2⟩, h.cfg, h.nn, h.lim, h.u32⟩
theorem PQAt.moreE (h : PQAt W w E pb mb rb bb br N D boot x (K) (P) sq rq) (hb : Below w.heap.size w w') {g : Nat} (hg : w.heap.size ≤ g ∧ g < w'.heap.size) : PQAt W w' (fun k => E k ∨ k = g) pb mb rb bb br N D boot x (K) (P) sq rq := by
  obtain ⟨bs, hq, h1, h2⟩ := h.quo
  exact ⟨(hb.block pb h.lt).trans h.blk, ⟨bs, hq.only (T := fun _ => False) (Only.of_below hb) (fun _ _ h => h.elim) (fun k hk => hk.imp id (fun e => by subst e; exact hg)), h1, h2⟩, ⟨.inl h.pe.1, h.pe.2⟩, h.cfg, h.nn, h.lim, h.u32⟩
end
end Go.Proofs.YtfdgokkngejbhaaGreat
end
