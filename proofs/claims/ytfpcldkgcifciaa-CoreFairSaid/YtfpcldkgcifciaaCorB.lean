/- The clock beside a block that is written; rows of a call's own, where another block is written. No condition but those in the statements. -/
import Derived.Test.YtfpcldkgcifciaaCorK
import Derived.Test.YtfpcldkgcifciaaLOpen
import Derived.BigQuiet
import Derived.Deep.OwnRows
import Derived.IntWalk
import Derived.BigRegion
import Derived.OpenShut
namespace Go.Proofs.Ytfpcldkgcifciaa
open Go.RowKit Go.Sort Go.ChangeShapes Go.WideShapes
set_option linter.unusedVariables false
set_option linter.unusedSimpArgs false

set_option linter.unusedVariables false
set_option linter.unusedSimpArgs false

theorem u8_in15b {n : Int} (h : (Lit.int .u8 n).wf = true) : 0 ≤ n ∧ n ≤ 255 := by
  simp [Lit.wf, IntKind.min, IntKind.max, IntKind.signed, IntKind.bits] at h; omega
/-- A block of bools. -/
def BoolsAt (w : World) (b : Nat) (bs : List Bool) : Prop := w.heap[b]? = some (.cells (bs.map Value.bool).toArray 4 (0, 0))
theorem BoolsAt.lt {w : World} {b : Nat} {bs : List Bool} (h : BoolsAt w b bs) : b < w.heap.size := (Array.getElem?_eq_some_iff.1 h).1
theorem BoolsAt.cell {w : World} {b : Nat} {bs : List Bool} (h : BoolsAt w b bs) {k : Nat} {x : Bool} (hk : bs[k]? = some x) : w.cell? ⟨b, k, none⟩ = some (.bool x) := by
  unfold BoolsAt at h
  simp [World.cell?, h, hk]
theorem BoolsAt.frozen {w : World} {b : Nat} {bs : List Bool} (h : BoolsAt w b bs) (k : Nat) : w.frozen? ⟨b, k, none⟩ = false := by
  unfold BoolsAt at h
  simp [World.frozen?, h]
theorem BoolsAt.set {w : World} {b : Nat} {bs : List Bool} (h : BoolsAt w b bs) (k : Nat) (x : Bool) : BoolsAt (w.setCell ⟨b, k, none⟩ (.bool x)) b (bs.set k x) := by
  unfold BoolsAt at h ⊢
  rw [List.map_set]
  simp [World.setCell, Array.getElem?_modify, h]
theorem BoolsAt.below {w w' : World} {b : Nat} {bs : List Bool} (h : BoolsAt w b bs) (hb : Below w.heap.size w w') : BoolsAt w' b bs := (hb.block b h.lt).trans h
theorem made_bools (n : Nat) : madeCells #[Value.bool false] n = ((List.replicate n false).map Value.bool).toArray := by
  apply Array.ext
  · simp [size_madeCells]
  · intro i h1 h2
    simp [madeCells, Nat.mod_one]
theorem Try.infoB : (Try.prog.info? 4).map (fun i => (i.zero, i.size, i.bytes)) = some (some (.bool false), 1, 1) := by kernel_rfl
theorem BoolsAt.only {w w' : World} {b : Nat} {bs : List Bool} {S : Nat → Prop} (h : BoolsAt w b bs) (ho : Only S w w') (hs : ¬ S b) : BoolsAt w' b bs := (ho.block b h.lt hs).trans h
/-- The clock's blocks lie below block number L. -/
structure ClkLow (L b : Nat) (c : Cfg) (x : CfgAt) : Prop where
  lo : b < L
  l0 : 0 < c.win0.length → ∀ a, x.aa = some a → a.block < L
  l1 : 0 < c.win1.length → ∀ a, x.ba = some a → a.block < L
theorem ClkAt.low {w : World} {b : Nat} {c : Cfg} {x : CfgAt} {t : Int} (h : ClkAt w b c x t) : ClkLow w.heap.size b c x :=
  ⟨h.lt, fun hp a ha => by obtain ⟨g, o, e, hlt, _⟩ := h.r0 hp; rw [e] at ha; cases ha; exact hlt, fun hp a ha => by obtain ⟨g, o, e, hlt, _⟩ := h.r1 hp; rw [e] at ha; cases ha; exact hlt⟩
theorem ClkAt.only {w w' : World} {b L : Nat} {c : Cfg} {x : CfgAt} {t : Int} {S : Nat → Prop} (h : ClkAt w b c x t) (hl : ClkLow L b c x) (ho : Only S w w') (hs : ∀ k, S k → L ≤ k) : ClkAt w' b c x t := by
  refine ⟨(ho.block b h.lt (fun s => by have := hs b s; have := hl.lo; omega)).trans h.blk, (h.r0.only (Nat.le_refl _) ho (fun hp a ha s => ?_)).more ho.size, (h.r1.only (Nat.le_refl _) ho (fun hp a ha s => ?_)).more ho.size, h.o0, h.o1⟩
  · have := hs _ s; have := hl.l0 hp a ha; omega
  · have := hs _ s; have := hl.l1 hp a ha; omega
theorem nums_row {w w' : World} {xs : List Int} {A : Option Addr} {n p : Nat} (h : OwnsOff w' w.heap.size 3 1 (.slice A n p) xs.length (icells xs)) : IntRowK .i64 w' w'.heap.size A xs := by
  obtain ⟨A', c', e, _, _, _, hr⟩ := nums_at h
  cases e
  exact hr
end Go.Proofs.Ytfpcldkgcifciaa
