/- A set of bells as two blocks, and the functions of package bell as contracts. No condition but those in the statements. -/
import Derived.Test.YtmhpcgcloojfbaaGreatDoorGA
import Derived.Test.YtmhpcgcloojfbaaGreatDoorProg
import Derived.IntWalk
import Derived.OneCell
import Derived.Deep.OwnRows
import Derived.Lib.Hide
namespace Go.Proofs.YtmhpcgcloojfbaaGreatDoor
open Go.RowKit Go.Sort
set_option linter.unusedVariables false
set_option linter.unusedSimpArgs false
set_option linter.unusedVariables false
set_option linter.unusedSimpArgs false
set_option maxRecDepth 100000
namespace Bel
/-- Bells as cells. -/
def bcells (bs : List Bool) : List Value := bs.map Value.bool
@[simp] theorem bcells_len (bs : List Bool) : (bcells bs).length = bs.length := by simp [bcells]
theorem bcells_at (bs : List Bool) (k : Nat) (h : k < bs.length) : (bcells bs)[k]? = some (.bool (bs.getD k false)) := by simp [bcells, List.getD_eq_getElem?_getD, h]
theorem bcells_set (bs : List Bool) (k : Nat) (x : Bool) : (bcells bs).set k (.bool x) = bcells (bs.set k x) := by simp [bcells, List.map_set]

/-- A block of bells, as a list. -/
def BellsAt (w : World) (b : Nat) (bs : List Bool) : Prop := w.heap[b]? = some (.cells (bcells bs).toArray 4 (0, 0))
theorem BellsAt.lt {w : World} {b : Nat} {bs : List Bool} (h : BellsAt w b bs) : b < w.heap.size := (Array.getElem?_eq_some_iff.1 h).1
theorem BellsAt.cell {w : World} {b : Nat} {bs : List Bool} (h : BellsAt w b bs) {k : Nat} (hk : k < bs.length) : w.cell? ⟨b, k, none⟩ = some (.bool (bs.getD k false)) := by
  unfold BellsAt at h
  simp [World.cell?, h, bcells_at bs k hk]
theorem BellsAt.frozen {w : World} {b : Nat} {bs : List Bool} (h : BellsAt w b bs) (k : Nat) : w.frozen? ⟨b, k, none⟩ = false := by
  unfold BellsAt at h
  simp [World.frozen?, h]
theorem BellsAt.set {w : World} {b : Nat} {bs : List Bool} (h : BellsAt w b bs) (k : Nat) (x : Bool) : BellsAt (w.setCell ⟨b, k, none⟩ (.bool x)) b (bs.set k x) := by
  unfold BellsAt at h ⊢
  rw [← bcells_set]
  simp [World.setCell, Array.getElem?_modify, h]
theorem BellsAt.of {w w' : World} {b : Nat} {bs : List Bool} (h : BellsAt w b bs) (e : w'.heap[b]? = w.heap[b]?) : BellsAt w' b bs := e.trans h
theorem BellsAt.below {w w' : World} {b : Nat} {bs : List Bool} (h : BellsAt w b bs) (hb : Below w.heap.size w w') : BellsAt w' b bs := h.of (hb.block b h.lt)

/-- A set: its struct lies in block mb, its bells in block rb. -/
structure SetAt (w : World) (mb rb : Nat) (bs : List Bool) : Prop where
  head : w.heap[mb]? = some (.cells #[.slice (some ⟨rb, 0, none⟩) bs.length bs.length] 109 (0, 0))
  row : BellsAt w rb bs
theorem SetAt.lt {w : World} {mb rb : Nat} {bs : List Bool} (h : SetAt w mb rb bs) : mb < w.heap.size ∧ rb < w.heap.size := ⟨(Array.getElem?_eq_some_iff.1 h.head).1, h.row.lt⟩
theorem SetAt.ne {w : World} {mb rb : Nat} {bs : List Bool} (h : SetAt w mb rb bs) : mb ≠ rb := by
  rintro rfl
  have := h.head.symm.trans h.row
  simp at this
theorem SetAt.cell {w : World} {mb rb : Nat} {bs : List Bool} (h : SetAt w mb rb bs) : w.cell? ⟨mb, 0, none⟩ = some (.slice (some ⟨rb, 0, none⟩) bs.length bs.length) := cell_of_one h.head
theorem SetAt.set {w : World} {mb rb : Nat} {bs : List Bool} (h : SetAt w mb rb bs) (k : Nat) (x : Bool) : SetAt (w.setCell ⟨rb, k, none⟩ (.bool x)) mb rb (bs.set k x) := by
  refine ⟨?_, h.row.set k x⟩
  rw [Below.heap_setCell _ _ _ _ h.ne, List.length_set]
  exact h.head
theorem SetAt.below {w w' : World} {mb rb : Nat} {bs : List Bool} (h : SetAt w mb rb bs) (hb : Below w.heap.size w w') : SetAt w' mb rb bs := ⟨(hb.block mb h.lt.1).trans h.head, h.row.below hb⟩
theorem SetAt.of {w w' : World} {mb rb : Nat} {bs : List Bool} (h : SetAt w mb rb bs) (h1 : w'.heap[mb]? = w.heap[mb]?) (h2 : w'.heap[rb]? = w.heap[rb]?) : SetAt w' mb rb bs := ⟨h1.trans h.head, h.row.of h2⟩
theorem SetAt.kept {w w' : World} {mb rb : Nat} {bs : List Bool} (h : SetAt w mb rb bs) {S : Nat → Prop} (ho : Only S w w') (h1 : ¬ S mb) (h2 : ¬ S rb) : SetAt w' mb rb bs := h.of (ho.block mb h.lt.1 h1) (ho.block rb h.lt.2 h2)

theorem Tryz.infoB : (Tryz.prog.info? 4).map (fun i => (i.zero, i.size, i.bytes)) = some (some (.bool false), 1, 1) := by kernel_rfl
theorem Tryz.infoI : (Tryz.prog.info? 3).map (fun i => (i.zero, i.size, i.bytes)) = some (some (.int .i64 0), 1, 8) := by kernel_rfl
theorem made_bools (n : Nat) : madeCells #[Value.bool false] n = (bcells (List.replicate n false)).toArray := by
  apply Array.ext
  · simp [size_madeCells, bcells]
  · intro i h1 h2
    simp [madeCells, bcells, Nat.mod_one]

/-- Is there a bell i? -/
theorem known_in (mb rb : Nat) (bs : List Bool) (k : Nat) (w : World) (h : SetAt w mb rb bs) (hk : k < bs.length) :
    Calls Tryz.prog 140 #[.pointer (some ⟨mb, 0, none⟩), .int .i64 (k : Int)] w fun e w' => e = .returned (.bool true) ∧ w = w' := by
  have c0 := h.cell
  have h0 : (0 : Int) ≤ (k : Int) := by omega
  have h1 : (k : Int) < (bs.length : Int) := by omega
  clear h
  go_enter Tryz.func140, Tryz.ntmps140
  go_wp2
  go_ret
  exact ⟨by simp, rfl⟩
theorem ring_in (mb rb : Nat) (bs : List Bool) (k : Nat) (w : World) (h : SetAt w mb rb bs) (hk : k < bs.length) :
    Calls Tryz.prog 115 #[.pointer (some ⟨mb, 0, none⟩), .int .i64 (k : Int)] w fun e w' => e = .returned (.int .i64 0) ∧ w' = w.setCell ⟨rb, k, none⟩ (.bool true) := by
  have c0 := h.cell
  have c1 := h.row.cell hk
  have f1 := h.row.frozen k
  go_enter Tryz.func115, Tryz.ntmps115
  go_wp2_with (go_at_call 140; refine (known_in mb rb bs k _ h hk).mono ?_; rintro e w' ⟨rfl, rfl⟩)
  go_ret
  exact ⟨rfl, rfl⟩

/-- A new set, nothing pending. -/
def GivesBells (w : World) (bs : List Bool) (e : Ending) (w' : World) : Prop :=
  ∃ mb rb, e = .returned (.tuple #[.pointer (some ⟨mb, 0, none⟩), .int .i64 0]) ∧ w.heap.size ≤ mb ∧ w.heap.size ≤ rb ∧ SetAt w' mb rb bs ∧ Below w.heap.size w w'
theorem new_in (n : Nat) (v : Int) (hv : v = (n : Int)) (w : World) (hn : n ≤ 64) :
    Calls Tryz.prog 18 #[.int .i64 v] w (GivesBells w (List.replicate n false)) := by
  subst hv
  obtain ⟨i0, hi, hz0, hz1, hz2⟩ := info_parts Tryz.infoB
  go_enter Tryz.func18, Tryz.ntmps18
  go_wp2_with (refine wpList_make_row _ rfl _ _ 98 rfl 4 i0 (.bool false) Tryz.underlying98 hi hz0 hz1 rfl .i64 .i64 n rfl rfl (by rw [hz2]; omega) (by omega) ?_)
  go_ret2
  have hb1 : Below w.heap.size w (w.alloc (.cells (madeCells #[Value.bool false] n) 4)) := (Below.refl _ _).alloc (Nat.le_refl _) _
  refine ⟨w.heap.size + 1, w.heap.size, rfl, by omega, by omega, ⟨?_, ?_⟩, hb1.alloc (by simp) _⟩
  · have := heap_alloc_new (w.alloc (.cells (madeCells #[Value.bool false] n) 4)) (.cells #[.slice (some ⟨w.heap.size, 0, none⟩) n n] 109)
    simpa using this
  · unfold BellsAt
    rw [← made_bools, Below.heap_alloc _ _ _ (by simp)]
    exact heap_alloc_new w _
end Bel
end Go.Proofs.YtmhpcgcloojfbaaGreatDoor
