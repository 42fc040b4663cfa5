/- A memory as two blocks (its struct, its words), and the functions of package mem as contracts: what each answers, and what it turns. No condition but those in the statements. -/
import Derived.Test.YtmhpcgcloojfbaaGreatDoorKit
import Derived.Test.YtmhpcgcloojfbaaGreatDoorProg
import Derived.IntWalk
import Derived.OneCell
import Derived.Deep.OwnRows
import Derived.Laws.CopyOwn
import Derived.Lib.Hide
namespace Go.Proofs.YtmhpcgcloojfbaaGreatDoor
open Go.RowKit Go.Sort
set_option linter.unusedVariables false
set_option linter.unusedSimpArgs false
set_option maxRecDepth 100000

/-- Words as cells. -/
def wcells (ws : List Int) : List Value := ws.map (Value.int .u32)
@[simp] theorem wcells_len (ws : List Int) : (wcells ws).length = ws.length := by simp [wcells]
theorem wcells_at (ws : List Int) (k : Nat) (h : k < ws.length) : (wcells ws)[k]? = some (.int .u32 (ws.getD k 0)) := by simp [wcells, List.getD_eq_getElem?_getD, h]
theorem wcells_set (ws : List Int) (k : Nat) (x : Int) : (wcells ws).set k (.int .u32 x) = wcells (ws.set k x) := by simp [wcells, List.map_set]
theorem wcells_one (ws : List Int) : ∀ u ∈ wcells ws, u.oneCell' = true := by intro u hu; obtain ⟨x, _, rfl⟩ := List.mem_map.1 hu; rfl

/-- A block of words, as a list. -/
def WordsAt (w : World) (b : Nat) (ws : List Int) : Prop := w.heap[b]? = some (.cells (wcells ws).toArray 45 (0, 0))
theorem WordsAt.lt {w : World} {b : Nat} {ws : List Int} (h : WordsAt w b ws) : b < w.heap.size := (Array.getElem?_eq_some_iff.1 h).1
theorem WordsAt.cell {w : World} {b : Nat} {ws : List Int} (h : WordsAt w b ws) {k : Nat} (hk : k < ws.length) : w.cell? ⟨b, k, none⟩ = some (.int .u32 (ws.getD k 0)) := by
  unfold WordsAt at h
  simp [World.cell?, h, wcells_at ws k hk]
theorem WordsAt.frozen {w : World} {b : Nat} {ws : List Int} (h : WordsAt w b ws) (k : Nat) : w.frozen? ⟨b, k, none⟩ = false := by
  unfold WordsAt at h
  simp [World.frozen?, h]
theorem WordsAt.set {w : World} {b : Nat} {ws : List Int} (h : WordsAt w b ws) (k : Nat) (x : Int) : WordsAt (w.setCell ⟨b, k, none⟩ (.int .u32 x)) b (ws.set k x) := by
  unfold WordsAt at h ⊢
  rw [← wcells_set]
  simp [World.setCell, Array.getElem?_modify, h]
theorem WordsAt.of {w w' : World} {b : Nat} {ws : List Int} (h : WordsAt w b ws) (e : w'.heap[b]? = w.heap[b]?) : WordsAt w' b ws := e.trans h
theorem WordsAt.below {w w' : World} {b : Nat} {ws : List Int} (h : WordsAt w b ws) (hb : Below w.heap.size w w') : WordsAt w' b ws := h.of (hb.block b h.lt)

/-- A memory: its struct lies in block mb, its words in block rb. -/
structure MemAt (w : World) (mb rb : Nat) (ws : List Int) : Prop where
  head : w.heap[mb]? = some (.cells #[.slice (some ⟨rb, 0, none⟩) ws.length ws.length] 106 (0, 0))
  row : WordsAt w rb ws
theorem MemAt.lt {w : World} {mb rb : Nat} {ws : List Int} (h : MemAt w mb rb ws) : mb < w.heap.size ∧ rb < w.heap.size := ⟨(Array.getElem?_eq_some_iff.1 h.head).1, h.row.lt⟩
theorem MemAt.ne {w : World} {mb rb : Nat} {ws : List Int} (h : MemAt w mb rb ws) : mb ≠ rb := by
  rintro rfl
  have := h.head.symm.trans h.row
  simp at this
theorem MemAt.cell {w : World} {mb rb : Nat} {ws : List Int} (h : MemAt w mb rb ws) : w.cell? ⟨mb, 0, none⟩ = some (.slice (some ⟨rb, 0, none⟩) ws.length ws.length) := cell_of_one h.head
theorem MemAt.set {w : World} {mb rb : Nat} {ws : List Int} (h : MemAt w mb rb ws) (k : Nat) (x : Int) : MemAt (w.setCell ⟨rb, k, none⟩ (.int .u32 x)) mb rb (ws.set k x) := by
  refine ⟨?_, h.row.set k x⟩
  rw [Below.heap_setCell _ _ _ _ h.ne, List.length_set]
  exact h.head
theorem MemAt.below {w w' : World} {mb rb : Nat} {ws : List Int} (h : MemAt w mb rb ws) (hb : Below w.heap.size w w') : MemAt w' mb rb ws := ⟨(hb.block mb h.lt.1).trans h.head, h.row.below hb⟩
theorem MemAt.of {w w' : World} {mb rb : Nat} {ws : List Int} (h : MemAt w mb rb ws) (h1 : w'.heap[mb]? = w.heap[mb]?) (h2 : w'.heap[rb]? = w.heap[rb]?) : MemAt w' mb rb ws := ⟨h1.trans h.head, h.row.of h2⟩

theorem Tryz.infoW : (Tryz.prog.info? 45).map (fun i => (i.zero, i.size, i.bytes)) = some (some (.int .u32 0), 1, 4) := by kernel_rfl
theorem made_words (n : Nat) : madeCells #[Value.int .u32 0] n = (wcells (List.replicate n 0)).toArray := by
  apply Array.ext
  · simp [size_madeCells, wcells]
  · intro i h1 h2
    simp [madeCells, wcells, Nat.mod_one]

/-- Does a memory of that length have that address? -/
theorem memHas_b (mb rb : Nat) (ws : List Int) (a : Int) (w : World) (h : MemAt w mb rb ws) (hl : ws.length ≤ 1000000) :
    Calls Tryz.prog 50 #[.pointer (some ⟨mb, 0, none⟩), .int .u64 a] w fun e w' => e = .returned (.bool (decide (a < (ws.length : Int)))) ∧ w = w' := by
  have c0 := h.cell
  clear h
  go_enter Tryz.func50, Tryz.ntmps50
  go_wp2
  go_ret
  exact ⟨rfl, rfl⟩

theorem memLen_b (mb rb : Nat) (ws : List Int) (w : World) (h : MemAt w mb rb ws) :
    Calls Tryz.prog 30 #[.pointer (some ⟨mb, 0, none⟩)] w fun e w' => e = .returned (.int .i64 ws.length) ∧ w = w' := by
  have c0 := h.cell
  clear h
  go_enter Tryz.func30, Tryz.ntmps30
  go_wp2
  go_ret
  exact ⟨rfl, rfl⟩

theorem memLoad_in (mb rb : Nat) (ws : List Int) (k : Nat) (w : World) (h : MemAt w mb rb ws) (hl : ws.length ≤ 1000000) (hk : k < ws.length) :
    Calls Tryz.prog 135 #[.pointer (some ⟨mb, 0, none⟩), .int .u64 (k : Int)] w fun e w' => e = .returned (.tuple #[.int .u32 (ws.getD k 0), .int .i64 0]) ∧ w = w' := by
  have c0 := h.cell
  have c1 := h.row.cell hk
  obtain ⟨x, hx⟩ : ∃ x, ws.getD k 0 = x := ⟨_, rfl⟩
  rw [hx] at c1 ⊢
  clear hx
  have d1 : decide ((k : Int) < (ws.length : Int)) = true := by simpa using hk
  go_enter Tryz.func135, Tryz.ntmps135
  go_wp2_with (go_at_call 50; refine (memHas_b mb rb ws _ _ h hl).mono ?_; rintro e w' ⟨rfl, rfl⟩)
  go_ret2
  exact ⟨rfl, rfl⟩

theorem memLoad_out (mb rb : Nat) (ws : List Int) (a : Int) (w : World) (h : MemAt w mb rb ws) (hl : ws.length ≤ 1000000) (ha : (ws.length : Int) ≤ a) :
    Calls Tryz.prog 135 #[.pointer (some ⟨mb, 0, none⟩), .int .u64 a] w fun e w' => e = .returned (.tuple #[.int .u32 0, .int .i64 6]) ∧ w = w' := by
  have d1 : decide (a < (ws.length : Int)) = false := by simpa using ha
  go_enter Tryz.func135, Tryz.ntmps135
  go_wp2_with (go_at_call 50; refine (memHas_b mb rb ws _ _ h hl).mono ?_; rintro e w' ⟨rfl, rfl⟩)
  go_ret2
  exact ⟨rfl, rfl⟩

theorem memStore_in (mb rb : Nat) (ws : List Int) (k : Nat) (x : Int) (w : World) (h : MemAt w mb rb ws) (hl : ws.length ≤ 1000000) (hk : k < ws.length) :
    Calls Tryz.prog 31 #[.pointer (some ⟨mb, 0, none⟩), .int .u64 (k : Int), .int .u32 x] w fun e w' => e = .returned (.int .i64 0) ∧ w' = w.setCell ⟨rb, k, none⟩ (.int .u32 x) := by
  have c0 := h.cell
  have c1 := h.row.cell hk
  have f1 := h.row.frozen k
  have d1 : decide ((k : Int) < (ws.length : Int)) = true := by simpa using hk
  go_enter Tryz.func31, Tryz.ntmps31
  go_wp2_with (go_at_call 50; refine (memHas_b mb rb ws _ _ h hl).mono ?_; rintro e w' ⟨rfl, rfl⟩)
  go_ret
  exact ⟨rfl, rfl⟩

theorem memStore_out (mb rb : Nat) (ws : List Int) (a x : Int) (w : World) (h : MemAt w mb rb ws) (hl : ws.length ≤ 1000000) (ha : (ws.length : Int) ≤ a) :
    Calls Tryz.prog 31 #[.pointer (some ⟨mb, 0, none⟩), .int .u64 a, .int .u32 x] w fun e w' => e = .returned (.int .i64 6) ∧ w = w' := by
  have d1 : decide (a < (ws.length : Int)) = false := by simpa using ha
  go_enter Tryz.func31, Tryz.ntmps31
  go_wp2_with (go_at_call 50; refine (memHas_b mb rb ws _ _ h hl).mono ?_; rintro e w' ⟨rfl, rfl⟩)
  go_ret
  exact ⟨rfl, rfl⟩

/-- A new row of words. -/
def GivesWords (w : World) (ws : List Int) (e : Ending) (w' : World) : Prop :=
  ∃ g, e = .returned (.slice (some ⟨g, 0, none⟩) ws.length ws.length) ∧ w.heap.size ≤ g ∧ WordsAt w' g ws ∧ Below w.heap.size w w'

theorem memWords_b (mb rb : Nat) (ws : List Int) (w : World) (h : MemAt w mb rb ws) (hl : ws.length ≤ 1000000) :
    Calls Tryz.prog 20 #[.pointer (some ⟨mb, 0, none⟩)] w (GivesWords w ws) := by
  obtain ⟨i0, hi, hz0, hz1, hz2⟩ := info_parts Tryz.infoW
  have c0 := h.cell
  have hlt := h.lt
  have hb : Below w.heap.size w (w.alloc (.cells (madeCells #[Value.int .u32 0] ws.length) 45)) := (Below.refl _ _).alloc (Nat.le_refl _) _
  have hnew : (w.alloc (.cells (madeCells #[Value.int .u32 0] ws.length) 45)).heap[w.heap.size]? = some (.cells (wcells (List.replicate ws.length 0)).toArray 45 (0, 0)) := by
    rw [← made_words]; exact heap_alloc_new w _
  have hrow := h.row.below hb
  have HR := Lib.hid hrow; have HN := Lib.hid hnew; have HB := Lib.hid hb
  clear hb hnew hrow
  go_enter Tryz.func20, Tryz.ntmps20
  go_wp2_with (first | (refine wpList_make_row _ rfl _ _ 34 rfl 45 i0 (.int .u32 0) Tryz.underlying34 hi hz0 hz1 rfl .i64 .i64 ws.length rfl rfl (by rw [hz2]; omega) (by omega) ?_) | (with_reducible refine wpList_copy_splice rfl _ _ 34 34 rfl 45 Tryz.underlying34 (by kernel_rfl) (some ⟨w.heap.size, 0, none⟩) (some ⟨rb, 0, none⟩) ws.length ws.length ws.length ws.length rfl rfl w.heap.size 0 (wcells (List.replicate ws.length 0)) 45 HN.out (wcells ws) (by simp) (fun _ => ⟨rfl, _, rfl, ?c1⟩) (by simp) (wcells_one ws) w.heap.size w HB.out (Nat.le_refl _) ?c2))
  · intro j v hj
    have hjl : j < ws.length := by have := (List.getElem?_eq_some_iff.1 hj).1; simpa using this
    have h1 := HR.out.cell hjl
    rw [wcells_at ws j hjl] at hj
    rw [← hj, ← h1]
    congr 1
    unfold Addr.add; split <;> simp_all
  · intro w' hw' hb'
    go_wp2
    go_ret
    refine ⟨w.heap.size, rfl, Nat.le_refl _, ?_, hb'⟩
    have h2 : splice (wcells (List.replicate ws.length 0)) 0 (wcells ws) = wcells ws := by simp [splice]
    have h3 := hw'.out
    rw [h2] at h3
    exact h3

/-- A new memory, all noughts. -/
def GivesMem (w : World) (ws : List Int) (e : Ending) (w' : World) : Prop :=
  ∃ mb rb, e = .returned (.tuple #[.pointer (some ⟨mb, 0, none⟩), .int .i64 0]) ∧ w.heap.size ≤ mb ∧ w.heap.size ≤ rb ∧ MemAt w' mb rb ws ∧ Below w.heap.size w w'

theorem memNew_in (n : Nat) (w : World) (hn : n ≤ 65536) :
    Calls Tryz.prog 16 #[.int .i64 (n : Int)] w (GivesMem w (List.replicate n 0)) := by
  obtain ⟨i0, hi, hz0, hz1, hz2⟩ := info_parts Tryz.infoW
  go_enter Tryz.func16, Tryz.ntmps16
  go_wp2_with (refine wpList_make_row _ rfl _ _ 34 rfl 45 i0 (.int .u32 0) Tryz.underlying34 hi hz0 hz1 rfl .i64 .i64 n rfl rfl (by rw [hz2]; omega) (by omega) ?_)
  go_ret2
  have hb1 : Below w.heap.size w (w.alloc (.cells (madeCells #[Value.int .u32 0] n) 45)) := (Below.refl _ _).alloc (Nat.le_refl _) _
  refine ⟨w.heap.size + 1, w.heap.size, rfl, by omega, by omega, ⟨?_, ?_⟩, hb1.alloc (by simp) _⟩
  · have := heap_alloc_new (w.alloc (.cells (madeCells #[Value.int .u32 0] n) 45)) (.cells #[.slice (some ⟨w.heap.size, 0, none⟩) n n] 106)
    simpa using this
  · unfold WordsAt
    rw [← made_words, Below.heap_alloc _ _ _ (by simp)]
    exact heap_alloc_new w _

theorem memNew_out (n : Int) (w : World) (hn : n < 0 ∨ 65536 < n) :
    Calls Tryz.prog 16 #[.int .i64 n] w fun e w' => e = .returned (.tuple #[.pointer none, .int .i64 7]) ∧ w = w' := by
  by_cases h0 : n < 0
  · go_enter Tryz.func16, Tryz.ntmps16
    go_wp2
    go_ret2
    exact ⟨rfl, rfl⟩
  · have h1 : 65536 < n := by omega
    go_enter Tryz.func16, Tryz.ntmps16
    go_wp2
    go_ret2
    exact ⟨rfl, rfl⟩
end Go.Proofs.YtmhpcgcloojfbaaGreatDoor
