/- Texts of the ring, joined, what is used of them. No condition but those in the statements. -/
import Derived.BigQuiet
import Derived.BigRegion
import Derived.Deep.MidRow
import Derived.Deep.RegionHeld3
import Derived.Deep.Upon
import Derived.IntWalk
import Derived.Test.YtfdgokkngejbhaaGreatQRSf
namespace Go.Proofs.YtfdgokkngejbhaaGreat
open Go.RowKit Go.Sort
set_option linter.unusedVariables false
set_option linter.unusedSimpArgs false
set_option linter.unusedVariables false
set_option linter.unusedSimpArgs false
set_option maxRecDepth 100000
set_option maxHeartbeats 1600000
theorem heap_new_q (w : World) (o : Obj) {k : Nat} (h : k = w.heap.size) : (w.alloc o).heap[k]? = some o := by subst h; exact heap_alloc_new w o
theorem mk_len_b (ob : Nat) (m : Nat) (w : World) : Calls Tryz.prog 44 #[.pointer (some ⟨ob, 0, none⟩), .int .i64 (m : Int)] w fun e w' => e = .returned (.func (.func 79) #[] #[.pointer (some ⟨w.heap.size, 0, none⟩), .pointer (some ⟨w.heap.size + 1, 0, none⟩)]) ∧ Below w.heap.size w w' ∧ w'.heap.size = w.heap.size + 2 ∧ w'.heap[w.heap.size]? = some (.cells #[.pointer (some ⟨ob, 0, none⟩)] 50 (0, 0)) ∧ w'.heap[w.heap.size + 1]? = some (.cells #[.int .i64 (m : Int)] 3 (0, 0)) := by
  obtain ⟨W, HW⟩ : ∃ W, Hid (W = ((w.alloc (.cells #[.pointer (some ⟨ob, 0, none⟩)] 50)).alloc (.cells #[.int .i64 (m : Int)] 3))) := ⟨_, rfl⟩
  have hB : Below w.heap.size w W := by rw [HW.out]; exact ((Below.refl _ _).alloc (Nat.le_refl _) _).alloc (by simp; try omega) _
  have hS : W.heap.size = w.heap.size + 2 := by rw [HW.out]; simp
  have h0 : W.heap[w.heap.size]? = some (.cells #[.pointer (some ⟨ob, 0, none⟩)] 50 (0, 0)) := by rw [HW.out]; rw [Below.heap_alloc _ _ _ (by simp; try omega)]; exact heap_new_q _ _ (by simp)
  have h1 : W.heap[w.heap.size + 1]? = some (.cells #[.int .i64 (m : Int)] 3 (0, 0)) := by rw [HW.out]; exact heap_new_q _ _ (by simp)
  have HF := Lib.hid (And.intro hB (And.intro hS (And.intro h0 h1)))
  clear hB hS h0 h1
  go_enter Tryz.func44, Tryz.ntmps44
  go_wp2_with (rw [← HW.out])
  go_ret
  exact ⟨by simp [Nat.add_assoc], HF.out⟩
theorem mk_word_b (ob : Nat) (i : Nat) (x : Int) (w : World) : Calls Tryz.prog 47 #[.pointer (some ⟨ob, 0, none⟩), .int .i64 (i : Int), .int .u32 x] w fun e w' => e = .returned (.func (.func 82) #[] #[.pointer (some ⟨w.heap.size, 0, none⟩), .pointer (some ⟨w.heap.size + 1, 0, none⟩), .pointer (some ⟨w.heap.size + 2, 0, none⟩)]) ∧ Below w.heap.size w w' ∧ w'.heap.size = w.heap.size + 3 ∧ w'.heap[w.heap.size]? = some (.cells #[.pointer (some ⟨ob, 0, none⟩)] 50 (0, 0)) ∧ w'.heap[w.heap.size + 1]? = some (.cells #[.int .i64 (i : Int)] 3 (0, 0)) ∧ w'.heap[w.heap.size + 2]? = some (.cells #[.int .u32 x] 34 (0, 0)) := by
  obtain ⟨W, HW⟩ : ∃ W, Hid (W = (((w.alloc (.cells #[.pointer (some ⟨ob, 0, none⟩)] 50)).alloc (.cells #[.int .i64 (i : Int)] 3)).alloc (.cells #[.int .u32 x] 34))) := ⟨_, rfl⟩
  have hB : Below w.heap.size w W := by rw [HW.out]; exact (((Below.refl _ _).alloc (Nat.le_refl _) _).alloc (by simp; try omega) _).alloc (by simp; try omega) _
  have hS : W.heap.size = w.heap.size + 3 := by rw [HW.out]; simp
  have h0 : W.heap[w.heap.size]? = some (.cells #[.pointer (some ⟨ob, 0, none⟩)] 50 (0, 0)) := by rw [HW.out]; rw [Below.heap_alloc _ _ _ (by simp; try omega)]; rw [Below.heap_alloc _ _ _ (by simp; try omega)]; exact heap_new_q _ _ (by simp)
  have h1 : W.heap[w.heap.size + 1]? = some (.cells #[.int .i64 (i : Int)] 3 (0, 0)) := by rw [HW.out]; rw [Below.heap_alloc _ _ _ (by simp; try omega)]; exact heap_new_q _ _ (by simp)
  have h2 : W.heap[w.heap.size + 2]? = some (.cells #[.int .u32 x] 34 (0, 0)) := by rw [HW.out]; exact heap_new_q _ _ (by simp)
  have HF := Lib.hid (And.intro hB (And.intro hS (And.intro h0 (And.intro h1 h2))))
  clear hB hS h0 h1 h2
  go_enter Tryz.func47, Tryz.ntmps47
  go_wp2_with (rw [← HW.out])
  go_ret
  exact ⟨by simp [Nat.add_assoc], HF.out⟩
theorem mk_get_b (ob : Nat) (i : Nat) (A : Option Addr) (l c : Nat) (w : World) : Calls Tryz.prog 85 #[.pointer (some ⟨ob, 0, none⟩), .int .i64 (i : Int), .slice A l c] w fun e w' => e = .returned (.func (.func 107) #[] #[.pointer (some ⟨w.heap.size, 0, none⟩), .pointer (some ⟨w.heap.size + 1, 0, none⟩), .pointer (some ⟨w.heap.size + 2, 0, none⟩)]) ∧ Below w.heap.size w w' ∧ w'.heap.size = w.heap.size + 3 ∧ w'.heap[w.heap.size]? = some (.cells #[.pointer (some ⟨ob, 0, none⟩)] 50 (0, 0)) ∧ w'.heap[w.heap.size + 1]? = some (.cells #[.int .i64 (i : Int)] 3 (0, 0)) ∧ w'.heap[w.heap.size + 2]? = some (.cells #[.slice A l c] 30 (0, 0)) := by
  obtain ⟨W, HW⟩ : ∃ W, Hid (W = (((w.alloc (.cells #[.pointer (some ⟨ob, 0, none⟩)] 50)).alloc (.cells #[.int .i64 (i : Int)] 3)).alloc (.cells #[.slice A l c] 30))) := ⟨_, rfl⟩
  have hB : Below w.heap.size w W := by rw [HW.out]; exact (((Below.refl _ _).alloc (Nat.le_refl _) _).alloc (by simp; try omega) _).alloc (by simp; try omega) _
  have hS : W.heap.size = w.heap.size + 3 := by rw [HW.out]; simp
  have h0 : W.heap[w.heap.size]? = some (.cells #[.pointer (some ⟨ob, 0, none⟩)] 50 (0, 0)) := by rw [HW.out]; rw [Below.heap_alloc _ _ _ (by simp; try omega)]; rw [Below.heap_alloc _ _ _ (by simp; try omega)]; exact heap_new_q _ _ (by simp)
  have h1 : W.heap[w.heap.size + 1]? = some (.cells #[.int .i64 (i : Int)] 3 (0, 0)) := by rw [HW.out]; rw [Below.heap_alloc _ _ _ (by simp; try omega)]; exact heap_new_q _ _ (by simp)
  have h2 : W.heap[w.heap.size + 2]? = some (.cells #[.slice A l c] 30 (0, 0)) := by rw [HW.out]; exact heap_new_q _ _ (by simp)
  have HF := Lib.hid (And.intro hB (And.intro hS (And.intro h0 (And.intro h1 h2))))
  clear hB hS h0 h1 h2
  go_enter Tryz.func85, Tryz.ntmps85
  go_wp2_with (rw [← HW.out])
  go_ret
  exact ⟨by simp [Nat.add_assoc], HF.out⟩
theorem mk_free_b (ob : Nat) (A : Option Addr) (l c : Nat) (w : World) : Calls Tryz.prog 86 #[.pointer (some ⟨ob, 0, none⟩), .slice A l c] w fun e w' => e = .returned (.func (.func 108) #[] #[.pointer (some ⟨w.heap.size, 0, none⟩), .pointer (some ⟨w.heap.size + 1, 0, none⟩)]) ∧ Below w.heap.size w w' ∧ w'.heap.size = w.heap.size + 2 ∧ w'.heap[w.heap.size]? = some (.cells #[.pointer (some ⟨ob, 0, none⟩)] 50 (0, 0)) ∧ w'.heap[w.heap.size + 1]? = some (.cells #[.slice A l c] 30 (0, 0)) := by
  obtain ⟨W, HW⟩ : ∃ W, Hid (W = ((w.alloc (.cells #[.pointer (some ⟨ob, 0, none⟩)] 50)).alloc (.cells #[.slice A l c] 30))) := ⟨_, rfl⟩
  have hB : Below w.heap.size w W := by rw [HW.out]; exact ((Below.refl _ _).alloc (Nat.le_refl _) _).alloc (by simp; try omega) _
  have hS : W.heap.size = w.heap.size + 2 := by rw [HW.out]; simp
  have h0 : W.heap[w.heap.size]? = some (.cells #[.pointer (some ⟨ob, 0, none⟩)] 50 (0, 0)) := by rw [HW.out]; rw [Below.heap_alloc _ _ _ (by simp; try omega)]; exact heap_new_q _ _ (by simp)
  have h1 : W.heap[w.heap.size + 1]? = some (.cells #[.slice A l c] 30 (0, 0)) := by rw [HW.out]; exact heap_new_q _ _ (by simp)
  have HF := Lib.hid (And.intro hB (And.intro hS (And.intro h0 h1)))
  clear hB hS h0 h1
  go_enter Tryz.func86, Tryz.ntmps86
  go_wp2_with (rw [← HW.out])
  go_ret
  exact ⟨by simp [Nat.add_assoc], HF.out⟩
theorem mk_msg_b (m g : Nat) (cs : Array Value) (w : World) : Calls Tryz.prog 45 #[.int .i64 (m : Int), .func (.func g) #[] cs] w fun e w' => e = .returned (.func (.func 81) #[] #[.pointer (some ⟨w.heap.size, 0, none⟩), .pointer (some ⟨w.heap.size + 1, 0, none⟩)]) ∧ Below w.heap.size w w' ∧ w'.heap.size = w.heap.size + 2 ∧ w'.heap[w.heap.size]? = some (.cells #[.int .i64 (m : Int)] 3 (0, 0)) ∧ w'.heap[w.heap.size + 1]? = some (.cells #[.func (.func g) #[] cs] 101 (0, 0)) := by
  obtain ⟨W, HW⟩ : ∃ W, Hid (W = ((w.alloc (.cells #[.int .i64 (m : Int)] 3)).alloc (.cells #[.func (.func g) #[] cs] 101))) := ⟨_, rfl⟩
  have hB : Below w.heap.size w W := by rw [HW.out]; exact ((Below.refl _ _).alloc (Nat.le_refl _) _).alloc (by simp; try omega) _
  have hS : W.heap.size = w.heap.size + 2 := by rw [HW.out]; simp
  have h0 : W.heap[w.heap.size]? = some (.cells #[.int .i64 (m : Int)] 3 (0, 0)) := by rw [HW.out]; rw [Below.heap_alloc _ _ _ (by simp; try omega)]; exact heap_new_q _ _ (by simp)
  have h1 : W.heap[w.heap.size + 1]? = some (.cells #[.func (.func g) #[] cs] 101 (0, 0)) := by rw [HW.out]; exact heap_new_q _ _ (by simp)
  have HF := Lib.hid (And.intro hB (And.intro hS (And.intro h0 h1)))
  clear hB hS h0 h1
  go_enter Tryz.func45, Tryz.ntmps45
  go_wp2_with (rw [← HW.out])
  go_ret
  exact ⟨by simp [Nat.add_assoc], HF.out⟩
end Go.Proofs.YtfdgokkngejbhaaGreat
