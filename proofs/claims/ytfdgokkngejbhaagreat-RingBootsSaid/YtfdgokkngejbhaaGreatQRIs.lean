/- Texts of the ring, joined, what is used of them. No condition but those in the statements. -/
import Derived.BigQuiet
import Derived.BigRegion
import Derived.Deep.MidRow
import Derived.Deep.RegionHeld3
import Derived.Deep.Upon
import Derived.IntWalk
import Derived.Laws.EntriesVeiled
import Derived.Test.YtfdgokkngejbhaaGreatQRMk
import Derived.Test.YtfdgokkngejbhaaGreatQRTel
namespace Go.Proofs.YtfdgokkngejbhaaGreat
open Go.RowKit Go.Sort
set_option linter.unusedVariables false
set_option linter.unusedSimpArgs false
set_option linter.unusedVariables false
set_option linter.unusedSimpArgs false
set_option maxRecDepth 100000
set_option maxHeartbeats 1600000
/-- All blocks but operations and their rows of steps stand. -/
def Stands (W W' : World) : Prop := W.heap.size ≤ W'.heap.size ∧ ∀ (k : Nat) (cs : Array Value) (t : TypeId) (m : Nat × Nat), t ≠ 100 → t ≠ 104 → W.heap[k]? = some (.cells cs t m) → W'.heap[k]? = some (.cells cs t m)
theorem Stands.refl (W : World) : Stands W W := ⟨Nat.le_refl _, fun _ _ _ _ _ _ h => h⟩
theorem Stands.trans {A B C : World} (h : Stands A B) (k : Stands B C) : Stands A C := ⟨Nat.le_trans h.1 k.1, fun i cs t m h1 h2 h3 => k.2 i cs t m h1 h2 (h.2 i cs t m h1 h2 h3)⟩
theorem Stands.below {W W' : World} (h : Below W.heap.size W W') : Stands W W' := ⟨h.size, fun k cs t m _ _ hk => (h.block k (Array.getElem?_eq_some_iff.1 hk).1).trans hk⟩
theorem stands_put {W : World} {l : Nat} {o : Obj} (o' : Obj) (hl : W.heap[l]? = some o) (ho : o.isCells = false) : Stands W (W.putObj l o') :=
  ⟨by simp, fun k cs t m _ _ hk => (World.putObj_heap_other (fun e => by subst e; rw [hl] at hk; cases hk; cases ho)).trans hk⟩
theorem grown_of_below {W W' : World} (h : Below W.heap.size W W') : W.grownBy W' none := ⟨h.os, h.tape, h.output, h.size, fun k hk _ => h.block k hk⟩
theorem stands_grown {W W' : World} {row : Option Nat} (hg : W.grownBy W' row) (hr : ∀ r, row = some r → ∃ o : Obj, W.heap[r]? = some o ∧ o.isCells = false) : Stands W W' :=
  ⟨hg.size, fun k cs t m _ _ hk => (hg.block k (Array.getElem?_eq_some_iff.1 hk).1 (fun e => by obtain ⟨o, ho, hc⟩ := hr k e.symm; rw [hk] at ho; cases ho; cases hc)).trans hk⟩
/-- A step of a message, made for word i. -/
def IsWord (ob i : Nat) (x : Int) (B : Nat) (v : Value) (w : World) : Prop := ∃ b1 b2 b3, v = .func (.func 82) #[] #[.pointer (some ⟨b1, 0, none⟩), .pointer (some ⟨b2, 0, none⟩), .pointer (some ⟨b3, 0, none⟩)] ∧ (B ≤ b1 ∧ B ≤ b2 ∧ B ≤ b3) ∧ w.heap[b1]? = some (.cells #[.pointer (some ⟨ob, 0, none⟩)] 50 (0, 0)) ∧ w.heap[b2]? = some (.cells #[.int .i64 (i : Int)] 3 (0, 0)) ∧ w.heap[b3]? = some (.cells #[.int .u32 x] 34 (0, 0))
theorem IsWord.stands {ob i : Nat} {x : Int} {B : Nat} {v : Value} {w w' : World} (h : IsWord ob i x B v w) (hs : Stands w w') : IsWord ob i x B v w' := by
  obtain ⟨b1, b2, b3, rfl, hb, h1, h2, h3⟩ := h
  exact ⟨b1, b2, b3, rfl, hb, hs.2 _ _ _ _ (by decide) (by decide) h1, hs.2 _ _ _ _ (by decide) (by decide) h2, hs.2 _ _ _ _ (by decide) (by decide) h3⟩
theorem IsWord.mono {ob i : Nat} {x : Int} {B B' : Nat} {v : Value} {w : World} (h : IsWord ob i x B v w) (hs : B' ≤ B) : IsWord ob i x B' v w := by
  obtain ⟨b1, b2, b3, rfl, hb, h1, h2, h3⟩ := h
  exact ⟨b1, b2, b3, rfl, ⟨by omega, by omega, by omega⟩, h1, h2, h3⟩
/-- A step of a message, made for word i. -/
def IsGet (ob i : Nat) (db m : Nat) (B : Nat) (v : Value) (w : World) : Prop := ∃ b1 b2 b3, v = .func (.func 107) #[] #[.pointer (some ⟨b1, 0, none⟩), .pointer (some ⟨b2, 0, none⟩), .pointer (some ⟨b3, 0, none⟩)] ∧ (B ≤ b1 ∧ B ≤ b2 ∧ B ≤ b3) ∧ w.heap[b1]? = some (.cells #[.pointer (some ⟨ob, 0, none⟩)] 50 (0, 0)) ∧ w.heap[b2]? = some (.cells #[.int .i64 (i : Int)] 3 (0, 0)) ∧ w.heap[b3]? = some (.cells #[.slice (some ⟨db, 0, none⟩) m m] 30 (0, 0))
theorem IsGet.stands {ob i : Nat} {db m : Nat} {B : Nat} {v : Value} {w w' : World} (h : IsGet ob i db m B v w) (hs : Stands w w') : IsGet ob i db m B v w' := by
  obtain ⟨b1, b2, b3, rfl, hb, h1, h2, h3⟩ := h
  exact ⟨b1, b2, b3, rfl, hb, hs.2 _ _ _ _ (by decide) (by decide) h1, hs.2 _ _ _ _ (by decide) (by decide) h2, hs.2 _ _ _ _ (by decide) (by decide) h3⟩
theorem IsGet.mono {ob i : Nat} {db m : Nat} {B B' : Nat} {v : Value} {w : World} (h : IsGet ob i db m B v w) (hs : B' ≤ B) : IsGet ob i db m B' v w := by
  obtain ⟨b1, b2, b3, rfl, hb, h1, h2, h3⟩ := h
  exact ⟨b1, b2, b3, rfl, ⟨by omega, by omega, by omega⟩, h1, h2, h3⟩
theorem snd1_b (ob bo bd db dof dl dc i : Nat) (x : Int) (w : World) (h1 : w.heap[bo]? = some (.cells #[.pointer (some ⟨ob, 0, none⟩)] 50 (0, 0))) (h2 : w.heap[bd]? = some (.cells #[.slice (some ⟨db, dof, none⟩) dl dc] 30 (0, 0))) (h3 : w.cell? ⟨db, dof + i, none⟩ = some (.int .u32 x)) (hi : i < dl) :
    Calls Tryz.prog 46 #[.int .i64 (i : Int), .pointer (some ⟨bo, 0, none⟩), .pointer (some ⟨bd, 0, none⟩)] w fun e w' => ∃ v, e = .returned v ∧ IsWord ob i x w.heap.size v w' ∧ Below w.heap.size w w' := by
  have c1 : w.cell? ⟨bo, 0, none⟩ = some (.pointer (some ⟨ob, 0, none⟩)) := blk_cell h1 rfl
  have c2 : w.cell? ⟨bd, 0, none⟩ = some (.slice (some ⟨db, dof, none⟩) dl dc) := blk_cell h2 rfl
  have i1 : (i : Int) < (dl : Int) := by omega
  have HM := Lib.hid (fun (W' : World) => mk_word_b ob i x W')
  clear h1 h2
  go_enter Tryz.func46, Tryz.ntmps46
  go_wp2
  refine wp_region_held_drew (S := (fun W' => Below w.heap.size w W')) (by kernel_rfl) (by exact (Below.refl _ _).drew) (fun hHeld => ?_)
  refine wpAnyH_take (i := 0) rfl (by kernel_rfl) (by kernel_rfl) (by kernel_rfl) (fun _ _ _ h => h) (Or.inl ⟨by rfl, by intro w hSw; (have z1 := (hSw.cell (p := ⟨bo, 0, none⟩) (World.block_lt_of_cell? _ _ c1)).trans c1; have z2 := (hSw.cell (p := ⟨bd, 0, none⟩) (World.block_lt_of_cell? _ _ c2)).trans c2; have z3 := (hSw.cell (p := ⟨db, dof + i, none⟩) (World.block_lt_of_cell? _ _ h3)).trans h3); (go_simp <;> with_reducible rfl)⟩) (by assumption) ?_
  (try simp only [Act.put, List.setIfInBounds_toArray, List.set_cons_zero, List.set_cons_succ, List.getElem_toArray, List.getElem_cons_zero, List.getElem_cons_succ])
  refine wpAnyH_take (i := 1) rfl (by kernel_rfl) (by kernel_rfl) (by kernel_rfl) (fun _ _ _ h => h) (Or.inl ⟨by rfl, by intro w hSw; (have z1 := (hSw.cell (p := ⟨bo, 0, none⟩) (World.block_lt_of_cell? _ _ c1)).trans c1; have z2 := (hSw.cell (p := ⟨bd, 0, none⟩) (World.block_lt_of_cell? _ _ c2)).trans c2; have z3 := (hSw.cell (p := ⟨db, dof + i, none⟩) (World.block_lt_of_cell? _ _ h3)).trans h3); (go_simp <;> with_reducible rfl)⟩) (by assumption) ?_
  (try simp only [Act.put, List.setIfInBounds_toArray, List.set_cons_zero, List.set_cons_succ, List.getElem_toArray, List.getElem_cons_zero, List.getElem_cons_succ])
  refine wpAnyH_take (i := 2) rfl (by kernel_rfl) (by kernel_rfl) (by kernel_rfl) (fun _ _ _ h => h) (Or.inl ⟨by rfl, by intro w hSw; (have z1 := (hSw.cell (p := ⟨bo, 0, none⟩) (World.block_lt_of_cell? _ _ c1)).trans c1; have z2 := (hSw.cell (p := ⟨bd, 0, none⟩) (World.block_lt_of_cell? _ _ c2)).trans c2; have z3 := (hSw.cell (p := ⟨db, dof + i, none⟩) (World.block_lt_of_cell? _ _ h3)).trans h3); (go_simp <;> with_reducible rfl)⟩) (by assumption) ?_
  (try simp only [Act.put, List.setIfInBounds_toArray, List.set_cons_zero, List.set_cons_succ, List.getElem_toArray, List.getElem_cons_zero, List.getElem_cons_succ])
  refine wpAnyH_take (i := 3) rfl (by kernel_rfl) (by kernel_rfl) (by kernel_rfl) (fun _ _ _ h => h) (Or.inl ⟨by rfl, by intro w hSw; (have z1 := (hSw.cell (p := ⟨bo, 0, none⟩) (World.block_lt_of_cell? _ _ c1)).trans c1; have z2 := (hSw.cell (p := ⟨bd, 0, none⟩) (World.block_lt_of_cell? _ _ c2)).trans c2; have z3 := (hSw.cell (p := ⟨db, dof + i, none⟩) (World.block_lt_of_cell? _ _ h3)).trans h3); (go_simp <;> with_reducible rfl)⟩) (by assumption) ?_
  (try simp only [Act.put, List.setIfInBounds_toArray, List.set_cons_zero, List.set_cons_succ, List.getElem_toArray, List.getElem_cons_zero, List.getElem_cons_succ])
  refine wpAnyH_take (i := 4) rfl (by kernel_rfl) (by kernel_rfl) (by kernel_rfl) (fun _ _ _ h => h) (Or.inl ⟨by rfl, by intro w hSw; (have z1 := (hSw.cell (p := ⟨bo, 0, none⟩) (World.block_lt_of_cell? _ _ c1)).trans c1; have z2 := (hSw.cell (p := ⟨bd, 0, none⟩) (World.block_lt_of_cell? _ _ c2)).trans c2; have z3 := (hSw.cell (p := ⟨db, dof + i, none⟩) (World.block_lt_of_cell? _ _ h3)).trans h3); (go_simp <;> with_reducible rfl)⟩) (by assumption) ?_
  (try simp only [Act.put, List.setIfInBounds_toArray, List.set_cons_zero, List.set_cons_succ, List.getElem_toArray, List.getElem_cons_zero, List.getElem_cons_succ])
  refine wpAnyH_take (i := 5) rfl (by kernel_rfl) (by kernel_rfl) (by kernel_rfl) (fun _ _ _ h => h) (Or.inl ⟨by rfl, by intro w hSw; (have z1 := (hSw.cell (p := ⟨bo, 0, none⟩) (World.block_lt_of_cell? _ _ c1)).trans c1; have z2 := (hSw.cell (p := ⟨bd, 0, none⟩) (World.block_lt_of_cell? _ _ c2)).trans c2; have z3 := (hSw.cell (p := ⟨db, dof + i, none⟩) (World.block_lt_of_cell? _ _ h3)).trans h3); (go_simp <;> with_reducible rfl)⟩) (by assumption) ?_
  (try simp only [Act.put, List.setIfInBounds_toArray, List.set_cons_zero, List.set_cons_succ, List.getElem_toArray, List.getElem_cons_zero, List.getElem_cons_succ])
  refine wpAnyH_ready (rs := [6]) (by kernel_rfl) (by simp) (AllReadyH.cons rfl (fun K hK => ?_) AllReadyH.nil)
  go_simp
  refine (HM.out _).mono ?_
  rintro e w5 ⟨rfl, hb5, hs5, y1, y2, y3⟩
  refine hK.out _ _ (by exact hHeld.trans (hb5.mono hHeld.size)) (fun hHeld => ?_)
  clear hK K
  (try simp only [Act.put, List.setIfInBounds_toArray, List.set_cons_zero, List.set_cons_succ, List.getElem_toArray, List.getElem_cons_zero, List.getElem_cons_succ])
  refine wpAnyH_take (i := 7) rfl (by kernel_rfl) (by kernel_rfl) (by kernel_rfl) (fun _ _ _ h => h) (Or.inl ⟨by rfl, by intro w hSw; (have z1 := (hSw.cell (p := ⟨bo, 0, none⟩) (World.block_lt_of_cell? _ _ c1)).trans c1; have z2 := (hSw.cell (p := ⟨bd, 0, none⟩) (World.block_lt_of_cell? _ _ c2)).trans c2; have z3 := (hSw.cell (p := ⟨db, dof + i, none⟩) (World.block_lt_of_cell? _ _ h3)).trans h3); (go_simp <;> with_reducible rfl)⟩) (by assumption) ?_
  (try simp only [Act.put, List.setIfInBounds_toArray, List.set_cons_zero, List.set_cons_succ, List.getElem_toArray, List.getElem_cons_zero, List.getElem_cons_succ])
  refine wpAnyH_done (by kernel_rfl) ?_ _
  have HH := Lib.hid hHeld
  clear hHeld
  go_wp2
  go_ret
  exact ⟨_, rfl, ⟨_, _, _, rfl, ⟨Nat.le_refl _, by omega, by omega⟩, y1, y2, y3⟩, HH.out⟩
theorem lln1_b (ob bo bd db m i : Nat) (w : World) (h1 : w.heap[bo]? = some (.cells #[.pointer (some ⟨ob, 0, none⟩)] 50 (0, 0))) (h2 : w.heap[bd]? = some (.cells #[.slice (some ⟨db, 0, none⟩) m m] 30 (0, 0))) :
    Calls Tryz.prog 84 #[.int .i64 (i : Int), .pointer (some ⟨bo, 0, none⟩), .pointer (some ⟨bd, 0, none⟩)] w fun e w' => ∃ v, e = .returned v ∧ IsGet ob i db m w.heap.size v w' ∧ Below w.heap.size w w' := by
  have c1 : w.cell? ⟨bo, 0, none⟩ = some (.pointer (some ⟨ob, 0, none⟩)) := blk_cell h1 rfl
  have c2 : w.cell? ⟨bd, 0, none⟩ = some (.slice (some ⟨db, 0, none⟩) m m) := blk_cell h2 rfl
  have HM := Lib.hid (mk_get_b ob i (some ⟨db, 0, none⟩) m m w)
  clear h1 h2
  go_enter Tryz.func84, Tryz.ntmps84
  go_wp2_with fail
  refine HM.out.mono ?_
  rintro e w5 ⟨rfl, hb5, hs5, y1, y2, y3⟩
  clear c1 c2
  go_wp2
  go_ret
  exact ⟨_, rfl, ⟨_, _, _, rfl, ⟨Nat.le_refl _, by omega, by omega⟩, y1, y2, y3⟩, hb5⟩
end Go.Proofs.YtfdgokkngejbhaaGreat
