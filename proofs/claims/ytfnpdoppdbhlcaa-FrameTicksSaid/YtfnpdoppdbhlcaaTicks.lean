/- Ticks as a contract: an iterator over the ticks of one frame's length, in a box. No condition but those in the statements. -/
import Derived.Test.YtfnpdoppdbhlcaaRTicks
import Derived.Test.YtfnpdoppdbhlcaaEver
import Derived.BigQuiet
import Derived.IntWalk
import Derived.BigRegion
import Derived.OpenShut
import Derived.Laws.EntriesVeiled
import Derived.OrdersHeld
import Derived.Deep.RegionHeld3
namespace Go.Proofs.Ytfnpdoppdbhlcaa
open Go.RowKit Go.Sort Go.ChangeShapes Go.WideShapes
set_option linter.unusedVariables false
set_option linter.unusedSimpArgs false


/-- Ticks has found xs: its closure, over a box that holds them and one that holds the frame's length. -/
def GivesTicks (w : World) (xs : List Int) (len : Int) (e : Ending) (w' : World) : Prop :=
  ∃ tb nb a k, e = .returned (.func (.func 29) #[] #[.pointer (some ⟨tb, 0, none⟩), .pointer (some ⟨nb, 0, none⟩)]) ∧ w.heap.size ≤ tb ∧ w.heap.size ≤ nb ∧ tb ≠ nb ∧ w'.heap[tb]? = some (.cells #[.slice a xs.length k] 32 (0, 0)) ∧
    w'.heap[nb]? = some (.cells #[.int .i64 len] 3 (0, 0)) ∧ OwnsOff w' w.heap.size 3 1 (.slice a xs.length k) xs.length (icells xs) ∧ Below w.heap.size w w'
theorem gives_ticks {w W Z : World} {xs : List Int} {len : Int} {t6 t7 k : Nat} {a : Option Addr} (hB : Below w.heap.size w W) (h6 : Z.heap[t6]? = some (.cells #[.slice a xs.length k] 32 (0, 0))) (h7 : Z.heap[t7]? = some (.cells #[.int .i64 len] 3 (0, 0)))
    (ho : OwnsOff Z W.heap.size 3 1 (.slice a xs.length k) xs.length (icells xs)) (hZ : Below W.heap.size W Z) (h : W.heap.size ≤ t6 ∧ W.heap.size ≤ t7 ∧ t6 ≠ t7) :
    GivesTicks w xs len (.returned (.func (.func 29) #[] #[.pointer (some ⟨t6, 0, none⟩), .pointer (some ⟨t7, 0, none⟩)])) Z :=
  ⟨t6, t7, a, k, rfl, Nat.le_trans hB.size h.1, Nat.le_trans hB.size h.2.1, h.2.2, h6, h7, ho.mono hB.size, hB.trans (hZ.mono hB.size)⟩
set_option maxRecDepth 100000 in
theorem ticks_never (len : Int) (l : List (List Int)) (A : Option Addr) (c : Nat) (part t : Int) (w : World) (hf : FIn w len l A) (hm : mayB len l t = false) : Calls Try.prog 17 #[.agg #[.int .i64 len, .slice A l.length c], .int .i64 part, .int .i64 t] w fun e w' => e = .returned (.func (.func 28) #[] #[]) ∧ Below w.heap.size w w' := by
  obtain ⟨W, HW, hB, hWs, bx⟩ := fbox_new w len A l.length c 24
  have hfW := hf.later hB
  have HB := Lib.hid hB
  clear hB hf
  obtain ⟨c0, c1⟩ := bx _ (Below.refl _ _)
  go_enter Try.func17, Try.ntmps17
  go_wp2_with (first | (rw [← HW.out]) | fail)
  refine (may_is len l A c t false _ hfW hm).mono ?_
  rintro e w5 ⟨rfl, hb5⟩
  go_wp2
  go_ret
  exact ⟨rfl, HB.out.trans (hb5.mono HB.out.size)⟩
set_option maxRecDepth 100000 in
set_option maxHeartbeats 4000000 in
theorem ticks_b (len : Int) (l : List (List Int)) (A : Option Addr) (c : Nat) (part t : Int) (w : World) (hf : FIn w len l A) (hm : mayB len l t = true) : Calls Try.prog 17 #[.agg #[.int .i64 len, .slice A l.length c], .int .i64 part, .int .i64 t] w (GivesTicks w (upL openB len l part t len.toNat) len) := by
  obtain ⟨W, HW, hB, hWs, bx⟩ := fbox_new w len A l.length c 24
  have hfW := hf.later hB
  have HB := Lib.hid hB
  clear hB hf
  obtain ⟨c0, c1⟩ := bx _ (Below.refl _ _)
  obtain ⟨hR, h0, h1, -⟩ := may_rt hm
  have HR := Lib.hid hR; have HM := Lib.hid hm
  clear hR hm
  go_enter Try.func17, Try.ntmps17
  go_wp2_with (first | (rw [← HW.out]) | fail)
  refine (may_is len l A c t true _ hfW HM.out).mono ?_
  rintro e w5 ⟨rfl, hb5⟩
  have hB := hb5.drew
  clear hb5 c0 c1
  go_wp2_with fail
  refine wp_region_held_drew (S := (fun w' => w'.cell? ⟨w.heap.size, 0, none⟩ = some (.int .i64 len) ∧ w'.cell? ⟨w.heap.size, 1, none⟩ = some (.slice A l.length c) ∧ Below W.heap.size W w')) (by kernel_rfl) (⟨(bx _ hB).1, (bx _ hB).2, hB⟩) (fun hHeld => ?_)
  obtain ⟨X0, hX0⟩ : ∃ u, Hid (u = w5.drew) := ⟨_, rfl⟩
  rw [← hX0.out] at hB hHeld ⊢
  refine wpAnyH_take (i := 0) rfl (by kernel_rfl) (by kernel_rfl) (by kernel_rfl) (fun _ _ _ h => h) (Or.inl ⟨by rfl, by intro w hSw; (go_simp <;> with_reducible rfl)⟩) (by assumption) ?_
  (try simp only [Act.put, List.setIfInBounds_toArray, List.set_cons_zero, List.set_cons_succ, List.getElem_toArray, List.getElem_cons_zero, List.getElem_cons_succ])
  refine wpAnyH_take (i := 1) rfl (by kernel_rfl) (by kernel_rfl) (by kernel_rfl) (fun _ _ _ h => h) (Or.inl ⟨by rfl, by intro w hSw; (go_simp <;> with_reducible rfl)⟩) (by assumption) ?_
  (try simp only [Act.put, List.setIfInBounds_toArray, List.set_cons_zero, List.set_cons_succ, List.getElem_toArray, List.getElem_cons_zero, List.getElem_cons_succ])
  refine wpAnyH_take (i := 2) rfl (by kernel_rfl) (by kernel_rfl) (by kernel_rfl) (fun _ _ _ h => h) (Or.inl ⟨by rfl, by intro w hSw; (go_simp <;> with_reducible rfl)⟩) (by assumption) ?_
  (try simp only [Act.put, List.setIfInBounds_toArray, List.set_cons_zero, List.set_cons_succ, List.getElem_toArray, List.getElem_cons_zero, List.getElem_cons_succ])
  refine wpAnyH_take (i := 4) rfl (by kernel_rfl) (by kernel_rfl) (by kernel_rfl) (fun _ _ _ h => h) (Or.inl ⟨by rfl, by intro w hSw; (go_simp <;> with_reducible rfl)⟩) (by assumption) ?_
  (try simp only [Act.put, List.setIfInBounds_toArray, List.set_cons_zero, List.set_cons_succ, List.getElem_toArray, List.getElem_cons_zero, List.getElem_cons_succ])
  refine wpAnyH_take (i := 5) rfl (by kernel_rfl) (by kernel_rfl) (by kernel_rfl) (fun _ _ _ h => h) (Or.inl ⟨by rfl, by intro w hSw; (go_simp <;> with_reducible rfl)⟩) (by assumption) ?_
  (try simp only [Act.put, List.setIfInBounds_toArray, List.set_cons_zero, List.set_cons_succ, List.getElem_toArray, List.getElem_cons_zero, List.getElem_cons_succ])
  refine wpAnyH_ready (rs := [3, 6, 7]) (by kernel_rfl) (by simp) (AllReadyH.cons rfl (fun K hK => ?_) (AllReadyH.cons rfl (fun K hK => ?_) (AllReadyH.cons rfl (fun K hK => ?_) AllReadyH.nil)))
  · go_simp
    refine (turn_open_b len l A c part t X0 (hfW.later hB) HR.out h0 (by omega)).mono ?_
    rintro e v1 ⟨v, rfl, hown, hl⟩
    have hB' := hB.trans (hl.mono hB.size)
    obtain ⟨a9, c9, rfl, _⟩ := hown.slice
    have hown := hown.mono hB.size
    clear hl hB
    have hB := hB'
    refine hK.out _ _ ⟨(bx _ hB).1, (bx _ hB).2, hB⟩ (fun hHeld => ?_)
    clear hK K hB'
    (try simp only [Act.put, List.setIfInBounds_toArray, List.set_cons_zero, List.set_cons_succ, List.getElem_toArray, List.getElem_cons_zero, List.getElem_cons_succ])
    refine wpAnyH_ready (rs := [6, 7]) (by kernel_rfl) (by simp) (AllReadyH.cons rfl (fun K hK => ?_) (AllReadyH.cons rfl (fun K hK => ?_) AllReadyH.nil))
    · go_simp
      obtain ⟨v2, hv2⟩ : ∃ v, Hid (v = v1.alloc (.cells #[.slice none 0 0] 32)) := ⟨_, rfl⟩
      rw [← hv2.out]
      have hl : Below v1.heap.size v1 v2 := by rw [hv2.out]; exact (Below.refl _ _).alloc (Nat.le_refl _) _
      obtain ⟨t6, ht6⟩ : ∃ n, n = v1.heap.size := ⟨_, rfl⟩
      have hown := hown.keptB hl
      have hE6 : v2.heap[t6]? = some (.cells #[.slice none 0 0] 32 (0, 0)) := by rw [ht6, hv2.out]; exact heap_alloc_new _ _
      have h6W : W.heap.size ≤ t6 := by rw [ht6]; exact hB.size
      simp only [← ht6]
      have hB' := hB.trans (hl.mono hB.size)
      clear hl hB hv2 ht6
      have hB := hB'
      refine hK.out _ _ ⟨(bx _ hB).1, (bx _ hB).2, hB⟩ (fun hHeld => ?_)
      clear hK K hB'
      (try simp only [Act.put, List.setIfInBounds_toArray, List.set_cons_zero, List.set_cons_succ, List.getElem_toArray, List.getElem_cons_zero, List.getElem_cons_succ])
      refine wpAnyH_ready (rs := [7]) (by kernel_rfl) (by simp) (AllReadyH.cons rfl (fun K hK => ?_) AllReadyH.nil)
      go_simp
      obtain ⟨v3, hv3⟩ : ∃ v, Hid (v = v2.alloc (.cells #[.int .i64 0] 3)) := ⟨_, rfl⟩
      rw [← hv3.out]
      have hl : Below v2.heap.size v2 v3 := by rw [hv3.out]; exact (Below.refl _ _).alloc (Nat.le_refl _) _
      obtain ⟨t7, ht7⟩ : ∃ n, n = v2.heap.size := ⟨_, rfl⟩
      have hne : t6 ≠ t7 := by have := (Array.getElem?_eq_some_iff.1 hE6).1; omega
      have hv7 : ∀ g, (Value.slice a9 (upL openB len l part t len.toNat).length c9).ownBlock = some g → g ≠ t7 := fun g hg => by have h1 := (hown.lt g hg).2; omega
      have hown := hown.keptB hl
      have hE6 := (hl.block t6 (Array.getElem?_eq_some_iff.1 hE6).1).trans hE6
      have hE7 : v3.heap[t7]? = some (.cells #[.int .i64 0] 3 (0, 0)) := by rw [ht7, hv3.out]; exact heap_alloc_new _ _
      have h7W : W.heap.size ≤ t7 := by rw [ht7]; exact hB.size
      simp only [← ht7]
      have hB' := hB.trans (hl.mono hB.size)
      clear hl hB hv3 ht7
      have hB := hB'
      refine hK.out _ _ ⟨(bx _ hB).1, (bx _ hB).2, hB⟩ (fun hHeld => ?_)
      clear hK K hB'
      (try simp only [Act.put, List.setIfInBounds_toArray, List.set_cons_zero, List.set_cons_succ, List.getElem_toArray, List.getElem_cons_zero, List.getElem_cons_succ])
      refine wpAnyH_ready (rs := [8]) (by kernel_rfl) (by simp) (AllReadyH.cons rfl (fun K hK => ?_) AllReadyH.nil)
      have z0 := cell_blk hE6 (i := 0) rfl
      have z1 : v3.frozen? ⟨t6, 0, none⟩ = false := by simp [World.frozen?, hE6]
      go_simp
      clear z0 z1
      obtain ⟨u8, hu8⟩ : ∃ v, Hid (v = v3.setCell ⟨t6, 0, none⟩ (.slice a9 (upL openB len l part t len.toNat).length c9)) := ⟨_, rfl⟩
      rw [← hu8.out]
      have hE7 : u8.heap[t7]? = some (.cells #[.int .i64 0] 3 (0, 0)) := by rw [hu8.out]; exact (Below.heap_setCell _ _ _ _ (by simpa using hne.symm)).trans hE7
      have hown : OwnsOff u8 W.heap.size 3 1 (.slice a9 (upL openB len l part t len.toNat).length c9) (upL openB len l part t len.toNat).length (icells (upL openB len l part t len.toNat)) := by
        rw [hu8.out]
        exact hown.kept (Only.setCell v3 ⟨t6, 0, none⟩ _) (fun g hg e => by obtain ⟨cs, h⟩ := hown.typed g hg; rw [show g = t6 from e, hE6] at h; cases h)
      have hE6 : u8.heap[t6]? = some (.cells #[.slice a9 (upL openB len l part t len.toNat).length c9] 32 (0, 0)) := by rw [hu8.out]; simp [World.setCell, Array.getElem?_modify, hE6]
      have hB' : Below W.heap.size W u8 := by rw [hu8.out]; exact hB.setCell (p := ⟨t6, 0, none⟩) h6W _
      clear hB hu8
      have hB := hB'
      refine hK.out _ _ ⟨(bx _ hB).1, (bx _ hB).2, hB⟩ (fun hHeld => ?_)
      clear hK K hB'
      (try simp only [Act.put, List.setIfInBounds_toArray, List.set_cons_zero, List.set_cons_succ, List.getElem_toArray, List.getElem_cons_zero, List.getElem_cons_succ])
      refine wpAnyH_ready (rs := [9]) (by kernel_rfl) (by simp) (AllReadyH.cons rfl (fun K hK => ?_) AllReadyH.nil)
      have z0 := cell_blk hE7 (i := 0) rfl
      have z1 : u8.frozen? ⟨t7, 0, none⟩ = false := by simp [World.frozen?, hE7]
      go_simp
      clear z0 z1
      obtain ⟨u9, hu9⟩ : ∃ v, Hid (v = u8.setCell ⟨t7, 0, none⟩ (.int .i64 len)) := ⟨_, rfl⟩
      rw [← hu9.out]
      have hE6 : u9.heap[t6]? = some (.cells #[.slice a9 (upL openB len l part t len.toNat).length c9] 32 (0, 0)) := by rw [hu9.out]; exact (Below.heap_setCell _ _ _ _ (by simpa using hne)).trans hE6
      have hown : OwnsOff u9 W.heap.size 3 1 (.slice a9 (upL openB len l part t len.toNat).length c9) (upL openB len l part t len.toNat).length (icells (upL openB len l part t len.toNat)) := by
        rw [hu9.out]
        exact hown.kept (Only.setCell u8 ⟨t7, 0, none⟩ _) (fun g hg e => hv7 g hg e)
      have hE7 : u9.heap[t7]? = some (.cells #[.int .i64 len] 3 (0, 0)) := by rw [hu9.out]; simp [World.setCell, Array.getElem?_modify, hE7]
      have hB' : Below W.heap.size W u9 := by rw [hu9.out]; exact hB.setCell (p := ⟨t7, 0, none⟩) h7W _
      clear hB hu9
      have hB := hB'
      refine hK.out _ _ ⟨(bx _ hB).1, (bx _ hB).2, hB⟩ (fun hHeld => ?_)
      clear hK K hB'
      (try simp only [Act.put, List.setIfInBounds_toArray, List.set_cons_zero, List.set_cons_succ, List.getElem_toArray, List.getElem_cons_zero, List.getElem_cons_succ])
      refine wpAnyH_done (by kernel_rfl) ?_ _
      have HE6 := Lib.hid hE6; have HE7 := Lib.hid hE7; have HOWN := Lib.hid hown; have HBB := Lib.hid hB; have H67 := Lib.hid (And.intro h6W (And.intro h7W hne))
      clear hE6 hE7 hown hB hHeld h6W h7W hne hv7
      go_wp2
      go_ret
      exact gives_ticks HB.out HE6.out HE7.out HOWN.out HBB.out H67.out
    · go_simp
      obtain ⟨v2, hv2⟩ : ∃ v, Hid (v = v1.alloc (.cells #[.int .i64 0] 3)) := ⟨_, rfl⟩
      rw [← hv2.out]
      have hl : Below v1.heap.size v1 v2 := by rw [hv2.out]; exact (Below.refl _ _).alloc (Nat.le_refl _) _
      obtain ⟨t7, ht7⟩ : ∃ n, n = v1.heap.size := ⟨_, rfl⟩
      have hv7 : ∀ g, (Value.slice a9 (upL openB len l part t len.toNat).length c9).ownBlock = some g → g ≠ t7 := fun g hg => by have h1 := (hown.lt g hg).2; omega
      have hown := hown.keptB hl
      have hE7 : v2.heap[t7]? = some (.cells #[.int .i64 0] 3 (0, 0)) := by rw [ht7, hv2.out]; exact heap_alloc_new _ _
      have h7W : W.heap.size ≤ t7 := by rw [ht7]; exact hB.size
      simp only [← ht7]
      have hB' := hB.trans (hl.mono hB.size)
      clear hl hB hv2 ht7
      have hB := hB'
      refine hK.out _ _ ⟨(bx _ hB).1, (bx _ hB).2, hB⟩ (fun hHeld => ?_)
      clear hK K hB'
      (try simp only [Act.put, List.setIfInBounds_toArray, List.set_cons_zero, List.set_cons_succ, List.getElem_toArray, List.getElem_cons_zero, List.getElem_cons_succ])
      refine wpAnyH_ready (rs := [6]) (by kernel_rfl) (by simp) (AllReadyH.cons rfl (fun K hK => ?_) AllReadyH.nil)
      go_simp
      obtain ⟨v3, hv3⟩ : ∃ v, Hid (v = v2.alloc (.cells #[.slice none 0 0] 32)) := ⟨_, rfl⟩
      rw [← hv3.out]
      have hl : Below v2.heap.size v2 v3 := by rw [hv3.out]; exact (Below.refl _ _).alloc (Nat.le_refl _) _
      obtain ⟨t6, ht6⟩ : ∃ n, n = v2.heap.size := ⟨_, rfl⟩
      have hne : t6 ≠ t7 := by have := (Array.getElem?_eq_some_iff.1 hE7).1; omega
      have hown := hown.keptB hl
      have hE7 := (hl.block t7 (Array.getElem?_eq_some_iff.1 hE7).1).trans hE7
      have hE6 : v3.heap[t6]? = some (.cells #[.slice none 0 0] 32 (0, 0)) := by rw [ht6, hv3.out]; exact heap_alloc_new _ _
      have h6W : W.heap.size ≤ t6 := by rw [ht6]; exact hB.size
      simp only [← ht6]
      have hB' := hB.trans (hl.mono hB.size)
      clear hl hB hv3 ht6
      have hB := hB'
      refine hK.out _ _ ⟨(bx _ hB).1, (bx _ hB).2, hB⟩ (fun hHeld => ?_)
      clear hK K hB'
      (try simp only [Act.put, List.setIfInBounds_toArray, List.set_cons_zero, List.set_cons_succ, List.getElem_toArray, List.getElem_cons_zero, List.getElem_cons_succ])
      refine wpAnyH_ready (rs := [8]) (by kernel_rfl) (by simp) (AllReadyH.cons rfl (fun K hK => ?_) AllReadyH.nil)
      have z0 := cell_blk hE6 (i := 0) rfl
      have z1 : v3.frozen? ⟨t6, 0, none⟩ = false := by simp [World.frozen?, hE6]
      go_simp
      clear z0 z1
      obtain ⟨u8, hu8⟩ : ∃ v, Hid (v = v3.setCell ⟨t6, 0, none⟩ (.slice a9 (upL openB len l part t len.toNat).length c9)) := ⟨_, rfl⟩
      rw [← hu8.out]
      have hE7 : u8.heap[t7]? = some (.cells #[.int .i64 0] 3 (0, 0)) := by rw [hu8.out]; exact (Below.heap_setCell _ _ _ _ (by simpa using hne.symm)).trans hE7
      have hown : OwnsOff u8 W.heap.size 3 1 (.slice a9 (upL openB len l part t len.toNat).length c9) (upL openB len l part t len.toNat).length (icells (upL openB len l part t len.toNat)) := by
        rw [hu8.out]
        exact hown.kept (Only.setCell v3 ⟨t6, 0, none⟩ _) (fun g hg e => by obtain ⟨cs, h⟩ := hown.typed g hg; rw [show g = t6 from e, hE6] at h; cases h)
      have hE6 : u8.heap[t6]? = some (.cells #[.slice a9 (upL openB len l part t len.toNat).length c9] 32 (0, 0)) := by rw [hu8.out]; simp [World.setCell, Array.getElem?_modify, hE6]
      have hB' : Below W.heap.size W u8 := by rw [hu8.out]; exact hB.setCell (p := ⟨t6, 0, none⟩) h6W _
      clear hB hu8
      have hB := hB'
      refine hK.out _ _ ⟨(bx _ hB).1, (bx _ hB).2, hB⟩ (fun hHeld => ?_)
      clear hK K hB'
      (try simp only [Act.put, List.setIfInBounds_toArray, List.set_cons_zero, List.set_cons_succ, List.getElem_toArray, List.getElem_cons_zero, List.getElem_cons_succ])
      refine wpAnyH_ready (rs := [9]) (by kernel_rfl) (by simp) (AllReadyH.cons rfl (fun K hK => ?_) AllReadyH.nil)
      have z0 := cell_blk hE7 (i := 0) rfl
      have z1 : u8.frozen? ⟨t7, 0, none⟩ = false := by simp [World.frozen?, hE7]
      go_simp
      clear z0 z1
      obtain ⟨u9, hu9⟩ : ∃ v, Hid (v = u8.setCell ⟨t7, 0, none⟩ (.int .i64 len)) := ⟨_, rfl⟩
      rw [← hu9.out]
      have hE6 : u9.heap[t6]? = some (.cells #[.slice a9 (upL openB len l part t len.toNat).length c9] 32 (0, 0)) := by rw [hu9.out]; exact (Below.heap_setCell _ _ _ _ (by simpa using hne)).trans hE6
      have hown : OwnsOff u9 W.heap.size 3 1 (.slice a9 (upL openB len l part t len.toNat).length c9) (upL openB len l part t len.toNat).length (icells (upL openB len l part t len.toNat)) := by
        rw [hu9.out]
        exact hown.kept (Only.setCell u8 ⟨t7, 0, none⟩ _) (fun g hg e => hv7 g hg e)
      have hE7 : u9.heap[t7]? = some (.cells #[.int .i64 len] 3 (0, 0)) := by rw [hu9.out]; simp [World.setCell, Array.getElem?_modify, hE7]
      have hB' : Below W.heap.size W u9 := by rw [hu9.out]; exact hB.setCell (p := ⟨t7, 0, none⟩) h7W _
      clear hB hu9
      have hB := hB'
      refine hK.out _ _ ⟨(bx _ hB).1, (bx _ hB).2, hB⟩ (fun hHeld => ?_)
      clear hK K hB'
      (try simp only [Act.put, List.setIfInBounds_toArray, List.set_cons_zero, List.set_cons_succ, List.getElem_toArray, List.getElem_cons_zero, List.getElem_cons_succ])
      refine wpAnyH_done (by kernel_rfl) ?_ _
      have HE6 := Lib.hid hE6; have HE7 := Lib.hid hE7; have HOWN := Lib.hid hown; have HBB := Lib.hid hB; have H67 := Lib.hid (And.intro h6W (And.intro h7W hne))
      clear hE6 hE7 hown hB hHeld h6W h7W hne hv7
      go_wp2
      go_ret
      exact gives_ticks HB.out HE6.out HE7.out HOWN.out HBB.out H67.out
  · go_simp
    obtain ⟨v1, hv1⟩ : ∃ v, Hid (v = X0.alloc (.cells #[.slice none 0 0] 32)) := ⟨_, rfl⟩
    rw [← hv1.out]
    have hl : Below X0.heap.size X0 v1 := by rw [hv1.out]; exact (Below.refl _ _).alloc (Nat.le_refl _) _
    obtain ⟨t6, ht6⟩ : ∃ n, n = X0.heap.size := ⟨_, rfl⟩
    have hE6 : v1.heap[t6]? = some (.cells #[.slice none 0 0] 32 (0, 0)) := by rw [ht6, hv1.out]; exact heap_alloc_new _ _
    have h6W : W.heap.size ≤ t6 := by rw [ht6]; exact hB.size
    simp only [← ht6]
    have hB' := hB.trans (hl.mono hB.size)
    clear hl hB hv1 ht6
    have hB := hB'
    refine hK.out _ _ ⟨(bx _ hB).1, (bx _ hB).2, hB⟩ (fun hHeld => ?_)
    clear hK K hB'
    (try simp only [Act.put, List.setIfInBounds_toArray, List.set_cons_zero, List.set_cons_succ, List.getElem_toArray, List.getElem_cons_zero, List.getElem_cons_succ])
    refine wpAnyH_ready (rs := [3, 7]) (by kernel_rfl) (by simp) (AllReadyH.cons rfl (fun K hK => ?_) (AllReadyH.cons rfl (fun K hK => ?_) AllReadyH.nil))
    · go_simp
      refine (turn_open_b len l A c part t v1 (hfW.later hB) HR.out h0 (by omega)).mono ?_
      rintro e v2 ⟨v, rfl, hown, hl⟩
      have hB' := hB.trans (hl.mono hB.size)
      obtain ⟨a9, c9, rfl, _⟩ := hown.slice
      have hE6 := (hl.block t6 (Array.getElem?_eq_some_iff.1 hE6).1).trans hE6
      have hown := hown.mono hB.size
      clear hl hB
      have hB := hB'
      refine hK.out _ _ ⟨(bx _ hB).1, (bx _ hB).2, hB⟩ (fun hHeld => ?_)
      clear hK K hB'
      (try simp only [Act.put, List.setIfInBounds_toArray, List.set_cons_zero, List.set_cons_succ, List.getElem_toArray, List.getElem_cons_zero, List.getElem_cons_succ])
      refine wpAnyH_ready (rs := [7]) (by kernel_rfl) (by simp) (AllReadyH.cons rfl (fun K hK => ?_) AllReadyH.nil)
      go_simp
      obtain ⟨v3, hv3⟩ : ∃ v, Hid (v = v2.alloc (.cells #[.int .i64 0] 3)) := ⟨_, rfl⟩
      rw [← hv3.out]
      have hl : Below v2.heap.size v2 v3 := by rw [hv3.out]; exact (Below.refl _ _).alloc (Nat.le_refl _) _
      obtain ⟨t7, ht7⟩ : ∃ n, n = v2.heap.size := ⟨_, rfl⟩
      have hne : t6 ≠ t7 := by have := (Array.getElem?_eq_some_iff.1 hE6).1; omega
      have hv7 : ∀ g, (Value.slice a9 (upL openB len l part t len.toNat).length c9).ownBlock = some g → g ≠ t7 := fun g hg => by have h1 := (hown.lt g hg).2; omega
      have hown := hown.keptB hl
      have hE6 := (hl.block t6 (Array.getElem?_eq_some_iff.1 hE6).1).trans hE6
      have hE7 : v3.heap[t7]? = some (.cells #[.int .i64 0] 3 (0, 0)) := by rw [ht7, hv3.out]; exact heap_alloc_new _ _
      have h7W : W.heap.size ≤ t7 := by rw [ht7]; exact hB.size
      simp only [← ht7]
      have hB' := hB.trans (hl.mono hB.size)
      clear hl hB hv3 ht7
      have hB := hB'
      refine hK.out _ _ ⟨(bx _ hB).1, (bx _ hB).2, hB⟩ (fun hHeld => ?_)
      clear hK K hB'
      (try simp only [Act.put, List.setIfInBounds_toArray, List.set_cons_zero, List.set_cons_succ, List.getElem_toArray, List.getElem_cons_zero, List.getElem_cons_succ])
      refine wpAnyH_ready (rs := [8]) (by kernel_rfl) (by simp) (AllReadyH.cons rfl (fun K hK => ?_) AllReadyH.nil)
      have z0 := cell_blk hE6 (i := 0) rfl
      have z1 : v3.frozen? ⟨t6, 0, none⟩ = false := by simp [World.frozen?, hE6]
      go_simp
      clear z0 z1
      obtain ⟨u8, hu8⟩ : ∃ v, Hid (v = v3.setCell ⟨t6, 0, none⟩ (.slice a9 (upL openB len l part t len.toNat).length c9)) := ⟨_, rfl⟩
      rw [← hu8.out]
      have hE7 : u8.heap[t7]? = some (.cells #[.int .i64 0] 3 (0, 0)) := by rw [hu8.out]; exact (Below.heap_setCell _ _ _ _ (by simpa using hne.symm)).trans hE7
      have hown : OwnsOff u8 W.heap.size 3 1 (.slice a9 (upL openB len l part t len.toNat).length c9) (upL openB len l part t len.toNat).length (icells (upL openB len l part t len.toNat)) := by
        rw [hu8.out]
        exact hown.kept (Only.setCell v3 ⟨t6, 0, none⟩ _) (fun g hg e => by obtain ⟨cs, h⟩ := hown.typed g hg; rw [show g = t6 from e, hE6] at h; cases h)
      have hE6 : u8.heap[t6]? = some (.cells #[.slice a9 (upL openB len l part t len.toNat).length c9] 32 (0, 0)) := by rw [hu8.out]; simp [World.setCell, Array.getElem?_modify, hE6]
      have hB' : Below W.heap.size W u8 := by rw [hu8.out]; exact hB.setCell (p := ⟨t6, 0, none⟩) h6W _
      clear hB hu8
      have hB := hB'
      refine hK.out _ _ ⟨(bx _ hB).1, (bx _ hB).2, hB⟩ (fun hHeld => ?_)
      clear hK K hB'
      (try simp only [Act.put, List.setIfInBounds_toArray, List.set_cons_zero, List.set_cons_succ, List.getElem_toArray, List.getElem_cons_zero, List.getElem_cons_succ])
      refine wpAnyH_ready (rs := [9]) (by kernel_rfl) (by simp) (AllReadyH.cons rfl (fun K hK => ?_) AllReadyH.nil)
      have z0 := cell_blk hE7 (i := 0) rfl
      have z1 : u8.frozen? ⟨t7, 0, none⟩ = false := by simp [World.frozen?, hE7]
      go_simp
      clear z0 z1
      obtain ⟨u9, hu9⟩ : ∃ v, Hid (v = u8.setCell ⟨t7, 0, none⟩ (.int .i64 len)) := ⟨_, rfl⟩
      rw [← hu9.out]
      have hE6 : u9.heap[t6]? = some (.cells #[.slice a9 (upL openB len l part t len.toNat).length c9] 32 (0, 0)) := by rw [hu9.out]; exact (Below.heap_setCell _ _ _ _ (by simpa using hne)).trans hE6
      have hown : OwnsOff u9 W.heap.size 3 1 (.slice a9 (upL openB len l part t len.toNat).length c9) (upL openB len l part t len.toNat).length (icells (upL openB len l part t len.toNat)) := by
        rw [hu9.out]
        exact hown.kept (Only.setCell u8 ⟨t7, 0, none⟩ _) (fun g hg e => hv7 g hg e)
      have hE7 : u9.heap[t7]? = some (.cells #[.int .i64 len] 3 (0, 0)) := by rw [hu9.out]; simp [World.setCell, Array.getElem?_modify, hE7]
      have hB' : Below W.heap.size W u9 := by rw [hu9.out]; exact hB.setCell (p := ⟨t7, 0, none⟩) h7W _
      clear hB hu9
      have hB := hB'
      refine hK.out _ _ ⟨(bx _ hB).1, (bx _ hB).2, hB⟩ (fun hHeld => ?_)
      clear hK K hB'
      (try simp only [Act.put, List.setIfInBounds_toArray, List.set_cons_zero, List.set_cons_succ, List.getElem_toArray, List.getElem_cons_zero, List.getElem_cons_succ])
      refine wpAnyH_done (by kernel_rfl) ?_ _
      have HE6 := Lib.hid hE6; have HE7 := Lib.hid hE7; have HOWN := Lib.hid hown; have HBB := Lib.hid hB; have H67 := Lib.hid (And.intro h6W (And.intro h7W hne))
      clear hE6 hE7 hown hB hHeld h6W h7W hne hv7
      go_wp2
      go_ret
      exact gives_ticks HB.out HE6.out HE7.out HOWN.out HBB.out H67.out
    · go_simp
      obtain ⟨v2, hv2⟩ : ∃ v, Hid (v = v1.alloc (.cells #[.int .i64 0] 3)) := ⟨_, rfl⟩
      rw [← hv2.out]
      have hl : Below v1.heap.size v1 v2 := by rw [hv2.out]; exact (Below.refl _ _).alloc (Nat.le_refl _) _
      obtain ⟨t7, ht7⟩ : ∃ n, n = v1.heap.size := ⟨_, rfl⟩
      have hne : t6 ≠ t7 := by have := (Array.getElem?_eq_some_iff.1 hE6).1; omega
      have hE6 := (hl.block t6 (Array.getElem?_eq_some_iff.1 hE6).1).trans hE6
      have hE7 : v2.heap[t7]? = some (.cells #[.int .i64 0] 3 (0, 0)) := by rw [ht7, hv2.out]; exact heap_alloc_new _ _
      have h7W : W.heap.size ≤ t7 := by rw [ht7]; exact hB.size
      simp only [← ht7]
      have hB' := hB.trans (hl.mono hB.size)
      clear hl hB hv2 ht7
      have hB := hB'
      refine hK.out _ _ ⟨(bx _ hB).1, (bx _ hB).2, hB⟩ (fun hHeld => ?_)
      clear hK K hB'
      (try simp only [Act.put, List.setIfInBounds_toArray, List.set_cons_zero, List.set_cons_succ, List.getElem_toArray, List.getElem_cons_zero, List.getElem_cons_succ])
      refine wpAnyH_ready (rs := [3]) (by kernel_rfl) (by simp) (AllReadyH.cons rfl (fun K hK => ?_) AllReadyH.nil)
      go_simp
      refine (turn_open_b len l A c part t v2 (hfW.later hB) HR.out h0 (by omega)).mono ?_
      rintro e v3 ⟨v, rfl, hown, hl⟩
      have hB' := hB.trans (hl.mono hB.size)
      obtain ⟨a9, c9, rfl, _⟩ := hown.slice
      have hv7 : ∀ g, (Value.slice a9 (upL openB len l part t len.toNat).length c9).ownBlock = some g → g ≠ t7 := fun g hg => by have h1 := (hown.lt g hg).1; have h2 := (Array.getElem?_eq_some_iff.1 hE7).1; omega
      have hE6 := (hl.block t6 (Array.getElem?_eq_some_iff.1 hE6).1).trans hE6
      have hE7 := (hl.block t7 (Array.getElem?_eq_some_iff.1 hE7).1).trans hE7
      have hown := hown.mono hB.size
      clear hl hB
      have hB := hB'
      refine hK.out _ _ ⟨(bx _ hB).1, (bx _ hB).2, hB⟩ (fun hHeld => ?_)
      clear hK K hB'
      (try simp only [Act.put, List.setIfInBounds_toArray, List.set_cons_zero, List.set_cons_succ, List.getElem_toArray, List.getElem_cons_zero, List.getElem_cons_succ])
      refine wpAnyH_ready (rs := [8]) (by kernel_rfl) (by simp) (AllReadyH.cons rfl (fun K hK => ?_) AllReadyH.nil)
      have z0 := cell_blk hE6 (i := 0) rfl
      have z1 : v3.frozen? ⟨t6, 0, none⟩ = false := by simp [World.frozen?, hE6]
      go_simp
      clear z0 z1
      obtain ⟨u8, hu8⟩ : ∃ v, Hid (v = v3.setCell ⟨t6, 0, none⟩ (.slice a9 (upL openB len l part t len.toNat).length c9)) := ⟨_, rfl⟩
      rw [← hu8.out]
      have hE7 : u8.heap[t7]? = some (.cells #[.int .i64 0] 3 (0, 0)) := by rw [hu8.out]; exact (Below.heap_setCell _ _ _ _ (by simpa using hne.symm)).trans hE7
      have hown : OwnsOff u8 W.heap.size 3 1 (.slice a9 (upL openB len l part t len.toNat).length c9) (upL openB len l part t len.toNat).length (icells (upL openB len l part t len.toNat)) := by
        rw [hu8.out]
        exact hown.kept (Only.setCell v3 ⟨t6, 0, none⟩ _) (fun g hg e => by obtain ⟨cs, h⟩ := hown.typed g hg; rw [show g = t6 from e, hE6] at h; cases h)
      have hE6 : u8.heap[t6]? = some (.cells #[.slice a9 (upL openB len l part t len.toNat).length c9] 32 (0, 0)) := by rw [hu8.out]; simp [World.setCell, Array.getElem?_modify, hE6]
      have hB' : Below W.heap.size W u8 := by rw [hu8.out]; exact hB.setCell (p := ⟨t6, 0, none⟩) h6W _
      clear hB hu8
      have hB := hB'
      refine hK.out _ _ ⟨(bx _ hB).1, (bx _ hB).2, hB⟩ (fun hHeld => ?_)
      clear hK K hB'
      (try simp only [Act.put, List.setIfInBounds_toArray, List.set_cons_zero, List.set_cons_succ, List.getElem_toArray, List.getElem_cons_zero, List.getElem_cons_succ])
      refine wpAnyH_ready (rs := [9]) (by kernel_rfl) (by simp) (AllReadyH.cons rfl (fun K hK => ?_) AllReadyH.nil)
      have z0 := cell_blk hE7 (i := 0) rfl
      have z1 : u8.frozen? ⟨t7, 0, none⟩ = false := by simp [World.frozen?, hE7]
      go_simp
      clear z0 z1
      obtain ⟨u9, hu9⟩ : ∃ v, Hid (v = u8.setCell ⟨t7, 0, none⟩ (.int .i64 len)) := ⟨_, rfl⟩
      rw [← hu9.out]
      have hE6 : u9.heap[t6]? = some (.cells #[.slice a9 (upL openB len l part t len.toNat).length c9] 32 (0, 0)) := by rw [hu9.out]; exact (Below.heap_setCell _ _ _ _ (by simpa using hne)).trans hE6
      have hown : OwnsOff u9 W.heap.size 3 1 (.slice a9 (upL openB len l part t len.toNat).length c9) (upL openB len l part t len.toNat).length (icells (upL openB len l part t len.toNat)) := by
        rw [hu9.out]
        exact hown.kept (Only.setCell u8 ⟨t7, 0, none⟩ _) (fun g hg e => hv7 g hg e)
      have hE7 : u9.heap[t7]? = some (.cells #[.int .i64 len] 3 (0, 0)) := by rw [hu9.out]; simp [World.setCell, Array.getElem?_modify, hE7]
      have hB' : Below W.heap.size W u9 := by rw [hu9.out]; exact hB.setCell (p := ⟨t7, 0, none⟩) h7W _
      clear hB hu9
      have hB := hB'
      refine hK.out _ _ ⟨(bx _ hB).1, (bx _ hB).2, hB⟩ (fun hHeld => ?_)
      clear hK K hB'
      (try simp only [Act.put, List.setIfInBounds_toArray, List.set_cons_zero, List.set_cons_succ, List.getElem_toArray, List.getElem_cons_zero, List.getElem_cons_succ])
      refine wpAnyH_done (by kernel_rfl) ?_ _
      have HE6 := Lib.hid hE6; have HE7 := Lib.hid hE7; have HOWN := Lib.hid hown; have HBB := Lib.hid hB; have H67 := Lib.hid (And.intro h6W (And.intro h7W hne))
      clear hE6 hE7 hown hB hHeld h6W h7W hne hv7
      go_wp2
      go_ret
      exact gives_ticks HB.out HE6.out HE7.out HOWN.out HBB.out H67.out
  · go_simp
    obtain ⟨v1, hv1⟩ : ∃ v, Hid (v = X0.alloc (.cells #[.int .i64 0] 3)) := ⟨_, rfl⟩
    rw [← hv1.out]
    have hl : Below X0.heap.size X0 v1 := by rw [hv1.out]; exact (Below.refl _ _).alloc (Nat.le_refl _) _
    obtain ⟨t7, ht7⟩ : ∃ n, n = X0.heap.size := ⟨_, rfl⟩
    have hE7 : v1.heap[t7]? = some (.cells #[.int .i64 0] 3 (0, 0)) := by rw [ht7, hv1.out]; exact heap_alloc_new _ _
    have h7W : W.heap.size ≤ t7 := by rw [ht7]; exact hB.size
    simp only [← ht7]
    have hB' := hB.trans (hl.mono hB.size)
    clear hl hB hv1 ht7
    have hB := hB'
    refine hK.out _ _ ⟨(bx _ hB).1, (bx _ hB).2, hB⟩ (fun hHeld => ?_)
    clear hK K hB'
    (try simp only [Act.put, List.setIfInBounds_toArray, List.set_cons_zero, List.set_cons_succ, List.getElem_toArray, List.getElem_cons_zero, List.getElem_cons_succ])
    refine wpAnyH_ready (rs := [3, 6]) (by kernel_rfl) (by simp) (AllReadyH.cons rfl (fun K hK => ?_) (AllReadyH.cons rfl (fun K hK => ?_) AllReadyH.nil))
    · go_simp
      refine (turn_open_b len l A c part t v1 (hfW.later hB) HR.out h0 (by omega)).mono ?_
      rintro e v2 ⟨v, rfl, hown, hl⟩
      have hB' := hB.trans (hl.mono hB.size)
      obtain ⟨a9, c9, rfl, _⟩ := hown.slice
      have hv7 : ∀ g, (Value.slice a9 (upL openB len l part t len.toNat).length c9).ownBlock = some g → g ≠ t7 := fun g hg => by have h1 := (hown.lt g hg).1; have h2 := (Array.getElem?_eq_some_iff.1 hE7).1; omega
      have hE7 := (hl.block t7 (Array.getElem?_eq_some_iff.1 hE7).1).trans hE7
      have hown := hown.mono hB.size
      clear hl hB
      have hB := hB'
      refine hK.out _ _ ⟨(bx _ hB).1, (bx _ hB).2, hB⟩ (fun hHeld => ?_)
      clear hK K hB'
      (try simp only [Act.put, List.setIfInBounds_toArray, List.set_cons_zero, List.set_cons_succ, List.getElem_toArray, List.getElem_cons_zero, List.getElem_cons_succ])
      refine wpAnyH_ready (rs := [6]) (by kernel_rfl) (by simp) (AllReadyH.cons rfl (fun K hK => ?_) AllReadyH.nil)
      go_simp
      obtain ⟨v3, hv3⟩ : ∃ v, Hid (v = v2.alloc (.cells #[.slice none 0 0] 32)) := ⟨_, rfl⟩
      rw [← hv3.out]
      have hl : Below v2.heap.size v2 v3 := by rw [hv3.out]; exact (Below.refl _ _).alloc (Nat.le_refl _) _
      obtain ⟨t6, ht6⟩ : ∃ n, n = v2.heap.size := ⟨_, rfl⟩
      have hne : t6 ≠ t7 := by have := (Array.getElem?_eq_some_iff.1 hE7).1; omega
      have hown := hown.keptB hl
      have hE7 := (hl.block t7 (Array.getElem?_eq_some_iff.1 hE7).1).trans hE7
      have hE6 : v3.heap[t6]? = some (.cells #[.slice none 0 0] 32 (0, 0)) := by rw [ht6, hv3.out]; exact heap_alloc_new _ _
      have h6W : W.heap.size ≤ t6 := by rw [ht6]; exact hB.size
      simp only [← ht6]
      have hB' := hB.trans (hl.mono hB.size)
      clear hl hB hv3 ht6
      have hB := hB'
      refine hK.out _ _ ⟨(bx _ hB).1, (bx _ hB).2, hB⟩ (fun hHeld => ?_)
      clear hK K hB'
      (try simp only [Act.put, List.setIfInBounds_toArray, List.set_cons_zero, List.set_cons_succ, List.getElem_toArray, List.getElem_cons_zero, List.getElem_cons_succ])
      refine wpAnyH_ready (rs := [8]) (by kernel_rfl) (by simp) (AllReadyH.cons rfl (fun K hK => ?_) AllReadyH.nil)
      have z0 := cell_blk hE6 (i := 0) rfl
      have z1 : v3.frozen? ⟨t6, 0, none⟩ = false := by simp [World.frozen?, hE6]
      go_simp
      clear z0 z1
      obtain ⟨u8, hu8⟩ : ∃ v, Hid (v = v3.setCell ⟨t6, 0, none⟩ (.slice a9 (upL openB len l part t len.toNat).length c9)) := ⟨_, rfl⟩
      rw [← hu8.out]
      have hE7 : u8.heap[t7]? = some (.cells #[.int .i64 0] 3 (0, 0)) := by rw [hu8.out]; exact (Below.heap_setCell _ _ _ _ (by simpa using hne.symm)).trans hE7
      have hown : OwnsOff u8 W.heap.size 3 1 (.slice a9 (upL openB len l part t len.toNat).length c9) (upL openB len l part t len.toNat).length (icells (upL openB len l part t len.toNat)) := by
        rw [hu8.out]
        exact hown.kept (Only.setCell v3 ⟨t6, 0, none⟩ _) (fun g hg e => by obtain ⟨cs, h⟩ := hown.typed g hg; rw [show g = t6 from e, hE6] at h; cases h)
      have hE6 : u8.heap[t6]? = some (.cells #[.slice a9 (upL openB len l part t len.toNat).length c9] 32 (0, 0)) := by rw [hu8.out]; simp [World.setCell, Array.getElem?_modify, hE6]
      have hB' : Below W.heap.size W u8 := by rw [hu8.out]; exact hB.setCell (p := ⟨t6, 0, none⟩) h6W _
      clear hB hu8
      have hB := hB'
      refine hK.out _ _ ⟨(bx _ hB).1, (bx _ hB).2, hB⟩ (fun hHeld => ?_)
      clear hK K hB'
      (try simp only [Act.put, List.setIfInBounds_toArray, List.set_cons_zero, List.set_cons_succ, List.getElem_toArray, List.getElem_cons_zero, List.getElem_cons_succ])
      refine wpAnyH_ready (rs := [9]) (by kernel_rfl) (by simp) (AllReadyH.cons rfl (fun K hK => ?_) AllReadyH.nil)
      have z0 := cell_blk hE7 (i := 0) rfl
      have z1 : u8.frozen? ⟨t7, 0, none⟩ = false := by simp [World.frozen?, hE7]
      go_simp
      clear z0 z1
      obtain ⟨u9, hu9⟩ : ∃ v, Hid (v = u8.setCell ⟨t7, 0, none⟩ (.int .i64 len)) := ⟨_, rfl⟩
      rw [← hu9.out]
      have hE6 : u9.heap[t6]? = some (.cells #[.slice a9 (upL openB len l part t len.toNat).length c9] 32 (0, 0)) := by rw [hu9.out]; exact (Below.heap_setCell _ _ _ _ (by simpa using hne)).trans hE6
      have hown : OwnsOff u9 W.heap.size 3 1 (.slice a9 (upL openB len l part t len.toNat).length c9) (upL openB len l part t len.toNat).length (icells (upL openB len l part t len.toNat)) := by
        rw [hu9.out]
        exact hown.kept (Only.setCell u8 ⟨t7, 0, none⟩ _) (fun g hg e => hv7 g hg e)
      have hE7 : u9.heap[t7]? = some (.cells #[.int .i64 len] 3 (0, 0)) := by rw [hu9.out]; simp [World.setCell, Array.getElem?_modify, hE7]
      have hB' : Below W.heap.size W u9 := by rw [hu9.out]; exact hB.setCell (p := ⟨t7, 0, none⟩) h7W _
      clear hB hu9
      have hB := hB'
      refine hK.out _ _ ⟨(bx _ hB).1, (bx _ hB).2, hB⟩ (fun hHeld => ?_)
      clear hK K hB'
      (try simp only [Act.put, List.setIfInBounds_toArray, List.set_cons_zero, List.set_cons_succ, List.getElem_toArray, List.getElem_cons_zero, List.getElem_cons_succ])
      refine wpAnyH_done (by kernel_rfl) ?_ _
      have HE6 := Lib.hid hE6; have HE7 := Lib.hid hE7; have HOWN := Lib.hid hown; have HBB := Lib.hid hB; have H67 := Lib.hid (And.intro h6W (And.intro h7W hne))
      clear hE6 hE7 hown hB hHeld h6W h7W hne hv7
      go_wp2
      go_ret
      exact gives_ticks HB.out HE6.out HE7.out HOWN.out HBB.out H67.out
    · go_simp
      obtain ⟨v2, hv2⟩ : ∃ v, Hid (v = v1.alloc (.cells #[.slice none 0 0] 32)) := ⟨_, rfl⟩
      rw [← hv2.out]
      have hl : Below v1.heap.size v1 v2 := by rw [hv2.out]; exact (Below.refl _ _).alloc (Nat.le_refl _) _
      obtain ⟨t6, ht6⟩ : ∃ n, n = v1.heap.size := ⟨_, rfl⟩
      have hne : t6 ≠ t7 := by have := (Array.getElem?_eq_some_iff.1 hE7).1; omega
      have hE7 := (hl.block t7 (Array.getElem?_eq_some_iff.1 hE7).1).trans hE7
      have hE6 : v2.heap[t6]? = some (.cells #[.slice none 0 0] 32 (0, 0)) := by rw [ht6, hv2.out]; exact heap_alloc_new _ _
      have h6W : W.heap.size ≤ t6 := by rw [ht6]; exact hB.size
      simp only [← ht6]
      have hB' := hB.trans (hl.mono hB.size)
      clear hl hB hv2 ht6
      have hB := hB'
      refine hK.out _ _ ⟨(bx _ hB).1, (bx _ hB).2, hB⟩ (fun hHeld => ?_)
      clear hK K hB'
      (try simp only [Act.put, List.setIfInBounds_toArray, List.set_cons_zero, List.set_cons_succ, List.getElem_toArray, List.getElem_cons_zero, List.getElem_cons_succ])
      refine wpAnyH_ready (rs := [3]) (by kernel_rfl) (by simp) (AllReadyH.cons rfl (fun K hK => ?_) AllReadyH.nil)
      go_simp
      refine (turn_open_b len l A c part t v2 (hfW.later hB) HR.out h0 (by omega)).mono ?_
      rintro e v3 ⟨v, rfl, hown, hl⟩
      have hB' := hB.trans (hl.mono hB.size)
      obtain ⟨a9, c9, rfl, _⟩ := hown.slice
      have hv7 : ∀ g, (Value.slice a9 (upL openB len l part t len.toNat).length c9).ownBlock = some g → g ≠ t7 := fun g hg => by have h1 := (hown.lt g hg).1; have h2 := (Array.getElem?_eq_some_iff.1 hE7).1; omega
      have hE6 := (hl.block t6 (Array.getElem?_eq_some_iff.1 hE6).1).trans hE6
      have hE7 := (hl.block t7 (Array.getElem?_eq_some_iff.1 hE7).1).trans hE7
      have hown := hown.mono hB.size
      clear hl hB
      have hB := hB'
      refine hK.out _ _ ⟨(bx _ hB).1, (bx _ hB).2, hB⟩ (fun hHeld => ?_)
      clear hK K hB'
      (try simp only [Act.put, List.setIfInBounds_toArray, List.set_cons_zero, List.set_cons_succ, List.getElem_toArray, List.getElem_cons_zero, List.getElem_cons_succ])
      refine wpAnyH_ready (rs := [8]) (by kernel_rfl) (by simp) (AllReadyH.cons rfl (fun K hK => ?_) AllReadyH.nil)
      have z0 := cell_blk hE6 (i := 0) rfl
      have z1 : v3.frozen? ⟨t6, 0, none⟩ = false := by simp [World.frozen?, hE6]
      go_simp
      clear z0 z1
      obtain ⟨u8, hu8⟩ : ∃ v, Hid (v = v3.setCell ⟨t6, 0, none⟩ (.slice a9 (upL openB len l part t len.toNat).length c9)) := ⟨_, rfl⟩
      rw [← hu8.out]
      have hE7 : u8.heap[t7]? = some (.cells #[.int .i64 0] 3 (0, 0)) := by rw [hu8.out]; exact (Below.heap_setCell _ _ _ _ (by simpa using hne.symm)).trans hE7
      have hown : OwnsOff u8 W.heap.size 3 1 (.slice a9 (upL openB len l part t len.toNat).length c9) (upL openB len l part t len.toNat).length (icells (upL openB len l part t len.toNat)) := by
        rw [hu8.out]
        exact hown.kept (Only.setCell v3 ⟨t6, 0, none⟩ _) (fun g hg e => by obtain ⟨cs, h⟩ := hown.typed g hg; rw [show g = t6 from e, hE6] at h; cases h)
      have hE6 : u8.heap[t6]? = some (.cells #[.slice a9 (upL openB len l part t len.toNat).length c9] 32 (0, 0)) := by rw [hu8.out]; simp [World.setCell, Array.getElem?_modify, hE6]
      have hB' : Below W.heap.size W u8 := by rw [hu8.out]; exact hB.setCell (p := ⟨t6, 0, none⟩) h6W _
      clear hB hu8
      have hB := hB'
      refine hK.out _ _ ⟨(bx _ hB).1, (bx _ hB).2, hB⟩ (fun hHeld => ?_)
      clear hK K hB'
      (try simp only [Act.put, List.setIfInBounds_toArray, List.set_cons_zero, List.set_cons_succ, List.getElem_toArray, List.getElem_cons_zero, List.getElem_cons_succ])
      refine wpAnyH_ready (rs := [9]) (by kernel_rfl) (by simp) (AllReadyH.cons rfl (fun K hK => ?_) AllReadyH.nil)
      have z0 := cell_blk hE7 (i := 0) rfl
      have z1 : u8.frozen? ⟨t7, 0, none⟩ = false := by simp [World.frozen?, hE7]
      go_simp
      clear z0 z1
      obtain ⟨u9, hu9⟩ : ∃ v, Hid (v = u8.setCell ⟨t7, 0, none⟩ (.int .i64 len)) := ⟨_, rfl⟩
      rw [← hu9.out]
      have hE6 : u9.heap[t6]? = some (.cells #[.slice a9 (upL openB len l part t len.toNat).length c9] 32 (0, 0)) := by rw [hu9.out]; exact (Below.heap_setCell _ _ _ _ (by simpa using hne)).trans hE6
      have hown : OwnsOff u9 W.heap.size 3 1 (.slice a9 (upL openB len l part t len.toNat).length c9) (upL openB len l part t len.toNat).length (icells (upL openB len l part t len.toNat)) := by
        rw [hu9.out]
        exact hown.kept (Only.setCell u8 ⟨t7, 0, none⟩ _) (fun g hg e => hv7 g hg e)
      have hE7 : u9.heap[t7]? = some (.cells #[.int .i64 len] 3 (0, 0)) := by rw [hu9.out]; simp [World.setCell, Array.getElem?_modify, hE7]
      have hB' : Below W.heap.size W u9 := by rw [hu9.out]; exact hB.setCell (p := ⟨t7, 0, none⟩) h7W _
      clear hB hu9
      have hB := hB'
      refine hK.out _ _ ⟨(bx _ hB).1, (bx _ hB).2, hB⟩ (fun hHeld => ?_)
      clear hK K hB'
      (try simp only [Act.put, List.setIfInBounds_toArray, List.set_cons_zero, List.set_cons_succ, List.getElem_toArray, List.getElem_cons_zero, List.getElem_cons_succ])
      refine wpAnyH_done (by kernel_rfl) ?_ _
      have HE6 := Lib.hid hE6; have HE7 := Lib.hid hE7; have HOWN := Lib.hid hown; have HBB := Lib.hid hB; have H67 := Lib.hid (And.intro h6W (And.intro h7W hne))
      clear hE6 hE7 hown hB hHeld h6W h7W hne hv7
      go_wp2
      go_ret
      exact gives_ticks HB.out HE6.out HE7.out HOWN.out HBB.out H67.out
end Go.Proofs.Ytfnpdoppdbhlcaa
