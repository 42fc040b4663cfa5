/- whose, at both predicates, as a contract. No condition but those in the statements. -/
import Derived.Test.YtfpcldkgcifciaaSmall
import Derived.BigQuiet
import Derived.IntWalk
import Derived.BigRegion
import Derived.OpenShut
namespace Go.Proofs.Ytfpcldkgcifciaa
open Go.RowKit Go.Sort Go.ChangeShapes Go.WideShapes
set_option linter.unusedVariables false
set_option linter.unusedSimpArgs false


set_option maxRecDepth 100000 in
set_option maxHeartbeats 4000000 in
theorem whose_open_b (len : Int) (l : List (List Int)) (A : Option Addr) (c : Nat) (t : Int) (w : World) (hf : FIn w len l A) (hR : Rt len l) (h0 : 0 ≤ t) (h1 : t ≤ 2199023255552) : Calls Try.prog 25 #[.agg #[.int .i64 len, .slice A l.length c], .int .i64 t, .func (.func 26) #[] #[]] w fun e w' => e = .returned (ptV (whoO openB l (t % len))) ∧ Below w.heap.size w w' := by
  obtain ⟨W, HW, hB, hWs, bx⟩ := fbox_new w len A l.length c 26
  have hfW := hf.later hB
  have HB := Lib.hid hB
  clear hB hf
  have hlo := hR.lo
  have hhi := hR.hi
  have HR := Lib.hid hR
  have hln : l.length ≤ 16 := hR.few
  have hrem : t.tmod len = t % len := Int.tmod_eq_emod_of_nonneg h0
  have hp0 := Int.emod_nonneg t (show len ≠ 0 by omega)
  have hp1 := Int.emod_lt_of_pos t (show 0 < len by omega)
  obtain ⟨p, hp⟩ : ∃ p, t % len = p := ⟨_, rfl⟩
  rw [hp] at hrem hp0 hp1 ⊢
  have hz : ¬ len = 0 := by omega
  have hza : (len == 0) = false := by simp [hz]
  clear hp hR
  obtain ⟨c0, c1⟩ := bx _ (Below.refl _ _)
  go_enter Try.func25, Try.ntmps25
  go_wp2_with (rw [← HW.out])
  clear c0 c1
  go_loopw [13] (fun ix wr => ∃ i : Nat, i ≤ l.length ∧ ix = .int .i64 i ∧ scan i (fun j => openB p (row l j)) = false ∧ Below W.heap.size W wr) (fun ix _ => l.length - (intOf ix).toNat)
  case atStart => exact ⟨0, Nat.zero_le _, rfl, rfl, Below.refl _ _⟩
  case round =>
    obtain ⟨i, hi, rfl, ht, hbc⟩ := hrel
    have HT := Lib.hid ht
    clear ht
    by_cases hlt : i < l.length
    · obtain ⟨b, o, x0, x1, x2, e0, hbl, e1, ⟨hw0, hw1, hw2⟩, k0⟩ := hfW.row.at3 hfW.wf hlt
      subst e0
      have E1 := Lib.hid e1
      have HWX : Hid (0 ≤ x1 ∧ 1 ≤ x2 ∧ x1 + x2 ≤ 64) := Lib.hid (by
        have h := HR.out.ok i hlt
        rw [row_at e1] at h
        have h2 : 0 ≤ endAt l i ∧ endAt l i ≤ x1 ∧ 1 ≤ x2 ∧ x1 + x2 ≤ len := h
        omega)
      obtain ⟨wa, hwa⟩ : ∃ u, Hid (u = wr.alloc (.cells #[.int .i64 x0, .int .i64 x1, .int .i64 x2] 49)) := ⟨_, rfl⟩
      have hba : Below wr.heap.size wr wa := by rw [hwa.out]; exact (Below.refl _ _).alloc (Nat.le_refl _) _
      have hxa : wa.heap[wr.heap.size]? = some (.cells #[.int .i64 x0, .int .i64 x1, .int .i64 x2] 49 (0, 0)) := by rw [hwa.out]; exact heap_alloc_new _ _
      have hwb := hbc.trans (hba.mono hbc.size)
      have HWB := Lib.hid hwb
      obtain ⟨d0, d1⟩ := bx _ hwb
      have k0 := k0 _ hbc
      obtain ⟨p0, p1, p2⟩ := k0
      have f0 : ∀ p : Regrown, (grow (redrawn wa p.d) p.os).cell? ⟨w.heap.size, 0, none⟩ = some (.int .i64 len) := fun p => cell_regrown (d0) p.d p.os
      have f1 : ∀ p : Regrown, (grow (redrawn wa p.d) p.os).cell? ⟨w.heap.size, 1, none⟩ = some (.slice (some ⟨b, o, none⟩) l.length c) := fun p => cell_regrown (d1) p.d p.os
      have a0 : ∀ p : Regrown, (grow (redrawn wa p.d) p.os).cell? ⟨wr.heap.size, 0, none⟩ = some (.int .i64 x0) := fun p => cell_regrown (cell_blk hxa (i := 0) rfl) p.d p.os
      have a1 : ∀ p : Regrown, (grow (redrawn wa p.d) p.os).cell? ⟨wr.heap.size, 1, none⟩ = some (.int .i64 x1) := fun p => cell_regrown (cell_blk hxa (i := 1) rfl) p.d p.os
      have a2 : ∀ p : Regrown, (grow (redrawn wa p.d) p.os).cell? ⟨wr.heap.size, 2, none⟩ = some (.int .i64 x2) := fun p => cell_regrown (cell_blk hxa (i := 2) rfl) p.d p.os
      have hbq := Below.refl wa.heap.size wa
      clear e1 d0 d1 hba hwb hxa hbc
      cases hq : openB p [x0, x1, x2] with
      | true =>
        have HQ := Lib.hid hq
        have HX := Lib.hid (who_hitO HT.out E1.out hq)
        clear hq
        go_wp2_with (first | (rw [← hwa.out]) | ((first | with_reducible refine wpList_on hbq ?_ | with_reducible refine wp_on hbq (by kernel_rfl) (by kernel_rfl) ?_); (repeat (go_big_quiet_step ((go_at_call 26; exact Calls.regrown_of (isOpen_is _ _ _ _ _ _ HWX.out HQ.out))))); with_reducible refine wpQuiet_nil ?_; intro wc hbq))
        go_ret2
        exact ⟨by rw [HX.out]; rfl, HB.out.trans ((HWB.out.trans (hbq.mono HWB.out.size)).mono HB.out.size)⟩
      | false =>
        have HQ := Lib.hid hq
        have HX := Lib.hid (show scan (i + 1) (fun j => openB p (row l j)) = false from scan_next HT.out (by rw [row_at E1.out]; exact hq))
        clear hq
        go_wp2_with (first | (rw [← hwa.out]) | ((first | with_reducible refine wpList_on hbq ?_ | with_reducible refine wp_on hbq (by kernel_rfl) (by kernel_rfl) ?_); (repeat (go_big_quiet_step ((go_at_call 26; exact Calls.regrown_of (isOpen_is _ _ _ _ _ _ HWX.out HQ.out))))); with_reducible refine wpQuiet_nil ?_; intro wc hbq))
        go_roundw
        case rel => exact ⟨i + 1, by omega, by go_num, HX.out, HWB.out.trans (hbq.mono HWB.out.size)⟩
        case measure => simp [intOf]; omega
    · have HS := Lib.hid (show whoO openB l p = none from who_missO (by have h := HT.out; rw [show i = l.length by omega] at h; exact h))
      clear HT
      go_wp2
      go_ret2
      exact ⟨by rw [HS.out]; rfl, HB.out.trans (hbc.mono HB.out.size)⟩

set_option maxRecDepth 100000 in
set_option maxHeartbeats 4000000 in
theorem whose_ent_b (len : Int) (l : List (List Int)) (A : Option Addr) (c : Nat) (t : Int) (w : World) (hf : FIn w len l A) (hR : Rt len l) (h0 : 0 ≤ t) (h1 : t ≤ 2199023255552) : Calls Try.prog 25 #[.agg #[.int .i64 len, .slice A l.length c], .int .i64 t, .func (.func 28) #[] #[]] w fun e w' => e = .returned (ptV (whoO entB l (t % len))) ∧ Below w.heap.size w w' := by
  obtain ⟨W, HW, hB, hWs, bx⟩ := fbox_new w len A l.length c 26
  have hfW := hf.later hB
  have HB := Lib.hid hB
  clear hB hf
  have hlo := hR.lo
  have hhi := hR.hi
  have HR := Lib.hid hR
  have hln : l.length ≤ 16 := hR.few
  have hrem : t.tmod len = t % len := Int.tmod_eq_emod_of_nonneg h0
  have hp0 := Int.emod_nonneg t (show len ≠ 0 by omega)
  have hp1 := Int.emod_lt_of_pos t (show 0 < len by omega)
  obtain ⟨p, hp⟩ : ∃ p, t % len = p := ⟨_, rfl⟩
  rw [hp] at hrem hp0 hp1 ⊢
  have hz : ¬ len = 0 := by omega
  have hza : (len == 0) = false := by simp [hz]
  clear hp hR
  obtain ⟨c0, c1⟩ := bx _ (Below.refl _ _)
  go_enter Try.func25, Try.ntmps25
  go_wp2_with (rw [← HW.out])
  clear c0 c1
  go_loopw [13] (fun ix wr => ∃ i : Nat, i ≤ l.length ∧ ix = .int .i64 i ∧ scan i (fun j => entB p (row l j)) = false ∧ Below W.heap.size W wr) (fun ix _ => l.length - (intOf ix).toNat)
  case atStart => exact ⟨0, Nat.zero_le _, rfl, rfl, Below.refl _ _⟩
  case round =>
    obtain ⟨i, hi, rfl, ht, hbc⟩ := hrel
    have HT := Lib.hid ht
    clear ht
    by_cases hlt : i < l.length
    · obtain ⟨b, o, x0, x1, x2, e0, hbl, e1, ⟨hw0, hw1, hw2⟩, k0⟩ := hfW.row.at3 hfW.wf hlt
      subst e0
      have E1 := Lib.hid e1
      have HWX : Hid (0 ≤ x1 ∧ 1 ≤ x2 ∧ x1 + x2 ≤ 64) := Lib.hid (by
        have h := HR.out.ok i hlt
        rw [row_at e1] at h
        have h2 : 0 ≤ endAt l i ∧ endAt l i ≤ x1 ∧ 1 ≤ x2 ∧ x1 + x2 ≤ len := h
        omega)
      obtain ⟨wa, hwa⟩ : ∃ u, Hid (u = wr.alloc (.cells #[.int .i64 x0, .int .i64 x1, .int .i64 x2] 49)) := ⟨_, rfl⟩
      have hba : Below wr.heap.size wr wa := by rw [hwa.out]; exact (Below.refl _ _).alloc (Nat.le_refl _) _
      have hxa : wa.heap[wr.heap.size]? = some (.cells #[.int .i64 x0, .int .i64 x1, .int .i64 x2] 49 (0, 0)) := by rw [hwa.out]; exact heap_alloc_new _ _
      have hwb := hbc.trans (hba.mono hbc.size)
      have HWB := Lib.hid hwb
      obtain ⟨d0, d1⟩ := bx _ hwb
      have k0 := k0 _ hbc
      obtain ⟨p0, p1, p2⟩ := k0
      have f0 : ∀ p : Regrown, (grow (redrawn wa p.d) p.os).cell? ⟨w.heap.size, 0, none⟩ = some (.int .i64 len) := fun p => cell_regrown (d0) p.d p.os
      have f1 : ∀ p : Regrown, (grow (redrawn wa p.d) p.os).cell? ⟨w.heap.size, 1, none⟩ = some (.slice (some ⟨b, o, none⟩) l.length c) := fun p => cell_regrown (d1) p.d p.os
      have a0 : ∀ p : Regrown, (grow (redrawn wa p.d) p.os).cell? ⟨wr.heap.size, 0, none⟩ = some (.int .i64 x0) := fun p => cell_regrown (cell_blk hxa (i := 0) rfl) p.d p.os
      have a1 : ∀ p : Regrown, (grow (redrawn wa p.d) p.os).cell? ⟨wr.heap.size, 1, none⟩ = some (.int .i64 x1) := fun p => cell_regrown (cell_blk hxa (i := 1) rfl) p.d p.os
      have a2 : ∀ p : Regrown, (grow (redrawn wa p.d) p.os).cell? ⟨wr.heap.size, 2, none⟩ = some (.int .i64 x2) := fun p => cell_regrown (cell_blk hxa (i := 2) rfl) p.d p.os
      have hbq := Below.refl wa.heap.size wa
      clear e1 d0 d1 hba hwb hxa hbc
      cases hq : entB p [x0, x1, x2] with
      | true =>
        have HQ := Lib.hid hq
        have HX := Lib.hid (who_hitO HT.out E1.out hq)
        clear hq
        go_wp2_with (first | (rw [← hwa.out]) | ((first | with_reducible refine wpList_on hbq ?_ | with_reducible refine wp_on hbq (by kernel_rfl) (by kernel_rfl) ?_); (repeat (go_big_quiet_step ((go_at_call 28; exact Calls.regrown_of (isEnt_is _ _ _ _ _ _ HWX.out HQ.out))))); with_reducible refine wpQuiet_nil ?_; intro wc hbq))
        go_ret2
        exact ⟨by rw [HX.out]; rfl, HB.out.trans ((HWB.out.trans (hbq.mono HWB.out.size)).mono HB.out.size)⟩
      | false =>
        have HQ := Lib.hid hq
        have HX := Lib.hid (show scan (i + 1) (fun j => entB p (row l j)) = false from scan_next HT.out (by rw [row_at E1.out]; exact hq))
        clear hq
        go_wp2_with (first | (rw [← hwa.out]) | ((first | with_reducible refine wpList_on hbq ?_ | with_reducible refine wp_on hbq (by kernel_rfl) (by kernel_rfl) ?_); (repeat (go_big_quiet_step ((go_at_call 28; exact Calls.regrown_of (isEnt_is _ _ _ _ _ _ HWX.out HQ.out))))); with_reducible refine wpQuiet_nil ?_; intro wc hbq))
        go_roundw
        case rel => exact ⟨i + 1, by omega, by go_num, HX.out, HWB.out.trans (hbq.mono HWB.out.size)⟩
        case measure => simp [intOf]; omega
    · have HS := Lib.hid (show whoO entB l p = none from who_missO (by have h := HT.out; rw [show i = l.length by omega] at h; exact h))
      clear HT
      go_wp2
      go_ret2
      exact ⟨by rw [HS.out]; rfl, HB.out.trans (hbc.mono HB.out.size)⟩
end Go.Proofs.Ytfpcldkgcifciaa
