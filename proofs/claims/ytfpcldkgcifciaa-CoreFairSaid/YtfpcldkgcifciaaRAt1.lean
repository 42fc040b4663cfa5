/- The document's at, At, Enters, as contracts. No condition but those in the statements. -/
import Derived.Test.YtfpcldkgcifciaaAt
import Derived.BigQuiet
import Derived.IntWalk
import Derived.BigRegion
import Derived.OpenShut
namespace Go.Proofs.Ytfpcldkgcifciaa
open Go.RowKit Go.Sort Go.ChangeShapes Go.WideShapes
set_option linter.unusedVariables false
set_option linter.unusedSimpArgs false


theorem atI_yes {len : Int} {l : List (List Int)} {t p : Int} (hm : mayB len l t = true) (hp : t % len = p) : atI len l t = numI (whoI openB l p) := by unfold atI; rw [if_pos hm, hp]
theorem atI_no {len : Int} {l : List (List Int)} {t : Int} (hm : mayB len l t = false) : atI len l t = -1 := by unfold atI; rw [if_neg (by rw [hm]; decide)]
set_option maxRecDepth 100000 in
set_option maxHeartbeats 4000000 in
theorem rat1_b (len : Int) (l : List (List Int)) (A : Option Addr) (c : Nat) (t : Int) (w : World) (hf : FIn w len l A) : Calls Try.prog 27 #[.agg #[.int .i64 len, .slice A l.length c], .int .i64 t] w fun e w' => e = .returned (.int .i64 (atI len l t)) ∧ Below w.heap.size w w' := by
  obtain ⟨W, HW, hB, hWs, bx⟩ := fbox_new w len A l.length c 26
  have hfW := hf.later hB
  have HB := Lib.hid hB
  clear hB hf
  obtain ⟨c0, c1⟩ := bx _ (Below.refl _ _)
  cases hq : mayB len l t with
  | false =>
    have HQ := Lib.hid hq
    have HX := Lib.hid (atI_no hq)
    clear hq
    go_enter Try.func27, Try.ntmps27
    go_wp2_with (first | (rw [← HW.out]) | fail)
    refine (rtick_is len l A c t false _ hfW HQ.out).mono ?_
    rintro e w5 ⟨rfl, hb5⟩
    go_wp2
    go_ret
    exact ⟨by rw [HX.out]; rfl, HB.out.trans (hb5.mono HB.out.size)⟩
  | true =>
    have HQ := Lib.hid hq
    obtain ⟨hR, h0, h1, -⟩ := may_rt hq
    have hlo := hR.lo
    have hhi := hR.hi
    have HR := Lib.hid hR
    have hln : l.length ≤ 16 := hR.few
    have hrem : t.tmod len = t % len := Int.tmod_eq_emod_of_nonneg h0
    have hp0 := Int.emod_nonneg t (show len ≠ 0 by omega)
    have hp1 := Int.emod_lt_of_pos t (show 0 < len by omega)
    obtain ⟨p, hp⟩ : ∃ p, t % len = p := ⟨_, rfl⟩
    have HA := Lib.hid (atI_yes hq hp)
    rw [hp] at hrem hp0 hp1
    have hz : ¬ len = 0 := by omega
    have hza : (len == 0) = false := by simp [hz]
    clear hp hR hq
    go_enter Try.func27, Try.ntmps27
    go_wp2_with (first | (rw [← HW.out]) | fail)
    refine (rtick_is len l A c t true _ hfW HQ.out).mono ?_
    rintro e w5 ⟨rfl, hb5⟩
    have H5 := Lib.hid hb5
    clear hb5 c0 c1
    go_wp2
    go_loopw [5, 6] (fun ix pv wr => ∃ i : Nat, i ≤ l.length ∧ ix = .int .i64 i ∧ scan i (fun j => openB p (row l j)) = false ∧ Below W.heap.size W wr) (fun ix _ _ => l.length - (intOf ix).toNat)
    case atStart => exact ⟨0, Nat.zero_le _, rfl, rfl, H5.out⟩
    case round =>
      obtain ⟨i, hi, rfl, ht, hbc⟩ := hrel
      have HT := Lib.hid ht
      clear ht
      obtain ⟨c0, c1⟩ := bx _ hbc
      by_cases hlt : i < l.length
      · obtain ⟨b, o, x0, x1, x2, e0, hbl, e1, ⟨hw0, hw1, hw2⟩, k0⟩ := hfW.row.at3 hfW.wf hlt
        subst e0
        have E1 := Lib.hid e1
        obtain ⟨hy0, hy1, hy2⟩ : 0 ≤ x1 ∧ 1 ≤ x2 ∧ x1 + x2 ≤ 64 := by
          have h := HR.out.ok i hlt
          rw [row_at e1] at h
          have h2 : 0 ≤ endAt l i ∧ endAt l i ≤ x1 ∧ 1 ≤ x2 ∧ x1 + x2 ≤ len := h
          omega
        have HBC := Lib.hid hbc
        have k0 := k0 _ hbc
        obtain ⟨p0, p1, p2⟩ := k0
        have f0 : ∀ p : Regrown, (grow (redrawn wr p.d) p.os).cell? ⟨w.heap.size, 0, none⟩ = some (.int .i64 len) := fun p => cell_regrown (c0) p.d p.os
        have f1 : ∀ p : Regrown, (grow (redrawn wr p.d) p.os).cell? ⟨w.heap.size, 1, none⟩ = some (.slice (some ⟨b, o, none⟩) l.length c) := fun p => cell_regrown (c1) p.d p.os
        have s0 : ∀ p : Regrown, (grow (redrawn wr p.d) p.os).cell? ⟨b, o + i * 3, none⟩ = some (.int .i64 x0) := fun p => cell_regrown (p0) p.d p.os
        have s1 : ∀ p : Regrown, (grow (redrawn wr p.d) p.os).cell? ⟨b, o + i * 3 + 1, none⟩ = some (.int .i64 x1) := fun p => cell_regrown (p1) p.d p.os
        have s2 : ∀ p : Regrown, (grow (redrawn wr p.d) p.os).cell? ⟨b, o + i * 3 + 2, none⟩ = some (.int .i64 x2) := fun p => cell_regrown (p2) p.d p.os
        have hbq := Below.refl wr.heap.size wr
        have hg0 : (i : Int) < (l.length : Int) := by omega
        have hg1 : (0 : Int) ≤ (i : Int) := by omega
        clear e1 hbc p0 p1 p2 c0 c1
        by_cases h1 : x1 ≤ p
        · by_cases h2 : p - x1 < x2
          · have HX := Lib.hid (who_hit (is := openB) HT.out hlt (by rw [row_at E1.out]; exact (show decide (x1 ≤ p ∧ p < x1 + x2) = true from decide_eq_true (by omega))))
            go_wp2_with ((first | with_reducible refine wpList_on hbq ?_ | with_reducible refine wp_on hbq (by kernel_rfl) (by kernel_rfl) ?_); (repeat (go_big_quiet_step (fail))); with_reducible refine wpQuiet_nil ?_; intro wc hbq)
            go_ret
            exact ⟨by rw [HA.out, HX.out]; rfl, HB.out.trans ((HBC.out.trans (hbq.mono HBC.out.size)).mono HB.out.size)⟩
          · have h2d : decide (p - x1 < x2) = false := decide_eq_false h2
            have HX := Lib.hid (show scan (i + 1) (fun j => openB p (row l j)) = false from scan_next HT.out (by rw [row_at E1.out]; exact (show decide (x1 ≤ p ∧ p < x1 + x2) = false from decide_eq_false (by omega))))
            go_wp2_with ((first | with_reducible refine wpList_on hbq ?_ | with_reducible refine wp_on hbq (by kernel_rfl) (by kernel_rfl) ?_); (repeat (go_big_quiet_step (fail))); with_reducible refine wpQuiet_nil ?_; intro wc hbq)
            go_roundw
            case rel => exact ⟨i + 1, by omega, by go_num, HX.out, HBC.out.trans (hbq.mono HBC.out.size)⟩
            case measure => simp [intOf]; omega
        · have h1d : decide (x1 ≤ p) = false := decide_eq_false h1
          have HX := Lib.hid (show scan (i + 1) (fun j => openB p (row l j)) = false from scan_next HT.out (by rw [row_at E1.out]; exact (show decide (x1 ≤ p ∧ p < x1 + x2) = false from decide_eq_false (by omega))))
          go_wp2_with ((first | with_reducible refine wpList_on hbq ?_ | with_reducible refine wp_on hbq (by kernel_rfl) (by kernel_rfl) ?_); (repeat (go_big_quiet_step (fail))); with_reducible refine wpQuiet_nil ?_; intro wc hbq)
          go_roundw
          case rel => exact ⟨i + 1, by omega, by go_num, HX.out, HBC.out.trans (hbq.mono HBC.out.size)⟩
          case measure => simp [intOf]; omega
      · have HS := Lib.hid (show whoI openB l p = none from who_miss (by have h := HT.out; rw [show i = l.length by omega] at h; exact h))
        clear HT
        go_wp2
        go_ret
        exact ⟨by rw [HA.out, HS.out]; rfl, HB.out.trans (hbc.mono HB.out.size)⟩
end Go.Proofs.Ytfpcldkgcifciaa
