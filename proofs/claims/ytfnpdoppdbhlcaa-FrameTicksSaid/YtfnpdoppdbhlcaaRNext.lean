/- The document's Next, as a contract. No condition but those in the statements. -/
import Derived.Test.YtfnpdoppdbhlcaaRAt
import Derived.Test.YtfnpdoppdbhlcaaTurn
import Derived.BigQuiet
import Derived.IntWalk
import Derived.BigRegion
import Derived.OpenShut
namespace Go.Proofs.Ytfnpdoppdbhlcaa
open Go.RowKit Go.Sort Go.ChangeShapes Go.WideShapes
set_option linter.unusedVariables false
set_option linter.unusedSimpArgs false


/-- Has a window this Part, and does it start there? -/
def entP (l : List (List Int)) (part p : Int) (i : Nat) : Bool := decide (fld (row l i) 0 = part ∧ fld (row l i) 1 = p)
theorem hit_ent {len : Int} {l : List (List Int)} (h : Rt len l) {part n : Int} : hitB entB len l part n = true ↔ ∃ i, i < l.length ∧ fld (row l i) 0 = part ∧ fld (row l i) 1 = n % len := by
  unfold hitB
  rw [decide_eq_true_eq, who_iff (one_ent h)]
  constructor
  · rintro ⟨i, h1, h2, h3⟩; exact ⟨i, h1, h3, (of_decide_eq_true h2).symm⟩
  · rintro ⟨i, h1, h2, h3⟩; exact ⟨i, h1, decide_eq_true h3.symm, h2⟩
set_option maxRecDepth 100000 in
set_option maxHeartbeats 4000000 in
theorem rnext_b (len : Int) (l : List (List Int)) (A : Option Addr) (c : Nat) (part t : Int) (w : World) (hf : FIn w len l A) : Calls Try.prog 16 #[.agg #[.int .i64 len, .slice A l.length c], .int .i64 part, .int .i64 t] w fun e w' => e = .returned (ptV (nextO len l part t)) ∧ Below w.heap.size w w' := by
  obtain ⟨W, HW, hB, hWs, bx⟩ := fbox_new w len A l.length c 24
  have hfW := hf.later hB
  have HB := Lib.hid hB
  clear hB hf
  obtain ⟨c0, c1⟩ := bx _ (Below.refl _ _)
  cases hq : mayB len l t with
  | false =>
    have HQ := Lib.hid hq
    have HX := Lib.hid (next_none (part := part) hq)
    clear hq
    go_enter Try.func16, Try.ntmps16
    go_wp2_with (first | (rw [← HW.out]) | fail)
    refine (rtick_is len l A c t false _ hfW HQ.out).mono ?_
    rintro e w5 ⟨rfl, hb5⟩
    go_wp2
    go_ret2
    exact ⟨by rw [HX.out]; rfl, HB.out.trans (hb5.mono HB.out.size)⟩
  | true =>
    have HQ := Lib.hid hq
    obtain ⟨hR, h0, h1, -⟩ := may_rt hq
    have HR := Lib.hid hR
    have hhi := hR.hi
    have hlo := hR.lo
    have hln : l.length ≤ 16 := hR.few
    obtain ⟨m, hm⟩ := Int.eq_ofNat_of_zero_le (a := len) (by omega)
    subst hm
    clear hq hR
    go_enter Try.func16, Try.ntmps16
    go_wp2_with (first | (rw [← HW.out]) | fail)
    refine (rtick_is m l A c t true _ hfW HQ.out).mono ?_
    rintro e w5 ⟨rfl, hb5⟩
    have H5 := Lib.hid hb5
    clear hb5 c0 c1
    go_wp2
    go_loopw [8, 9] (fun nv iv wr => ∃ k : Nat, k ≤ m ∧ nv = .int .i64 (t + 1 + (k : Int)) ∧ upL entB m l part (t + 1) k = [] ∧ Below W.heap.size W wr) (fun nv _ _ => (t + 1 + m - intOf nv).toNat)
    case atStart => exact ⟨0, Nat.zero_le _, by go_num, rfl, H5.out⟩
    case round =>
      obtain ⟨k, hk, rfl, hup, hbo⟩ := hrel
      have HU := Lib.hid hup
      clear hup
      obtain ⟨c0, c1⟩ := bx _ hbo
      by_cases hlt : k < m
      · have hle : t + 1 + (k : Int) ≤ t + (m : Int) := by omega
        have hpe : (t + 1 + (k : Int)).tmod (m : Int) = (t + 1 + (k : Int)) % (m : Int) := Int.tmod_eq_emod_of_nonneg (by omega)
        have hp0 := Int.emod_nonneg (t + 1 + (k : Int)) (show (m : Int) ≠ 0 by omega)
        have hp1 := Int.emod_lt_of_pos (t + 1 + (k : Int)) (show (0 : Int) < (m : Int) by omega)
        have HIT : Hid ((∀ p, (t + 1 + (k : Int)) % (m : Int) = p → scan l.length (entP l part p) = false → upL entB m l part (t + 1) (k + 1) = []) ∧ ∀ i, i < l.length → ∀ x0 x1 x2, l[i]? = some [x0, x1, x2] → x0 = part → x1 = (t + 1 + (k : Int)) % (m : Int) → nextO m l part t = some (t + 1 + (k : Int))) := Lib.hid (by
          refine ⟨fun p hp hs => ?_, fun i hi x0 x1 x2 hx e0 e1 => ?_⟩
          · rw [upL_next, HU.out, if_neg, List.append_nil]
            intro hc
            obtain ⟨i, h1, h2, h3⟩ := (hit_ent HR.out).1 hc
            have := scan_false.1 hs i h1
            unfold entP at this
            exact of_decide_eq_false this ⟨h2, by rw [h3, hp]⟩
          · refine next_hit HQ.out (by omega) HU.out ((hit_ent HR.out).2 ⟨i, hi, ?_, ?_⟩)
            · rw [row_at hx]; exact e0
            · rw [row_at hx]; exact e1)
        obtain ⟨p, hp⟩ : ∃ p, (t + 1 + (k : Int)) % (m : Int) = p := ⟨_, rfl⟩
        have HP := Lib.hid hp
        rw [hp] at hpe hp0 hp1 HIT
        have hz : ¬ (m : Int) = 0 := by omega
        have hza : ((m : Int) == 0) = false := by simp; omega
        obtain ⟨n, hn⟩ : ∃ n, t + 1 + (k : Int) = n := ⟨_, rfl⟩
        have HN := Lib.hid hn
        have hn0 : 0 ≤ n := by omega
        have hn1 : n ≤ 1099511627841 := by omega
        rw [hn] at hpe hle HIT ⊢
        clear hp hn
        have HBO := Lib.hid hbo
        obtain ⟨wo, rfl⟩ : ∃ wo, wo = wr := ⟨_, rfl⟩
        clear hbo
        go_wp2
        go_loopw [9] (fun ix wr => ∃ i : Nat, i ≤ l.length ∧ ix = .int .i64 i ∧ scan i (entP l part p) = false ∧ Below W.heap.size W wr ∧ wo = wo) (fun ix _ => l.length - (intOf ix).toNat)
        case atStart => exact ⟨0, Nat.zero_le _, rfl, rfl, HBO.out, by trivial⟩
        case round =>
          obtain ⟨i, hi, rfl, hs, hbc, -⟩ := hrel
          have HS := Lib.hid hs
          clear hs c0 c1
          obtain ⟨c0, c1⟩ := bx _ hbc
          by_cases hlt2 : i < l.length
          · obtain ⟨b, o, x0, x1, x2, e0, hbl, e1, ⟨hw0, hw1, hw2⟩, k0⟩ := hfW.row.at3 hfW.wf hlt2
            subst e0
            have E1 := Lib.hid e1
            have HBC := Lib.hid hbc
            have k1 := k0 _ hbc
            obtain ⟨p0, p1, p2⟩ := k1
            have f0 : ∀ p : Regrown, (grow (redrawn wr p.d) p.os).cell? ⟨w.heap.size, 0, none⟩ = some (.int .i64 m) := fun p => cell_regrown (c0) p.d p.os
            have f1 : ∀ p : Regrown, (grow (redrawn wr p.d) p.os).cell? ⟨w.heap.size, 1, none⟩ = some (.slice (some ⟨b, o, none⟩) l.length c) := fun p => cell_regrown (c1) p.d p.os
            have s0 : ∀ p : Regrown, (grow (redrawn wr p.d) p.os).cell? ⟨b, o + i * 3, none⟩ = some (.int .i64 x0) := fun p => cell_regrown (p0) p.d p.os
            have s1 : ∀ p : Regrown, (grow (redrawn wr p.d) p.os).cell? ⟨b, o + i * 3 + 1, none⟩ = some (.int .i64 x1) := fun p => cell_regrown (p1) p.d p.os
            have s2 : ∀ p : Regrown, (grow (redrawn wr p.d) p.os).cell? ⟨b, o + i * 3 + 2, none⟩ = some (.int .i64 x2) := fun p => cell_regrown (p2) p.d p.os
            have hbq := Below.refl wr.heap.size wr
            have hg0 : (i : Int) < (l.length : Int) := by omega
            have hg1 : (0 : Int) ≤ (i : Int) := by omega
            clear e1 hbc p0 p1 p2 k0 c0 c1
            by_cases h1 : x0 = part
            · have h1a : ((x0 : Int) == part) = true := by simp [h1]
              have h1b : ((x0 : Int) != part) = false := by simp [h1]
              by_cases h2 : x1 = p
              · have h2a : ((x1 : Int) == p) = true := by simp [h2]
                have h2b : ((x1 : Int) != p) = false := by simp [h2]
                have HY := Lib.hid (HIT.out.2 i hlt2 x0 x1 x2 E1.out h1 h2)
                go_wp2_with ((first | with_reducible refine wpList_on hbq ?_ | with_reducible refine wp_on hbq (by kernel_rfl) (by kernel_rfl) ?_); (repeat (go_big_quiet_step (fail))); with_reducible refine wpQuiet_nil ?_; intro wc hbq)
                go_ret2
                exact ⟨by rw [HY.out]; rfl, HB.out.trans ((HBC.out.trans (hbq.mono HBC.out.size)).mono HB.out.size)⟩
              · have h2a : ((x1 : Int) == p) = false := by simp [h2]
                have h2b : ((x1 : Int) != p) = true := by simp [h2]
                have HX := Lib.hid (show scan (i + 1) (entP l part p) = false from scan_next HS.out (by unfold entP; rw [row_at E1.out]; exact decide_eq_false (fun (h : x0 = part ∧ x1 = p) => h2 h.2)))
                go_wp2_with ((first | with_reducible refine wpList_on hbq ?_ | with_reducible refine wp_on hbq (by kernel_rfl) (by kernel_rfl) ?_); (repeat (go_big_quiet_step (fail))); with_reducible refine wpQuiet_nil ?_; intro wc hbq)
                go_roundw
                case rel => exact ⟨i + 1, by omega, by go_num, HX.out, HBC.out.trans (hbq.mono HBC.out.size), by trivial⟩
                case measure => simp [intOf]; omega
            · have h1a : ((x0 : Int) == part) = false := by simp [h1]
              have h1b : ((x0 : Int) != part) = true := by simp [h1]
              have HX := Lib.hid (show scan (i + 1) (entP l part p) = false from scan_next HS.out (by unfold entP; rw [row_at E1.out]; exact decide_eq_false (fun (h : x0 = part ∧ x1 = p) => h1 h.1)))
              go_wp2_with ((first | with_reducible refine wpList_on hbq ?_ | with_reducible refine wp_on hbq (by kernel_rfl) (by kernel_rfl) ?_); (repeat (go_big_quiet_step (fail))); with_reducible refine wpQuiet_nil ?_; intro wc hbq)
              go_roundw
              case rel => exact ⟨i + 1, by omega, by go_num, HX.out, HBC.out.trans (hbq.mono HBC.out.size), by trivial⟩
              case measure => simp [intOf]; omega
          · have HU2 := Lib.hid (HIT.out.1 p rfl (by have h := HS.out; rw [show i = l.length by omega] at h; exact h))
            clear HS HIT
            go_wp2
            go_roundw
            case rel => exact ⟨k + 1, by omega, (by have h := HN.out; go_num), HU2.out, hbc⟩
            case measure => have h := HN.out; simp [intOf]; omega
      · have HX := Lib.hid (show nextO m l part t = none from next_all (n := m) (by omega) (by have h := HU.out; rw [show k = m by omega] at h; exact h))
        have hle : ¬ (t + 1 + (k : Int) ≤ t + (m : Int)) := by omega
        clear HU
        go_wp2
        go_ret2
        exact ⟨by rw [HX.out]; rfl, HB.out.trans (hbo.mono HB.out.size)⟩
end Go.Proofs.Ytfnpdoppdbhlcaa
