/- FrameShare answers true. No condition but those in the statements. -/
import Derived.Test.YtfnpdoppdbhlcaaWakes
import Derived.Test.YtfnpdoppdbhlcaaVals
import Derived.Test.YtfnpdoppdbhlcaaLOpen
import Derived.Test.YtfnpdoppdbhlcaaCount
import Derived.BigQuiet
import Derived.IntWalk
import Derived.BigRegion
import Derived.OpenShut
namespace Go.Proofs.Ytfnpdoppdbhlcaa
open Go.RowKit Go.Sort Go.ChangeShapes Go.WideShapes
set_option linter.unusedVariables false
set_option linter.unusedSimpArgs false


set_option maxRecDepth 100000 in
set_option maxHeartbeats 4000000 in
theorem lshare_b (len : Int) (l : List (List Int)) (A : Option Addr) (c : Nat) (part t : Int) (w : World) (hx : FArg w len l A c) (wpart : (Lit.int .i64 part).wf = true) (wt : (Lit.int .i64 t).wf = true) : Calls Try.prog 7 #[.agg #[.int .i64 len, .slice A l.length c], .int .i64 part, .int .i64 t] w fun e w' => e = .returned (.bool true) ∧ Below w.heap.size w w' := by
  obtain ⟨W, HW, hB, hWs, bx⟩ := fbox_new w len A l.length c 24
  obtain ⟨partlo, parthi⟩ := bounds_i64 wpart
  obtain ⟨tlo, thi⟩ := bounds_i64 wt
  obtain ⟨c0, c1⟩ := bx _ (Below.refl _ _)
  go_enter Try.func7, Try.ntmps7
  go_wp2_with (first | (rw [← HW.out]) | fail)
  refine (wakes_b W).mono ?_
  rintro e V ⟨rfl, hbV⟩
  obtain ⟨c0, c1⟩ := bx _ hbV
  by_cases hg : (100 : Int) < (l.length : Int)
  · go_wp2
    go_ret
    exact ⟨rfl, hB.trans (hbV.mono hB.size)⟩
  · have hfV : FIn V len l A := (hx.fin (by omega)).later (hB.trans (hbV.mono hB.size))
    have HBV := Lib.hid (hB.trans (hbV.mono hB.size))
    have hWV := hbV.size
    have BX : ∀ w', Below V.heap.size V w' → w'.cell? ⟨w.heap.size, 0, none⟩ = some (.int .i64 len) ∧ w'.cell? ⟨w.heap.size, 1, none⟩ = some (.slice A l.length c) := fun w' h => bx w' (hbV.trans (h.mono hWV))
    have hgd : decide ((100 : Int) < (l.length : Int)) = false := decide_eq_false hg
    clear bx hbV hx hB
    cases hq : rightB len l with
    | false =>
      have HQ := Lib.hid hq
      clear hq
      go_wp2_with fail
      refine (rright_is len l A c false _ hfV HQ.out).mono ?_
      rintro e w1 ⟨rfl, hbw1⟩
      have Hw1 := Lib.hid (hbw1)
      obtain ⟨c0, c1⟩ := BX _ Hw1.out
      have hfw1 := hfV.later hbw1
      clear hbw1 hfV
      go_wp2
      go_ret
      exact ⟨rfl, HBV.out.trans (Hw1.out.mono HBV.out.size)⟩
    | true =>
      have HQ := Lib.hid hq
      have HR := Lib.hid (right_rt hq)
      clear hq
      go_wp2_with fail
      refine (rright_is len l A c true _ hfV HQ.out).mono ?_
      rintro e w1 ⟨rfl, hbw1⟩
      have Hw1 := Lib.hid (hbw1)
      obtain ⟨c0, c1⟩ := BX _ Hw1.out
      have hfw1 := hfV.later hbw1
      clear hbw1 hfV
      by_cases h1 : t < 0
      · go_wp2
        go_ret
        exact ⟨rfl, HBV.out.trans (Hw1.out.mono HBV.out.size)⟩
      · have h1d : decide (t < 0) = false := decide_eq_false h1
        by_cases h2 : 549755813888 < t
        · go_wp2
          go_ret
          exact ⟨rfl, HBV.out.trans (Hw1.out.mono HBV.out.size)⟩
        · have h2d : decide (549755813888 < t) = false := decide_eq_false h2
          have hlo := HR.out.lo
          have hhi := HR.out.hi
          have hln : l.length ≤ 16 := HR.out.few
          obtain ⟨m, hm⟩ := Int.eq_ofNat_of_zero_le (a := len) (by omega)
          subst hm
          have HRM := HR
          have HAT : Hid (∀ (is : Int → List Int → Bool) (k : Nat), k ≤ m → atO is m l (t + (k : Int)) = whoO is l ((t + (k : Int)) % (m : Int))) := Lib.hid (by
            intro is k hk
            unfold atO
            rw [if_pos (by unfold mayB; rw [HQ.out]; exact decide_eq_true ⟨by omega, by omega⟩)])
          have hfU := hfw1
          go_wp2
          clear c0 c1
          go_loopw [7, 8, 9] (fun ov nv tv wr => ∃ k : Nat, k ≤ m ∧ tv = .int .i64 (t + (k : Int)) ∧ ov = .int .i64 ((upL openB m l part t k).length : Int) ∧ nv = .int .i64 ((upL entB m l part t k).length : Int) ∧ Below w1.heap.size w1 wr) (fun _ _ tv _ => (t + m - intOf tv).toNat)
          case atStart => exact ⟨0, Nat.zero_le _, by go_num, rfl, rfl, Below.refl _ _⟩
          case round =>
            obtain ⟨k, hk, rfl, rfl, rfl, hbc⟩ := hrel
            obtain ⟨c0, c1⟩ := BX _ (Hw1.out.trans (hbc.mono Hw1.out.size))
            have ho1 := upL_len openB m l part t k
            have he1 := upL_len entB m l part t k
            by_cases hlt : k < m
            · obtain ⟨N, hN⟩ : ∃ N, (upL openB m l part t k).length = N := ⟨_, rfl⟩
              obtain ⟨M, hM⟩ : ∃ M, (upL entB m l part t k).length = M := ⟨_, rfl⟩
              have HN := Lib.hid hN; have HM := Lib.hid hM
              rw [hN] at ho1 ⊢
              rw [hM] at he1 ⊢
              have hf4 := hfU.later hbc
              have HHO2 := Lib.hid (HAT.out openB k (by omega))
              have HHE2 := Lib.hid (HAT.out entB k (by omega))
              have HBC := Lib.hid (Hw1.out.trans (hbc.mono Hw1.out.size)); have HB1 := Lib.hid hbc
              clear hbc hN hM
              cases ho : whoO openB l ((t + (k : Int)) % (m : Int)) with
              | none =>
                have HNO := Lib.hid (show (upL openB m l part t (k + 1)).length = N by rw [upL_next, if_neg (by unfold hitB; rw [ho]; simp), List.length_append, HN.out]; rfl)
                have HO := Lib.hid ho
                clear ho
                go_wp2_with fail
                refine (at_open_no m l A c (t + (k : Int)) _ hf4 (by rw [HHO2.out]; exact HO.out)).mono ?_
                rintro e w5 ⟨rfl, hb5⟩
                have H5 := Lib.hid hb5
                have hf5 := hf4.later hb5
                obtain ⟨c0, c1⟩ := BX _ (HBC.out.trans (hb5.mono HBC.out.size))
                clear hb5 hf4
                cases ho2 : whoO entB l ((t + (k : Int)) % (m : Int)) with
                | none =>
                  have HNE := Lib.hid (show (upL entB m l part t (k + 1)).length = M by rw [upL_next, if_neg (by unfold hitB; rw [ho2]; simp), List.length_append, HM.out]; rfl)
                  have HO2 := Lib.hid ho2
                  clear ho2
                  go_wp2_with fail
                  refine (at_ent_no m l A c (t + (k : Int)) _ hf5 (by rw [HHE2.out]; exact HO2.out)).mono ?_
                  rintro e w6 ⟨rfl, hb6⟩
                  have H9 := Lib.hid (H5.out.trans (hb6.mono H5.out.size))
                  clear hb6 hf5
                  go_wp2
                  go_roundw
                  case rel => exact ⟨k + 1, by omega, by go_num, by rw [HNO.out] <;> go_num, by rw [HNE.out] <;> go_num, HB1.out.trans (H9.out.mono HB1.out.size)⟩
                  case measure => simp [intOf]; omega
                | some q2 =>
                  by_cases hq2 : q2 = part
                  · subst hq2
                    have HNE := Lib.hid (show (upL entB m l q2 t (k + 1)).length = M + 1 by rw [upL_next, if_pos (by unfold hitB; rw [ho2]; simp), List.length_append, HM.out]; rfl)
                    have HO2 := Lib.hid ho2
                    clear ho2
                    go_wp2_with fail
                    refine (at_ent_yes m l A c (t + (k : Int)) q2 _ hf5 (by rw [HHE2.out]; exact HO2.out)).mono ?_
                    rintro e w6 ⟨rfl, hb6⟩
                    have H9 := Lib.hid (H5.out.trans (hb6.mono H5.out.size))
                    clear hb6 hf5
                    go_wp2
                    go_roundw
                    case rel => exact ⟨k + 1, by omega, by go_num, by rw [HNO.out] <;> go_num, by rw [HNE.out] <;> go_num, HB1.out.trans (H9.out.mono HB1.out.size)⟩
                    case measure => simp [intOf]; omega
                  · have HNE := Lib.hid (show (upL entB m l part t (k + 1)).length = M by rw [upL_next, if_neg (by unfold hitB; rw [ho2]; simp; exact hq2), List.length_append, HM.out]; rfl)
                    have hq2a : (q2 == part) = false := by simp [hq2]
                    have HO2 := Lib.hid ho2
                    clear ho2 hq2
                    go_wp2_with fail
                    refine (at_ent_yes m l A c (t + (k : Int)) q2 _ hf5 (by rw [HHE2.out]; exact HO2.out)).mono ?_
                    rintro e w6 ⟨rfl, hb6⟩
                    have H9 := Lib.hid (H5.out.trans (hb6.mono H5.out.size))
                    clear hb6 hf5
                    go_wp2
                    go_roundw
                    case rel => exact ⟨k + 1, by omega, by go_num, by rw [HNO.out] <;> go_num, by rw [HNE.out] <;> go_num, HB1.out.trans (H9.out.mono HB1.out.size)⟩
                    case measure => simp [intOf]; omega
              | some q =>
                by_cases hq : q = part
                · subst hq
                  have HNO := Lib.hid (show (upL openB m l q t (k + 1)).length = N + 1 by rw [upL_next, if_pos (by unfold hitB; rw [ho]; simp), List.length_append, HN.out]; rfl)
                  have HO := Lib.hid ho
                  clear ho
                  go_wp2_with fail
                  refine (at_open_yes m l A c (t + (k : Int)) q _ hf4 (by rw [HHO2.out]; exact HO.out)).mono ?_
                  rintro e w5 ⟨rfl, hb5⟩
                  have H5 := Lib.hid hb5
                  have hf5 := hf4.later hb5
                  obtain ⟨c0, c1⟩ := BX _ (HBC.out.trans (hb5.mono HBC.out.size))
                  clear hb5 hf4
                  cases ho2 : whoO entB l ((t + (k : Int)) % (m : Int)) with
                  | none =>
                    have HNE := Lib.hid (show (upL entB m l q t (k + 1)).length = M by rw [upL_next, if_neg (by unfold hitB; rw [ho2]; simp), List.length_append, HM.out]; rfl)
                    have HO2 := Lib.hid ho2
                    clear ho2
                    go_wp2_with fail
                    refine (at_ent_no m l A c (t + (k : Int)) _ hf5 (by rw [HHE2.out]; exact HO2.out)).mono ?_
                    rintro e w6 ⟨rfl, hb6⟩
                    have H9 := Lib.hid (H5.out.trans (hb6.mono H5.out.size))
                    clear hb6 hf5
                    go_wp2
                    go_roundw
                    case rel => exact ⟨k + 1, by omega, by go_num, by rw [HNO.out] <;> go_num, by rw [HNE.out] <;> go_num, HB1.out.trans (H9.out.mono HB1.out.size)⟩
                    case measure => simp [intOf]; omega
                  | some q2 =>
                    by_cases hq2 : q2 = q
                    · subst hq2
                      have HNE := Lib.hid (show (upL entB m l q2 t (k + 1)).length = M + 1 by rw [upL_next, if_pos (by unfold hitB; rw [ho2]; simp), List.length_append, HM.out]; rfl)
                      have HO2 := Lib.hid ho2
                      clear ho2
                      go_wp2_with fail
                      refine (at_ent_yes m l A c (t + (k : Int)) q2 _ hf5 (by rw [HHE2.out]; exact HO2.out)).mono ?_
                      rintro e w6 ⟨rfl, hb6⟩
                      have H9 := Lib.hid (H5.out.trans (hb6.mono H5.out.size))
                      clear hb6 hf5
                      go_wp2
                      go_roundw
                      case rel => exact ⟨k + 1, by omega, by go_num, by rw [HNO.out] <;> go_num, by rw [HNE.out] <;> go_num, HB1.out.trans (H9.out.mono HB1.out.size)⟩
                      case measure => simp [intOf]; omega
                    · have HNE := Lib.hid (show (upL entB m l q t (k + 1)).length = M by rw [upL_next, if_neg (by unfold hitB; rw [ho2]; simp; exact hq2), List.length_append, HM.out]; rfl)
                      have hq2a : (q2 == q) = false := by simp [hq2]
                      have HO2 := Lib.hid ho2
                      clear ho2 hq2
                      go_wp2_with fail
                      refine (at_ent_yes m l A c (t + (k : Int)) q2 _ hf5 (by rw [HHE2.out]; exact HO2.out)).mono ?_
                      rintro e w6 ⟨rfl, hb6⟩
                      have H9 := Lib.hid (H5.out.trans (hb6.mono H5.out.size))
                      clear hb6 hf5
                      go_wp2
                      go_roundw
                      case rel => exact ⟨k + 1, by omega, by go_num, by rw [HNO.out] <;> go_num, by rw [HNE.out] <;> go_num, HB1.out.trans (H9.out.mono HB1.out.size)⟩
                      case measure => simp [intOf]; omega
                · have hqa : (q == part) = false := by simp [hq]
                  have HNO := Lib.hid (show (upL openB m l part t (k + 1)).length = N by rw [upL_next, if_neg (by unfold hitB; rw [ho]; simp; exact hq), List.length_append, HN.out]; rfl)
                  have HO := Lib.hid ho
                  clear ho
                  go_wp2_with fail
                  refine (at_open_yes m l A c (t + (k : Int)) q _ hf4 (by rw [HHO2.out]; exact HO.out)).mono ?_
                  rintro e w5 ⟨rfl, hb5⟩
                  have H5 := Lib.hid hb5
                  have hf5 := hf4.later hb5
                  obtain ⟨c0, c1⟩ := BX _ (HBC.out.trans (hb5.mono HBC.out.size))
                  clear hb5 hf4
                  cases ho2 : whoO entB l ((t + (k : Int)) % (m : Int)) with
                  | none =>
                    have HNE := Lib.hid (show (upL entB m l part t (k + 1)).length = M by rw [upL_next, if_neg (by unfold hitB; rw [ho2]; simp), List.length_append, HM.out]; rfl)
                    have HO2 := Lib.hid ho2
                    clear ho2
                    go_wp2_with fail
                    refine (at_ent_no m l A c (t + (k : Int)) _ hf5 (by rw [HHE2.out]; exact HO2.out)).mono ?_
                    rintro e w6 ⟨rfl, hb6⟩
                    have H9 := Lib.hid (H5.out.trans (hb6.mono H5.out.size))
                    clear hb6 hf5
                    go_wp2
                    go_roundw
                    case rel => exact ⟨k + 1, by omega, by go_num, by rw [HNO.out] <;> go_num, by rw [HNE.out] <;> go_num, HB1.out.trans (H9.out.mono HB1.out.size)⟩
                    case measure => simp [intOf]; omega
                  | some q2 =>
                    by_cases hq2 : q2 = part
                    · subst hq2
                      have HNE := Lib.hid (show (upL entB m l q2 t (k + 1)).length = M + 1 by rw [upL_next, if_pos (by unfold hitB; rw [ho2]; simp), List.length_append, HM.out]; rfl)
                      have HO2 := Lib.hid ho2
                      clear ho2
                      go_wp2_with fail
                      refine (at_ent_yes m l A c (t + (k : Int)) q2 _ hf5 (by rw [HHE2.out]; exact HO2.out)).mono ?_
                      rintro e w6 ⟨rfl, hb6⟩
                      have H9 := Lib.hid (H5.out.trans (hb6.mono H5.out.size))
                      clear hb6 hf5
                      go_wp2
                      go_roundw
                      case rel => exact ⟨k + 1, by omega, by go_num, by rw [HNO.out] <;> go_num, by rw [HNE.out] <;> go_num, HB1.out.trans (H9.out.mono HB1.out.size)⟩
                      case measure => simp [intOf]; omega
                    · have HNE := Lib.hid (show (upL entB m l part t (k + 1)).length = M by rw [upL_next, if_neg (by unfold hitB; rw [ho2]; simp; exact hq2), List.length_append, HM.out]; rfl)
                      have hq2a : (q2 == part) = false := by simp [hq2]
                      have HO2 := Lib.hid ho2
                      clear ho2 hq2
                      go_wp2_with fail
                      refine (at_ent_yes m l A c (t + (k : Int)) q2 _ hf5 (by rw [HHE2.out]; exact HO2.out)).mono ?_
                      rintro e w6 ⟨rfl, hb6⟩
                      have H9 := Lib.hid (H5.out.trans (hb6.mono H5.out.size))
                      clear hb6 hf5
                      go_wp2
                      go_roundw
                      case rel => exact ⟨k + 1, by omega, by go_num, by rw [HNO.out] <;> go_num, by rw [HNE.out] <;> go_num, HB1.out.trans (H9.out.mono HB1.out.size)⟩
                      case measure => simp [intOf]; omega
            · have SO := Lib.hid (show (upL openB m l part t k).length = sumUp l part l.length by rw [show k = m by omega]; exact share_open HRM.out (by omega))
              have SE := Lib.hid (show (upL entB m l part t k).length = cntUp l part l.length by rw [show k = m by omega]; exact share_ent HRM.out (by omega))
              have hlt' : ¬ (t + (k : Int) < t + (m : Int)) := by omega
              obtain ⟨s0, s1⟩ := sumUp_in HRM.out part l.length (Nat.le_refl _)
              obtain ⟨d0, d1⟩ := cntUp_in l part l.length
              rw [SO.out, SE.out]
              obtain ⟨S, hS⟩ : ∃ S, sumUp l part l.length = S := ⟨_, rfl⟩
              obtain ⟨C, hC⟩ : ∃ C, cntUp l part l.length = C := ⟨_, rfl⟩
              have HS9 := Lib.hid hS; have HC9 := Lib.hid hC
              rw [hS] at s0 s1 ⊢
              rw [hC] at d0 d1 ⊢
              have HB0 := Lib.hid hbc
              clear hS hC SO SE hbc
              obtain ⟨wo, rfl⟩ : ∃ wo, wo = wr := ⟨_, rfl⟩
              go_wp2
              clear c0 c1
              go_loopw [7, 8, 75] (fun ov nv ix wr => ∃ i : Nat, i ≤ l.length ∧ ix = .int .i64 i ∧ ov = .int .i64 (S - sumUp l part i) ∧ nv = .int .i64 (C - cntUp l part i) ∧ Below w1.heap.size w1 wr) (fun _ _ ix _ => l.length - (intOf ix).toNat)
              case atStart => exact ⟨0, Nat.zero_le _, rfl, by simp [sumUp], by simp [cntUp], HB0.out⟩
              case round =>
                obtain ⟨i, hi, rfl, rfl, rfl, hbc⟩ := hrel
                by_cases hlt : i < l.length
                · obtain ⟨b, o, x0, x1, x2, e0, hbl, e1, ⟨hw0, hw1, hw2⟩, k0⟩ := hfU.row.at3 hfU.wf hlt
                  subst e0
                  have E1 := Lib.hid e1
                  obtain ⟨s0, s1⟩ := sumUp_in HRM.out part i (by omega)
                  obtain ⟨d0, d1⟩ := cntUp_in l part i
                  obtain ⟨hy0, hy1, hy2⟩ : 0 ≤ x1 ∧ 1 ≤ x2 ∧ x2 ≤ 64 := by
                    have h := HRM.out.ok i hlt
                    rw [row_at e1] at h
                    have h2 : 0 ≤ endAt l i ∧ endAt l i ≤ x1 ∧ 1 ≤ x2 ∧ x1 + x2 ≤ (m : Int) := h
                    omega
                  obtain ⟨su, hsu⟩ : ∃ su, sumUp l part i = su := ⟨_, rfl⟩
                  obtain ⟨cu, hcu⟩ : ∃ cu, cntUp l part i = cu := ⟨_, rfl⟩
                  have HSU := Lib.hid hsu; have HCU := Lib.hid hcu
                  rw [hsu] at s0 s1 ⊢
                  rw [hcu] at d0 d1 ⊢
                  have k0 := k0 _ hbc
                  obtain ⟨p0, p1, p2⟩ := k0
                  obtain ⟨wa, hwa⟩ : ∃ u, Hid (u = wr.alloc (.cells #[.int .i64 x0, .int .i64 x1, .int .i64 x2] 39)) := ⟨_, rfl⟩
                  have hba : Below wr.heap.size wr wa := by rw [hwa.out]; exact (Below.refl _ _).alloc (Nat.le_refl _) _
                  have hxa : wa.heap[wr.heap.size]? = some (.cells #[.int .i64 x0, .int .i64 x1, .int .i64 x2] 39 (0, 0)) := by rw [hwa.out]; exact heap_alloc_new _ _
                  have HWB := Lib.hid (hbc.trans (hba.mono hbc.size))
                  have a0 := cell_blk hxa (i := 0) rfl
                  have a2 := cell_blk hxa (i := 2) rfl
                  clear e1 hsu hcu hba hxa hbc
                  by_cases hp : x0 = part
                  · have HS := Lib.hid (show sumUp l part (i + 1) = sumUp l part i + x2 by show sumUp l part i + (if fld (row l i) 0 = part then fld (row l i) 2 else 0) = _; rw [row_at E1.out, if_pos (show fld [x0, x1, x2] 0 = part from hp)]; rfl)
                    have HC := Lib.hid (show cntUp l part (i + 1) = cntUp l part i + 1 by show cntUp l part i + (if fld (row l i) 0 = part then 1 else 0) = _; rw [row_at E1.out, if_pos (show fld [x0, x1, x2] 0 = part from hp)])
                    have hpa : (x0 == part) = true := by simp [hp]
                    have hpb := Lib.hid hp
                    clear hp
                    rw [HSU.out] at HS
                    rw [HCU.out] at HC
                    go_wp2_with (rw [← hwa.out])
                    go_roundw
                    case rel => exact ⟨i + 1, by omega, by go_num, by rw [HS.out] <;> go_num, by rw [HC.out] <;> go_num, HWB.out⟩
                    case measure => simp [intOf]; omega
                  · have HS := Lib.hid (show sumUp l part (i + 1) = sumUp l part i by show sumUp l part i + (if fld (row l i) 0 = part then fld (row l i) 2 else 0) = _; rw [row_at E1.out, if_neg (show ¬ fld [x0, x1, x2] 0 = part from hp)]; omega)
                    have HC := Lib.hid (show cntUp l part (i + 1) = cntUp l part i by show cntUp l part i + (if fld (row l i) 0 = part then 1 else 0) = _; rw [row_at E1.out, if_neg (show ¬ fld [x0, x1, x2] 0 = part from hp)]; omega)
                    have hpa : (x0 == part) = false := by simp [hp]

                    clear hp
                    rw [HSU.out] at HS
                    rw [HCU.out] at HC
                    go_wp2_with (rw [← hwa.out])
                    go_roundw
                    case rel => exact ⟨i + 1, by omega, by go_num, by rw [HS.out] <;> go_num, by rw [HC.out] <;> go_num, HWB.out⟩
                    case measure => simp [intOf]; omega
                · rw [show i = l.length by omega, HS9.out, HC9.out, Int.sub_self, Int.sub_self]
                  have hin : ¬ ((l.length : Int) < (l.length : Int)) := by omega
                  go_wp2
                  go_ret
                  exact ⟨rfl, HBV.out.trans ((Hw1.out.trans (hbc.mono Hw1.out.size)).mono HBV.out.size)⟩
end Go.Proofs.Ytfnpdoppdbhlcaa
