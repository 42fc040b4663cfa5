/- SpanAll's walk. No condition but those in the statements. -/
import Derived.Test.YtgplpcghencilaaSameApart
import Derived.Test.YtgplpcghencilaaTold
import Derived.Deep.RegionHeld3
namespace Go.Proofs.Ytgplpcghencilaa
open Go.RowKit Go.Sort

theorem apart_nodup (l : List (Int × Int)) (h : apartB l = true) : (allOf l).Nodup := by
  unfold apartB at h
  rw [decide_eq_true_iff] at h
  unfold allOf List.Nodup
  rw [List.pairwise_flatMap]
  refine ⟨fun p _ => ?_, ?_⟩
  · unfold segs
    split
    · rw [List.pairwise_map]
      exact List.Pairwise.imp (fun hn he => hn (by omega)) List.nodup_range
    · exact List.Pairwise.nil
  · rw [List.pairwise_iff_getElem]
    intro i j hi hj hij x hx y hy he
    subst he
    have hm := h i hi j hj (by omega)
    simp only [List.getD_eq_getElem?_getD, hi, hj, List.getElem?_eq_getElem, Option.getD_some] at hm
    have hhas : ∀ p : Int × Int, x ∈ segs p → hasB p.1 p.2 x = true := by
      intro p hp
      unfold segs at hp
      split at hp
      · rename_i hr
        have := rightB_yes.1 hr
        obtain ⟨k, hk, rfl⟩ := List.mem_map.1 hp
        have := List.mem_range.1 hk
        exact hasB_yes.2 ⟨rightB_yes.1 hr, by omega, by omega⟩
      · cases hp
    obtain ⟨a1, a2, a3⟩ := hasB_yes.1 (hhas _ hx)
    obtain ⟨b1, b2, b3⟩ := hasB_yes.1 (hhas _ hy)
    rw [meetsB_yes.2 ⟨⟨filledB_yes.2 ⟨a1, by omega⟩, filledB_yes.2 ⟨b1, by omega⟩⟩, by omega, by omega⟩] at hm
    cases hm
theorem segs_le (f s : Int) (h : rightB f s = true → s ≤ 200) : (segs (f, s)).length ≤ 200 := by
  by_cases hr : rightB f s = true
  · have := h hr; simp [segs, hr]; omega
  · simp [segs, hr]
theorem allOf_small (l : List (Int × Int)) (h : ∀ i, i < l.length → rightB (l.getD i (0, 0)).1 (l.getD i (0, 0)).2 = true → (l.getD i (0, 0)).2 ≤ 200) : (allOf l).length ≤ l.length * 200 := by
  induction l with
  | nil => simp [allOf]
  | cons p l ih =>
    have h1 := ih (fun i hi hr => by have := h (i + 1) (by simpa using hi); simpa using this (by simpa using hr))
    have h2 := segs_le p.1 p.2 (fun hr => by have := h 0 (by simp); simpa using this (by simpa using hr))
    have h3 : (allOf (p :: l)).length = (segs p).length + (allOf l).length := by simp [allOf]
    have h4 : (segs p).length ≤ 200 := h2
    simp only [List.length_cons]; omega
theorem rsame_yes (xs ys : List Int) (A A' : Option Addr) (n n' c c' : Nat) (w : World) (hx : IntRow w w.heap.size A xs) (hy : IntRow w w.heap.size A' ys) (hn : n = xs.length) (hn' : n' = ys.length) (he : xs = ys) (hlx : xs.length ≤ 1000000000) :
    Calls Try.prog 21 #[.slice A n c, .slice A' n' c'] w fun e w' => e = .returned (.bool true) ∧ Below w.heap.size w w' := by
  subst hn hn'
  exact (rsame_b xs ys A A' c c' w hx hy hlx).mono fun e w' ⟨h1, h2⟩ => ⟨by rw [h1]; simp [he], h2⟩
theorem IntRow.cut {w : World} {B : Nat} {A : Option Addr} {xs : List Int} (h : IntRow w B A xs) (k : Nat) : IntRow w B A (xs.take k) := fun hp => by
  rw [List.length_take] at hp
  obtain ⟨b, o, hA, hb, hc⟩ := h (by omega)
  refine ⟨b, o, hA, hb, fun i hi => ?_⟩
  rw [List.length_take] at hi
  rw [hc i (by omega)]
  simp [List.getD_eq_getElem?_getD, show i < k by omega]
theorem told_b (m : Int) (hm0 : 0 ≤ m) (hm : m ≤ 1000000) (l : List (Int × Int)) (A : Option Addr) (c : Nat) (w : World) (hl : l.length ≤ 1000000) (hA : A = none → l = []) (hrow : PairRow w w.heap.size A l) :
    Calls Try.prog 22 #[.int .i64 m, .slice A l.length c] w (GivesInts 3 w ((allOf l).take m.toNat)) := by
  obtain ⟨k, rfl⟩ := Int.eq_ofNat_of_zero_le hm0
  exact callsIn_wide.1 (told_in 3 (by omega) l A c k w hl (by omega) hA hrow)

set_option maxHeartbeats 3200000 in
theorem spanAll_walk (l : List (Int × Int)) (A : Option Addr) (c : Nat) (q : Int) (w : World) (hl : l.length ≤ 9223372036854775807) (hA : A = none → l = []) (hrow : PairRow w w.heap.size A l) (hq0 : 0 ≤ q) (hq1 : q ≤ 255) :
    Calls Try.prog 6 #[.slice A l.length c, .int .u8 q] w fun e w' => e = .returned (.bool true) ∧ Below w.heap.size w w' := by
  have hbc := Below.refl w.heap.size w
  go_enter Try.func6, Try.ntmps6
  go_wp2_with (with_reducible refine wpList_on hbc ?_; (repeat (go_big_quiet_step (first | exact regrown_is (by assumption) (wakes_b _) | exact Calls.regrown_of (wakes_b _)))); with_reducible refine wpQuiet_nil ?_; intro wc hbc)
  go_loopw [5, 17] (fun nv ix wr => ∃ k : Nat, k ≤ l.length ∧ nv = .int .i64 k ∧ ix = .int .i64 k ∧ (∀ i, i < k → rightB (l.getD i (0, 0)).1 (l.getD i (0, 0)).2 = true → (l.getD i (0, 0)).2 ≤ 200) ∧ Below w.heap.size w wr) (fun _ ix _ => l.length - (intOf ix).toNat)
  case atStart => exact ⟨0, Nat.zero_le _, rfl, rfl, fun i h => by omega, hbc⟩
  case round =>
    clear hbc
    obtain ⟨k, hk, rfl, rfl, hall, hbr⟩ := hrel
    have HA := Lib.hid hall
    clear hall
    by_cases hlt : k < l.length
    · obtain ⟨b, o, rfl, k0, k1⟩ := hrow.at_ hlt
      obtain ⟨f, s, hp⟩ : ∃ f s, l.getD k (0, 0) = (f, s) := ⟨_, _, rfl⟩
      rw [hp] at k0 k1
      have HP := Lib.hid hp
      simp only at k0 k1
      have c0 := cell_of (cell_on k0 hbr)
      have c1 := cell_of (cell_on k1 hbr)
      obtain ⟨V, HV, hbv, hsv, j0, j1⟩ := one_box wr (.int .i64 f) (.int .i64 s) 23
      have hbc := Below.refl V.heap.size V
      have hfin : Below w.heap.size w V := hbr.trans (hbv.mono hbr.size)
      have hszV := hfin.size
      have H1 := Lib.hid hszV
      clear k0 k1 hp hrow hszV
      by_cases hr : rightB f s = true
      · obtain ⟨r1, r2, r3, r4⟩ := rightB_yes.1 hr
        by_cases hs : 200 < s
        · go_wp2_with ((try rw [← HV.out]); with_reducible refine wpList_on hbc ?_; (repeat (go_big_quiet_step (first | exact regrown_is (by assumption) (rright_b _ _ _) | exact Calls.regrown_of (rright_b _ _ _)))); with_reducible refine wpQuiet_nil ?_; intro wc hbc)
          go_ret
          exact ⟨by simp, hfin.trans (hbc.mono H1.out)⟩
        · have hs' : decide (200 < s) = false := by simpa using hs
          have HS := Lib.hid hs
          go_wp2_with ((try rw [← HV.out]); with_reducible refine wpList_on hbc ?_; (repeat (go_big_quiet_step (first | exact regrown_is (by assumption) (rright_b _ _ _) | exact Calls.regrown_of (rright_b _ _ _)))); with_reducible refine wpQuiet_nil ?_; intro wc hbc)
          go_roundw
          case rel => exact ⟨k + 1, by omega, by go_num, by go_num, fun i hi hri => by
            by_cases e : i = k
            · subst e; rw [HP.out]; have := HS.out; simp; omega
            · exact HA.out i (by omega) hri, hfin.trans (hbc.mono H1.out)⟩
          case measure => simp [intOf]; omega
      · have hr' : rightB f s = false := by simpa using hr
        have HR := Lib.hid hr
        go_wp2_with ((try rw [← HV.out]); with_reducible refine wpList_on hbc ?_; (repeat (go_big_quiet_step (first | exact regrown_is (by assumption) (rright_b _ _ _) | exact Calls.regrown_of (rright_b _ _ _)))); with_reducible refine wpQuiet_nil ?_; intro wc hbc)
        go_roundw
        case rel => exact ⟨k + 1, by omega, by go_num, by go_num, fun i hi hri => by
          by_cases e : i = k
          · subst e; rw [HP.out] at hri; exact absurd hri HR.out
          · exact HA.out i (by omega) hri, hfin.trans (hbc.mono H1.out)⟩
        case measure => simp [intOf]; omega
    · by_cases hbig : 20 < l.length
      · have hk20 : (20 : Int) < (k : Int) := by omega
        go_wp2
        go_ret
        exact ⟨rfl, hbr⟩
      · have hk20 : ¬ (20 : Int) < (k : Int) := by omega
        have htot := allOf_small l (fun i hi => HA.out i (by omega))
        have hl20 : l.length ≤ 20 := by omega
        have hrow2 := (hrow.below hbr).more hbr.size
        have HR := Lib.hid hrow2
        clear HA hrow2
        go_wp2_with (go_at_call 20; refine (rall_b l A c _ (by omega) HR.out (by omega)).mono ?_)
        intro e W1 hg
        obtain ⟨A1, c1, rfl, hcl, hcm, hrow1, hb1⟩ := hg.row
        have hl5 : (allOf l).length ≤ 4000 := by omega
        have hrW : PairRow W1 W1.heap.size A l := (HR.out.below hb1).more hb1.size
        have hfin : Below w.heap.size w W1 := hbr.trans (hb1.mono hbr.size)
        have HF := Lib.hid hfin
        clear hg hfin hbr hb1 hrow HR
        have hz0 : (0 : Int) ≤ ((allOf l).length : Int) := by omega
        have hz1 : ((allOf l).length : Int) ≤ (c1 : Int) := by omega
        by_cases hmin : ((allOf l).length : Int) < q
        all_goals
          have hqc : q ≤ ((allOf l).length : Int) → q ≤ (c1 : Int) := fun h => by omega
          first | (have hqd : q ≤ (c1 : Int) := by omega) | skip
          clear hqc
          go_wp2
          go_region_held3 (fun W' => Below W1.heap.size W1 W') ((first | exact (Below.refl _ _).drew | exact Below.trans (by assumption) (hbel.mono (Below.size (by assumption)))))
            (first | (go_at_call 22; refine (told_b _ (by omega) (by omega) l A c _ (by omega) hA ((hrW.below (by assumption)).more (Below.size (by assumption)))).mono ?_; intro e w2 hg; obtain ⟨A2, c2, rfl, _, _, hrow2, hbel⟩ := hg.row) | (go_at_call 21; refine (rsame_yes _ (allOf l) A2 A1 _ _ _ _ _ hrow2 ((hrow1.below (by assumption)).more (Below.size (by assumption))) (by first | (simp; done) | (simp; omega) | omega) (by first | (simp; done) | (simp; omega) | omega) (List.take_of_length_le (by first | (simp; done) | (simp; omega) | omega)) (by first | (simp; done) | (simp; omega) | omega)).mono ?_; rintro e w3 ⟨rfl, hbel⟩) | (go_at_call 21; refine (rsame_yes _ ((allOf l).take q.toNat) A2 A1 _ _ _ _ _ hrow2 (((hrow1.below (by assumption)).more (Below.size (by assumption))).cut _) (by first | (simp; done) | (simp; omega) | omega) (by first | (simp; done) | (simp; omega) | omega) rfl (by first | (simp; done) | (simp; omega) | omega)).mono ?_; rintro e w3 ⟨rfl, hbel⟩) | (go_at_call 21; trace_state; fail))
          have hS : Below W1.heap.size W1 w3 := by assumption
          have hrow3 := (hrow1.below hS).more hS.size
          have hrA : PairRow w3 w3.heap.size A l := (hrW.below hS).more hS.size
          have HF3 := Lib.hid (HF.out.trans (hS.mono HF.out.size))
          clear hrow2 hbel hrW hrow1 HF
          by_cases hap : apartB l = true
          · go_wp2_with (go_at_call 19; refine (rapart_b l A c _ (by omega) hrA).mono ?_)
            rintro e w4 ⟨rfl, hb4⟩
            have hnd := Lib.hid (List.pairwise_iff_getElem.1 (apart_nodup l hap))
            have hrow4 := (hrow3.below hb4).more hb4.size
            have HF4 := Lib.hid (HF3.out.trans (hb4.mono HF3.out.size))
            clear hrow3 hb4 hrA HF3 hS
            go_wp2
            clear hap
            go_loop [60] (fun ix => ∃ i : Nat, i ≤ (allOf l).length ∧ ix = .int .i64 i) (fun ix => (allOf l).length - (intOf ix).toNat)
            case atStart => exact ⟨0, Nat.zero_le _, rfl⟩
            case round =>
              obtain ⟨i, hi, rfl⟩ := hrel
              by_cases hlti : i < (allOf l).length
              · obtain ⟨b, o, rfl, hbo, hcs⟩ := hrow4 (by omega)
                have hci := hcs i hlti
                have hi0 : (0 : Int) ≤ (i : Int) := by omega
                have hi1 : (i : Int) ≤ (c1 : Int) := by omega
                have HC := Lib.hid hcs
                obtain ⟨x, hx⟩ : ∃ x, x = (allOf l).getD i 0 := ⟨_, rfl⟩
                rw [← hx] at hci
                have HX := Lib.hid hx
                clear hcs hx hrow4
                go_wp2
                go_loop [67] (fun ix => ∃ j : Nat, j ≤ i ∧ ix = .int .i64 j) (fun ix => i - (intOf ix).toNat)
                case atStart => exact ⟨0, Nat.zero_le _, rfl⟩
                case round =>
                  obtain ⟨j, hj, rfl⟩ := hrel
                  by_cases hltj : j < i
                  · have hcj := HC.out j (by omega)
                    obtain ⟨y, hy⟩ : ∃ y, y = (allOf l).getD j 0 := ⟨_, rfl⟩
                    rw [← hy] at hcj
                    have hyx : (y == x) = false := by
                      have h := hnd.out j i (by omega) hlti hltj
                      rw [hy, HX.out]
                      simp only [List.getD_eq_getElem?_getD, List.getElem?_eq_getElem hlti, List.getElem?_eq_getElem (show j < (allOf l).length by omega), Option.getD_some]
                      simpa using h
                    clear hy
                    go_wp2
                    go_round
                    case rel => exact ⟨j + 1, by omega, by go_num⟩
                    case measure => simp [intOf]; omega
                  · go_wp2
                    go_round
                    case rel => exact ⟨i + 1, by omega, by go_num⟩
                    case measure => simp [intOf]; omega
              · go_wp2
                go_ret
                exact ⟨rfl, HF4.out⟩
          · have hap' : apartB l = false := by simpa using hap
            go_wp2_with (go_at_call 19; refine (rapart_b l A c _ (by omega) hrA).mono ?_)
            rintro e w4 ⟨rfl, hb4⟩
            have HF4 := Lib.hid (HF3.out.trans (hb4.mono HF3.out.size))
            go_wp2
            go_ret
            exact ⟨by simp, HF4.out⟩
end Go.Proofs.Ytgplpcghencilaa
