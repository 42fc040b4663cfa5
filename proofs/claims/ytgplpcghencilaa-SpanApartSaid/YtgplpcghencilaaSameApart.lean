/- The document's Same and Apart. No condition but those in the statements. -/
import Derived.Test.YtgplpcghencilaaAll
namespace Go.Proofs.Ytgplpcghencilaa
open Go.RowKit Go.Sort

theorem IntRow.at_ {w : World} {B : Nat} {A : Option Addr} {xs : List Int} (h : IntRow w B A xs) {k : Nat} (hk : k < xs.length) :
    ∃ b o, A = some ⟨b, o, none⟩ ∧ ∀ p : Regrown, (grow (redrawn w p.d) p.os).cell? ⟨b, o + k, none⟩ = some (.int .i64 (xs.getD k 0)) := by
  obtain ⟨b, o, rfl, hb, hc⟩ := h (by omega)
  exact ⟨b, o, rfl, fun p => cell_regrown (hc k hk) p.d p.os⟩
theorem PairRow.at_ {w : World} {B : Nat} {A : Option Addr} {l : List (Int × Int)} (h : PairRow w B A l) {k : Nat} (hk : k < l.length) :
    ∃ b o, A = some ⟨b, o, none⟩ ∧ (∀ p : Regrown, (grow (redrawn w p.d) p.os).cell? ⟨b, o + k * 2, none⟩ = some (.int .i64 (l.getD k (0, 0)).1)) ∧ (∀ p : Regrown, (grow (redrawn w p.d) p.os).cell? ⟨b, o + k * 2 + 1, none⟩ = some (.int .i64 (l.getD k (0, 0)).2)) := by
  obtain ⟨b, o, rfl, hb, hc⟩ := h (by omega)
  exact ⟨b, o, rfl, fun p => cell_regrown (hc k hk).1 p.d p.os, fun p => cell_regrown (hc k hk).2 p.d p.os⟩
theorem take_same (xs ys : List Int) (k : Nat) (hx : k < xs.length) (hy : k < ys.length) (h : xs.take k = ys.take k) (he : xs.getD k 0 = ys.getD k 0) : xs.take (k + 1) = ys.take (k + 1) := by
  rw [List.take_succ_eq_append_getElem hx, List.take_succ_eq_append_getElem hy, h]
  simp [List.getD_eq_getElem?_getD, hx, hy] at he
  rw [he]

set_option maxHeartbeats 1600000 in
theorem rsame_b (xs ys : List Int) (A A' : Option Addr) (c c' : Nat) (w : World) (hx : IntRow w w.heap.size A xs) (hy : IntRow w w.heap.size A' ys) (hlx : xs.length ≤ 1000000000) :
    Calls Try.prog 21 #[.slice A xs.length c, .slice A' ys.length c'] w fun e w' => e = .returned (.bool (decide (xs = ys))) ∧ Below w.heap.size w w' := by
  by_cases hlen : xs.length = ys.length
  · have hL := Lib.hid hlen
    have hne : ((xs.length : Int) != (ys.length : Int)) = false := by simp [hlen]
    clear hlen
    go_enter Try.func21, Try.ntmps21
    go_wp2
    go_loopw [5] (fun ix wr => ∃ k : Nat, k ≤ xs.length ∧ ix = .int .i64 k ∧ xs.take k = ys.take k ∧ Below w.heap.size w wr) (fun ix _ => xs.length - (intOf ix).toNat)
    case atStart => exact ⟨0, Nat.zero_le _, rfl, rfl, Below.refl _ _⟩
    case round =>
      obtain ⟨k, hk, rfl, htk, hbc⟩ := hrel
      have HT := Lib.hid htk
      clear htk
      by_cases hlt : k < xs.length
      · have hlt2 : k < ys.length := by have := hL.out; omega
        obtain ⟨b, o, rfl, k0⟩ := hx.at_ hlt
        obtain ⟨b', o', rfl, k1⟩ := hy.at_ hlt2
        obtain ⟨x, hxx⟩ : ∃ x, x = xs.getD k 0 := ⟨_, rfl⟩
        obtain ⟨y, hyy⟩ : ∃ y, y = ys.getD k 0 := ⟨_, rfl⟩
        rw [← hxx] at k0
        rw [← hyy] at k1
        have HX := Lib.hid hxx; have HY := Lib.hid hyy
        clear hxx hyy hx hy
        by_cases he : x = y
        · have he1 : (x != y) = false := by simp [he]
          have HE := Lib.hid he
          clear he
          go_wp2_with ((first | with_reducible refine wpList_on hbc ?_ | with_reducible refine wp_on hbc (by kernel_rfl) (by kernel_rfl) ?_); (repeat (go_big_quiet_step (fail))); with_reducible refine wpQuiet_nil ?_; intro wc hbc)
          go_roundw
          case rel => exact ⟨k + 1, by omega, by go_num, take_same _ _ _ hlt hlt2 HT.out (by rw [← HX.out, ← HY.out, HE.out]), hbc⟩
          case measure => simp [intOf]; omega
        · have he1 : (x != y) = true := by simp [he]
          have HE := Lib.hid he
          clear he
          go_wp2_with ((first | with_reducible refine wpList_on hbc ?_ | with_reducible refine wp_on hbc (by kernel_rfl) (by kernel_rfl) ?_); (repeat (go_big_quiet_step (fail))); with_reducible refine wpQuiet_nil ?_; intro wc hbc)
          go_ret
          exact ⟨by
            have : xs ≠ ys := fun h => HE.out (by rw [HX.out, HY.out, h])
            simp [this], hbc⟩
      · have hkk : k = xs.length := by omega
        have HS := Lib.hid (show xs = ys by have h := HT.out; rw [hkk, List.take_length, List.take_of_length_le (by have := hL.out; omega)] at h; exact h)
        clear hkk
        go_wp2
        go_ret
        exact ⟨by simp [HS.out], hbc⟩
  · have hne : ((xs.length : Int) != (ys.length : Int)) = true := by simp; omega
    have HE := Lib.hid hlen
    clear hlen
    go_enter Try.func21, Try.ntmps21
    go_wp2
    go_ret
    exact ⟨by
      have : xs ≠ ys := fun h => HE.out (by rw [h])
      simp [this], Below.refl _ _⟩

/-- Do no two at unlike places meet? -/
def apartB (l : List (Int × Int)) : Bool := decide (∀ i, i < l.length → ∀ k, k < l.length → i ≠ k → meetsB (l.getD i (0, 0)).1 (l.getD i (0, 0)).2 (l.getD k (0, 0)).1 (l.getD k (0, 0)).2 = false)

set_option maxHeartbeats 1600000 in
theorem rapart_b (l : List (Int × Int)) (A : Option Addr) (c : Nat) (w : World) (hl : l.length ≤ 1000000000) (hrow : PairRow w w.heap.size A l) :
    Calls Try.prog 19 #[.slice A l.length c] w fun e w' => e = .returned (.bool (apartB l)) ∧ Below w.heap.size w w' := by
  go_enter Try.func19, Try.ntmps19
  go_wp2
  go_loopw [3] (fun ix wr => ∃ i : Nat, i ≤ l.length ∧ ix = .int .i64 i ∧ (∀ i', i' < i → ∀ k, k < l.length → i' ≠ k → meetsB (l.getD i' (0, 0)).1 (l.getD i' (0, 0)).2 (l.getD k (0, 0)).1 (l.getD k (0, 0)).2 = false) ∧ Below w.heap.size w wr) (fun ix _ => l.length - (intOf ix).toNat)
  case atStart => exact ⟨0, Nat.zero_le _, rfl, fun i' h => by omega, Below.refl _ _⟩
  case round =>
    obtain ⟨i, hi, rfl, hall, hbo⟩ := hrel
    have HA := Lib.hid hall
    clear hall
    by_cases hlt : i < l.length
    · obtain ⟨wo, hwo⟩ : ∃ wo : World, wo = wr := ⟨_, rfl⟩
      rw [← hwo] at hbo ⊢
      clear hwo wr
      go_wp2
      go_loopw [4] (fun ix wr => ∃ k : Nat, k ≤ l.length ∧ ix = .int .i64 k ∧ (∀ k', k' < k → i ≠ k' → meetsB (l.getD i (0, 0)).1 (l.getD i (0, 0)).2 (l.getD k' (0, 0)).1 (l.getD k' (0, 0)).2 = false) ∧ Below w.heap.size w wr) (fun ix _ => l.length - (intOf ix).toNat)
      case atStart => exact ⟨0, Nat.zero_le _, rfl, fun k' h => by omega, hbo⟩
      case round =>
        clear hbo
        obtain ⟨k, hk, rfl, hin, hbc⟩ := hrel
        have HI := Lib.hid hin
        clear hin
        by_cases hlk : k < l.length
        · obtain ⟨b, o, rfl, k0, k1⟩ := hrow.at_ hlt
          obtain ⟨b', o', hA', k2, k3⟩ := hrow.at_ hlk
          injection hA' with hA'
          injection hA' with e1 e2
          subst e1 e2
          obtain ⟨f, s, hp⟩ : ∃ f s, l.getD i (0, 0) = (f, s) := ⟨_, _, rfl⟩
          obtain ⟨g, t, hq⟩ : ∃ g t, l.getD k (0, 0) = (g, t) := ⟨_, _, rfl⟩
          rw [hp] at k0 k1
          rw [hq] at k2 k3
          have HP := Lib.hid hp; have HQ := Lib.hid hq
          clear hp hq hrow
          simp only at k0 k1 k2 k3
          by_cases hik : i = k
          · have hik1 : ((i : Int) != (k : Int)) = false := by simp [hik]
            have HE := Lib.hid hik
            clear hik
            go_wp2_with ((first | with_reducible refine wpList_on hbc ?_ | with_reducible refine wp_on hbc (by kernel_rfl) (by kernel_rfl) ?_); (repeat (go_big_quiet_step (first | exact regrown_is (by assumption) (rmeets_b _ _ _ _ _) | exact Calls.regrown_of (rmeets_b _ _ _ _ _)))); with_reducible refine wpQuiet_nil ?_; intro wc hbc)
            go_roundw
            case rel => exact ⟨k + 1, by omega, by go_num, fun k' h hn => HI.out k' (by have := HE.out; omega) hn, hbc⟩
            case measure => simp [intOf]; omega
          · have hik1 : ((i : Int) != (k : Int)) = true := by simp; omega
            have HE := Lib.hid hik
            clear hik
            by_cases hm : meetsB f s g t = true
            · go_wp2_with ((first | with_reducible refine wpList_on hbc ?_ | with_reducible refine wp_on hbc (by kernel_rfl) (by kernel_rfl) ?_); (repeat (go_big_quiet_step (first | exact regrown_is (by assumption) (rmeets_b _ _ _ _ _) | exact Calls.regrown_of (rmeets_b _ _ _ _ _)))); with_reducible refine wpQuiet_nil ?_; intro wc hbc)
              go_ret
              exact ⟨by
                have : apartB l = false := by
                  unfold apartB; rw [decide_eq_false_iff_not]; intro h
                  have := h i hlt k hlk HE.out
                  rw [HP.out, HQ.out] at this
                  simp [hm] at this
                simp [this], hbc⟩
            · have hm' : meetsB f s g t = false := by simpa using hm
              have HM := Lib.hid hm'
              go_wp2_with ((first | with_reducible refine wpList_on hbc ?_ | with_reducible refine wp_on hbc (by kernel_rfl) (by kernel_rfl) ?_); (repeat (go_big_quiet_step (first | exact regrown_is (by assumption) (rmeets_b _ _ _ _ _) | exact Calls.regrown_of (rmeets_b _ _ _ _ _)))); with_reducible refine wpQuiet_nil ?_; intro wc hbc)
              go_roundw
              case rel => exact ⟨k + 1, by omega, by go_num, fun k' h hn => by
                by_cases e : k' = k
                · subst e; rw [HP.out, HQ.out]; exact HM.out
                · exact HI.out k' (by omega) hn, hbc⟩
              case measure => simp [intOf]; omega
        · have HK := Lib.hid (show k = l.length by omega)
          go_wp2
          go_roundw
          case rel => exact ⟨i + 1, by omega, by go_num, fun i' h k' hk' hn => by
            by_cases e : i' = i
            · subst e; exact HI.out k' (by have := HK.out; omega) hn
            · exact HA.out i' (by omega) k' hk' hn, hbc⟩
          case measure => simp [intOf]; omega
    · have HK := Lib.hid (show i = l.length by omega)
      go_wp2
      go_ret
      exact ⟨by
        have : apartB l = true := by
          unfold apartB; rw [decide_eq_true_iff]; intro i' h; exact HA.out i' (by have := HK.out; omega)
        simp [this], hbo⟩
end Go.Proofs.Ytgplpcghencilaa
