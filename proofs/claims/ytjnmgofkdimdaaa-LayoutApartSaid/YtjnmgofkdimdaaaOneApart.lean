/- The document's Apart, as a contract. No condition but those in the statements. -/
import Derived.Test.YtjnmgofkdimdaaaOne
import Derived.Test.YtjnmgofkdimdaaaKitB
namespace Go.Proofs.Ytjnmgofkdimdaaa
open Go.RowKit Go.Sort
set_option linter.unusedVariables false
set_option linter.unusedSimpArgs false
theorem PairRow.at_ {w : World} {B : Nat} {A : Option Addr} {l : List (Int × Int)} (h : PairRow w B A l) {k : Nat} (hk : k < l.length) :
    ∃ b o, A = some ⟨b, o, none⟩ ∧ (∀ p : Regrown, (grow (redrawn w p.d) p.os).cell? ⟨b, o + k * 2, none⟩ = some (.int .i64 (l.getD k (0, 0)).1)) ∧ (∀ p : Regrown, (grow (redrawn w p.d) p.os).cell? ⟨b, o + k * 2 + 1, none⟩ = some (.int .i64 (l.getD k (0, 0)).2)) := by
  obtain ⟨b, o, rfl, hb, hc⟩ := h (by omega)
  exact ⟨b, o, rfl, fun p => cell_regrown (hc k hk).1 p.d p.os, fun p => cell_regrown (hc k hk).2 p.d p.os⟩
namespace One
set_option linter.unusedVariables false
set_option linter.unusedSimpArgs false
def apartB (l : List (Int × Int)) : Bool := decide (∀ i, i < l.length → ∀ k, k < l.length → i ≠ k → meetsB (l.getD i (0, 0)).1 (l.getD i (0, 0)).2 (l.getD k (0, 0)).1 (l.getD k (0, 0)).2 = false)

theorem rapart_b (l : List (Int × Int)) (A : Option Addr) (c : Nat) (w : World) (hl : l.length ≤ 1000000000) (hrow : PairRow w w.heap.size A l) :
    Calls Try.prog 28 #[.slice A l.length c] w fun e w' => e = .returned (.bool (apartB l)) ∧ Below w.heap.size w w' := by
  go_enter Try.func28, Try.ntmps28
  go_wp2
  go_loopw [3] (fun ix wr => ∃ i : Nat, i ≤ l.length ∧ ix = .int .i64 i ∧ (∀ i', i' < i → ∀ k, k < l.length → i' ≠ k → meetsB (l.getD i' (0, 0)).1 (l.getD i' (0, 0)).2 (l.getD k (0, 0)).1 (l.getD k (0, 0)).2 = false) ∧ Below w.heap.size w wr) (fun ix _ => l.length - (intOf ix).toNat)
  case atStart => exact ⟨0, Nat.zero_le _, rfl, fun i' h => by omega, Below.refl _ _⟩
  case round =>
    obtain ⟨i, hi, rfl, hall, hbo⟩ := hrel
    have HA := Lib.hid hall
    clear hall
    by_cases hlt : i < l.length
    · obtain ⟨wo, hwo⟩ : ∃ wo : World, wo = wr := ⟨_, rfl⟩
      rw [← hwo] at hbo ⊢
      clear hwo wr
      go_wp2
      go_loopw [4] (fun ix wr => ∃ k : Nat, k ≤ l.length ∧ ix = .int .i64 k ∧ (∀ k', k' < k → i ≠ k' → meetsB (l.getD i (0, 0)).1 (l.getD i (0, 0)).2 (l.getD k' (0, 0)).1 (l.getD k' (0, 0)).2 = false) ∧ Below w.heap.size w wr) (fun ix _ => l.length - (intOf ix).toNat)
      case atStart => exact ⟨0, Nat.zero_le _, rfl, fun k' h => by omega, hbo⟩
      case round =>
        clear hbo
        obtain ⟨k, hk, rfl, hin, hbc⟩ := hrel
        have HI := Lib.hid hin
        clear hin
        by_cases hlk : k < l.length
        · obtain ⟨b, o, rfl, k0, k1⟩ := hrow.at_ hlt
          obtain ⟨b', o', hA', k2, k3⟩ := hrow.at_ hlk
          injection hA' with hA'
          injection hA' with e1 e2
          subst e1 e2
          obtain ⟨f, s, hp⟩ : ∃ f s, l.getD i (0, 0) = (f, s) := ⟨_, _, rfl⟩
          obtain ⟨g, t, hq⟩ : ∃ g t, l.getD k (0, 0) = (g, t) := ⟨_, _, rfl⟩
          rw [hp] at k0 k1
          rw [hq] at k2 k3
          have HP := Lib.hid hp; have HQ := Lib.hid hq
          clear hp hq hrow
          simp only at k0 k1 k2 k3
          by_cases hik : i = k
          · have hik1 : ((i : Int) != (k : Int)) = false := by simp [hik]
            have HE := Lib.hid hik
            clear hik
            go_wp2_with ((first | with_reducible refine wpList_on hbc ?_ | with_reducible refine wp_on hbc (by kernel_rfl) (by kernel_rfl) ?_); (repeat (go_big_quiet_step (first | exact regrown_is (by assumption) (rmeets_b _ _ _ _ _) | exact Calls.regrown_of (rmeets_b _ _ _ _ _)))); with_reducible refine wpQuiet_nil ?_; intro wc hbc)
            go_roundw
            case rel => exact ⟨k + 1, by omega, by go_num, fun k' h hn => HI.out k' (by have := HE.out; omega) hn, hbc⟩
            case measure => simp [intOf]; omega
          · have hik1 : ((i : Int) != (k : Int)) = true := by simp; omega
            have HE := Lib.hid hik
            clear hik
            by_cases hm : meetsB f s g t = true
            · go_wp2_with ((first | with_reducible refine wpList_on hbc ?_ | with_reducible refine wp_on hbc (by kernel_rfl) (by kernel_rfl) ?_); (repeat (go_big_quiet_step (first | exact regrown_is (by assumption) (rmeets_b _ _ _ _ _) | exact Calls.regrown_of (rmeets_b _ _ _ _ _)))); with_reducible refine wpQuiet_nil ?_; intro wc hbc)
              go_ret
              exact ⟨by
                have : apartB l = false := by
                  unfold apartB; rw [decide_eq_false_iff_not]; intro h
                  have := h i hlt k hlk HE.out
                  rw [HP.out, HQ.out] at this
                  simp [hm] at this
                simp [this], hbc⟩
            · have hm' : meetsB f s g t = false := by simpa using hm
              have HM := Lib.hid hm'
              go_wp2_with ((first | with_reducible refine wpList_on hbc ?_ | with_reducible refine wp_on hbc (by kernel_rfl) (by kernel_rfl) ?_); (repeat (go_big_quiet_step (first | exact regrown_is (by assumption) (rmeets_b _ _ _ _ _) | exact Calls.regrown_of (rmeets_b _ _ _ _ _)))); with_reducible refine wpQuiet_nil ?_; intro wc hbc)
              go_roundw
              case rel => exact ⟨k + 1, by omega, by go_num, fun k' h hn => by
                by_cases e : k' = k
                · subst e; rw [HP.out, HQ.out]; exact HM.out
                · exact HI.out k' (by omega) hn, hbc⟩
              case measure => simp [intOf]; omega
        · have HK := Lib.hid (show k = l.length by omega)
          go_wp2
          go_roundw
          case rel => exact ⟨i + 1, by omega, by go_num, fun i' h k' hk' hn => by
            by_cases e : i' = i
            · subst e; exact HI.out k' (by have := HK.out; omega) hn
            · exact HA.out i' (by omega) k' hk' hn, hbc⟩
          case measure => simp [intOf]; omega
    · have HK := Lib.hid (show i = l.length by omega)
      go_wp2
      go_ret
      exact ⟨by
        have : apartB l = true := by
          unfold apartB; rw [decide_eq_true_iff]; intro i' h; exact HA.out i' (by have := HK.out; omega)
        simp [this], hbo⟩
end One
end Go.Proofs.Ytjnmgofkdimdaaa
