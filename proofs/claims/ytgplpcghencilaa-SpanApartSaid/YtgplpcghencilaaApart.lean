/- span.Apart, and SpanApart's walk, given what the library's sort does to a row of its own (SortSays). -/
import Derived.Test.YtgplpcghencilaaCmp
import Derived.Test.YtgplpcghencilaaIter
namespace Go.Proofs.Ytgplpcghencilaa
open Go.RowKit Go.Sort

/-- The sort has been called at a row that the caller owns, from block 'base' on. -/
def SortGives (base : Nat) (r : List (Int × Int)) (v : Value) (w : World) (e : Ending) (w' : World) : Prop :=
  e = .returned (.tuple #[]) ∧ ∃ (r' : List (Int × Int)) (A : Option Addr) (c : Nat), r'.Perm r ∧ (∀ i j, i < j → j < r'.length → (r'.getD i (0, 0)).1 ≤ (r'.getD j (0, 0)).1) ∧ v = .slice A r.length c ∧ PairRow w' w'.heap.size A r' ∧ Below base w w'
def SortSays : Prop := ∀ (base : Nat) (r : List (Int × Int)) (v : Value) (w : World), base ≤ w.heap.size → r.length ≤ 1000000 → w.ownsRow base 23 2 v r.length (flat r) →
  Calls Try.prog 25 #[v, .func (.func 26) #[] #[]] w (SortGives base r v w)

theorem news_pair (w : World) (v0 v1 : Value) (t : TypeId) : ∀ (j : Nat) u, [v0, v1][j]? = some u → (w.alloc (.cells #[v0, v1] t)).cell? ((⟨w.heap.size, 0, none⟩ : Addr).add j) = some u := by
  intro j u hj
  match j, hj with
  | 0, hj => simp at hj; subst hj; simp [Addr.add]
  | 1, hj => simp at hj; subst hj; simp [Addr.add]
theorem flat_snoc (l : List (Int × Int)) (p : Int × Int) : flat (l ++ [p]) = flat l ++ [.int .i64 p.1, .int .i64 p.2] := by simp [flat]

set_option maxHeartbeats 1600000 in
theorem sapart_b (hsort : SortSays) (l : List (Int × Int)) (A : Option Addr) (c : Nat) (w : World) (hl : l.length ≤ 1000000) (hrow : PairRow w w.heap.size A l) :
    Calls Try.prog 18 #[.slice A l.length c] w fun e w' => e = .returned (.bool (apartB l)) ∧ Below w.heap.size w w' := by
  obtain ⟨i0, hi, hz0, hz1, hz2⟩ := info_parts Try.infoS
  have HSO := Lib.hid hsort
  clear hsort
  go_enter Try.func18, Try.ntmps18
  go_wp2
  go_loopw [3, 9] (fun v ix wr => ∃ k : Nat, k ≤ l.length ∧ ix = .int .i64 k ∧ wr.ownsRow w.heap.size 23 2 v (full (l.take k)).length (flat (full (l.take k))) ∧ Below w.heap.size w wr) (fun _ ix _ => l.length - (intOf ix).toNat)
  case atStart => exact ⟨0, Nat.zero_le _, rfl, World.ownsRow_nil _ _ _ _, Below.refl _ _⟩
  case round =>
    obtain ⟨k, hk, rfl, hown, hbr⟩ := hrel
    by_cases hlt : k < l.length
    · obtain ⟨b, o, rfl, k0, k1⟩ := hrow.at_ hlt
      have hnext := full_take l k hlt
      obtain ⟨f, s, hp⟩ : ∃ f s, l.getD k (0, 0) = (f, s) := ⟨_, _, rfl⟩
      rw [hp] at k0 k1 hnext
      simp only at k0 k1 hnext
      have c0 := cell_of (cell_on k0 hbr)
      have c1 := cell_of (cell_on k1 hbr)
      obtain ⟨V, HV, hbv, hsv, j0, j1⟩ := one_box wr (.int .i64 f) (.int .i64 s) 23
      have hbc := Below.refl V.heap.size V
      have hownV := own_below hown hbv
      have hfin : Below w.heap.size w V := hbr.trans (hbv.mono hbr.size)
      have H1 := Lib.hid hfin.size
      have hlk := full_len (l.take k)
      rw [List.length_take] at hlk
      clear k0 k1 hp hrow hown
      by_cases hfl : filledB f s = true
      · rw [hfl, if_pos rfl] at hnext
        have HN := Lib.hid hnext
        have hlen : (full (l.take k)).length ≤ 1000000 := by omega
        clear hnext
        go_wp2_with (first | (at_builtin; refine wpList_append_own _ rfl _ _ 28 rfl w.heap.size 23 i0 (.agg #[.int .i64 0, .int .i64 0]) 2 16 Try.underlying28 hi hz0 hz1 hz2 rfl (by decide) _ _ _ rfl (hownc.alloc _) ⟨wc.heap.size, 0, none⟩ 1 1 [.int .i64 f, .int .i64 s] rfl rfl ?c1 ?c2 ?c3 ?c4 ?c5 ?_) | ((try rw [← HV.out]); with_reducible refine wpList_on hbc ?_; (repeat (go_big_quiet_step (first | exact regrown_is (by assumption) (filled_b _ _ _) | exact Calls.regrown_of (filled_b _ _ _)))); with_reducible refine wpQuiet_nil ?_; intro wc hbc; have e0 := cell_of (cell_on j0 hbc); have e1 := cell_of (cell_on j1 hbc); have hownc := own_below hownV hbc))
        case c1 => exact news_pair _ _ _ _
        case c2 => intro u hu; simp at hu; rcases hu with rfl | rfl <;> rfl
        case c3 => unfold maxLen; omega
        case c4 => omega
        case c5 => have := hbc.size; have := H1.out; simp; omega
        · intro v' w1 hown' hgrow _
          have hw1 : Below w.heap.size w w1 := ((hfin.trans (hbc.mono H1.out)).alloc (by have := hbc.size; have := H1.out; omega) _).grown hgrow (by have := hbc.size; have := H1.out; simp; omega) (fun g hg => (hownc.lt g hg).1)
          clear hownV hownc hgrow j0 j1 e0 e1 c0 c1 hfin HV
          go_wp2
          go_roundw
          case rel => exact ⟨k + 1, by omega, by go_num, by rw [HN.out, flat_snoc]; simpa using hown', hw1⟩
          case measure => simp [intOf]; omega
      · have hfl' : filledB f s = false := by simpa using hfl
        rw [hfl', if_neg (by simp)] at hnext
        have HN := Lib.hid (show full (l.take (k + 1)) = full (l.take k) by simpa using hnext)
        clear hnext
        go_wp2_with ((try rw [← HV.out]); with_reducible refine wpList_on hbc ?_; (repeat (go_big_quiet_step (first | exact regrown_is (by assumption) (filled_b _ _ _) | exact Calls.regrown_of (filled_b _ _ _)))); with_reducible refine wpQuiet_nil ?_; intro wc hbc)
        go_roundw
        case rel => exact ⟨k + 1, by omega, by go_num, by rw [HN.out]; exact own_below hownV hbc, hfin.trans (hbc.mono H1.out)⟩
        case measure => simp [intOf]; omega
    · have hkk : k = l.length := by omega
      rw [hkk, List.take_length] at hown
      clear hkk
      have hlk := full_len l
      go_wp2_with (go_at_call 25; refine (HSO.out w.heap.size (full l) _ _ hbr.size (by omega) hown).mono ?_)
      rintro e w1 ⟨rfl, r, A1, c1, hperm, hsorted, rfl, hrow1, hb1⟩
      have HA := Lib.hid (apart_sorted l r hperm hsorted)
      have hlen := Lib.hid (show (full l).length = r.length from hperm.length_eq.symm)
      have hw1 : Below w.heap.size w w1 := hbr.trans hb1
      have H1 := Lib.hid hw1.size
      clear hperm hsorted hown hbr hb1 hrow
      go_wp2
      go_loopw [6] (fun ix wr => ∃ m : Nat, m ≤ (full l).length ∧ ix = .int .i64 ((m : Int) + 1) ∧ (∀ j, j < m → j + 1 < r.length → Off (r.getD j (0, 0)) (r.getD (j + 1) (0, 0))) ∧ Below w1.heap.size w1 wr) (fun ix _ => (full l).length + 1 - (intOf ix).toNat)
      case atStart => exact ⟨0, Nat.zero_le _, by simp, fun j h => by omega, Below.refl _ _⟩
      case round =>
        obtain ⟨m, hm, rfl, hall, hbc⟩ := hrel
        have HO := Lib.hid hall
        clear hall
        by_cases hlt : (m : Int) + 1 < ((full l).length : Int)
        · have hm1 : m < r.length := by have := hlen.out; omega
          have hm2 : m + 1 < r.length := by have := hlen.out; omega
          obtain ⟨b, o, rfl, k0, k1⟩ := hrow1.at_ hm1
          obtain ⟨b', o', hA', k2, k3⟩ := hrow1.at_ hm2
          injection hA' with hA'
          injection hA' with e1 e2
          subst e1 e2
          obtain ⟨f, s, hp⟩ : ∃ f s, r.getD m (0, 0) = (f, s) := ⟨_, _, rfl⟩
          obtain ⟨g, t, hq⟩ : ∃ g t, r.getD (m + 1) (0, 0) = (g, t) := ⟨_, _, rfl⟩
          rw [hp] at k0 k1
          rw [hq] at k2 k3
          have HP := Lib.hid hp; have HQ := Lib.hid hq
          clear hp hq hrow1
          simp only at k0 k1 k2 k3
          by_cases hmt : meetsB f s g t = true
          · go_wp2_with ((first | with_reducible refine wpList_on hbc ?_ | with_reducible refine wp_on hbc (by kernel_rfl) (by kernel_rfl) ?_); (repeat (go_big_quiet_step (first | exact regrown_is (by assumption) (meets_b _ _ _ _ _) | exact Calls.regrown_of (meets_b _ _ _ _ _)))); with_reducible refine wpQuiet_nil ?_; intro wc hbc)
            go_ret
            exact ⟨by
              have : apartB l = false := by
                rw [← Bool.not_eq_true, HA.out]; intro h
                have := h m hm2
                unfold Off at this
                rw [HP.out, HQ.out] at this
                simp [hmt] at this
              simp [this], hw1.trans (hbc.mono H1.out)⟩
          · have hmt' : meetsB f s g t = false := by simpa using hmt
            have HM := Lib.hid hmt'
            go_wp2_with ((first | with_reducible refine wpList_on hbc ?_ | with_reducible refine wp_on hbc (by kernel_rfl) (by kernel_rfl) ?_); (repeat (go_big_quiet_step (first | exact regrown_is (by assumption) (meets_b _ _ _ _ _) | exact Calls.regrown_of (meets_b _ _ _ _ _)))); with_reducible refine wpQuiet_nil ?_; intro wc hbc)
            go_roundw
            case rel => exact ⟨m + 1, by omega, by go_num, fun j hj hj2 => by
              by_cases e : j = m
              · subst e; unfold Off; rw [HP.out, HQ.out]; exact HM.out
              · exact HO.out j (by omega) hj2, hbc⟩
            case measure => simp [intOf]; omega
        · go_wp2
          go_ret
          exact ⟨by
            have : apartB l = true := by
              rw [HA.out]; intro i hi; exact HO.out i (by have := hlen.out; omega) hi
            simp [this], hw1.trans (hbc.mono H1.out)⟩
end Go.Proofs.Ytgplpcghencilaa
