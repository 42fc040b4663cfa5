/- span.Apart, by what the library's sort does to a row of the call's own. No condition but those in the statements. -/
import Derived.Test.YtjnmgofkdimdaaaOneApart
import Derived.Test.YtjnmgofkdimdaaaShelfP
import Derived.RangeFuncBox
import Derived.Lib.SliceRun
namespace Go.Proofs.Ytjnmgofkdimdaaa
open Go.RowKit Go.Sort Go.Shelf
set_option linter.unusedVariables false
set_option linter.unusedSimpArgs false
set_option linter.unusedVariables false
set_option linter.unusedSimpArgs false
namespace One
theorem Try.infoS : (Try.prog.info? 36).map (fun i => (i.zero, i.size, i.bytes)) = some (some (.agg #[.int .i64 0, .int .i64 0]), 2, 16) := by kernel_rfl
def flat (l : List (Int × Int)) : List Value := l.flatMap fun p => [.int .i64 p.1, .int .i64 p.2]
theorem flat_len (l : List (Int × Int)) : (flat l).length = l.length * 2 := by
  induction l with
  | nil => rfl
  | cons p l ih => simp only [flat, List.flatMap_cons, List.length_append, List.length_cons, List.length_nil] at ih ⊢; omega
theorem flat_at (l : List (Int × Int)) : ∀ i, i < l.length → (flat l)[i * 2]? = some (.int .i64 (l.getD i (0, 0)).1) ∧ (flat l)[i * 2 + 1]? = some (.int .i64 (l.getD i (0, 0)).2) := by
  induction l with
  | nil => intro i h; simp at h
  | cons p l ih =>
    intro i h
    cases i with
    | zero => simp [flat]
    | succ i =>
      have := ih i (by simpa using h)
      rw [show (i + 1) * 2 = i * 2 + 2 by omega, show i * 2 + 2 + 1 = (i * 2 + 1) + 2 by omega]
      simpa [flat] using this
theorem flat_from {w : World} {l : List (Int × Int)} {b o : Nat} (hc : ∀ i, i < l.length → w.cell? ⟨b, o + i * 2, none⟩ = some (.int .i64 (l.getD i (0, 0)).1) ∧ w.cell? ⟨b, o + i * 2 + 1, none⟩ = some (.int .i64 (l.getD i (0, 0)).2)) :
    ∀ j u, (flat l)[j]? = some u → w.cell? ((⟨b, o, none⟩ : Addr).add j) = some u := by
  intro j u hj
  have hl : j < l.length * 2 := by rw [← flat_len]; exact (List.getElem?_eq_some_iff.1 hj).1
  have e : (⟨b, o, none⟩ : Addr).add j = ⟨b, o + j, none⟩ := by unfold Addr.add; split <;> simp_all
  rw [e]
  obtain ⟨h1, h2⟩ := hc (j / 2) (by omega)
  obtain ⟨g1, g2⟩ := flat_at l (j / 2) (by omega)
  by_cases hp : j % 2 = 0
  · rw [show o + j = o + j / 2 * 2 by omega, h1, ← g1, show j / 2 * 2 = j by omega, hj]
  · rw [show o + j = o + j / 2 * 2 + 1 by omega, h2, ← g2, show j / 2 * 2 + 1 = j by omega, hj]
theorem flat_one (l : List (Int × Int)) : ∀ u ∈ flat l, u.oneCell' = true := by
  intro u hu; simp only [flat, List.mem_flatMap] at hu; obtain ⟨p, _, hu⟩ := hu; simp at hu; rcases hu with rfl | rfl <;> rfl



def full (l : List (Int × Int)) : List (Int × Int) := l.filter fun p => filledB p.1 p.2
def Off (p q : Int × Int) : Prop := meetsB p.1 p.2 q.1 q.2 = false
theorem Off.symm {p q : Int × Int} (h : Off p q) : Off q p := by unfold Off at *; rw [meetsB_symm]; exact h
theorem off_empty {p q : Int × Int} (h : filledB p.1 p.2 = false ∨ filledB q.1 q.2 = false) : Off p q := by
  unfold Off; rcases h with h | h <;> simp [meetsB, h]
theorem apart_pairwise (l : List (Int × Int)) : apartB l = true ↔ l.Pairwise Off := by
  unfold apartB
  rw [decide_eq_true_iff, List.pairwise_iff_getElem]
  have hd : ∀ i (h : i < l.length), l.getD i (0, 0) = l[i] := fun i h => by simp [List.getD_eq_getElem?_getD, h]
  constructor
  · intro h i j hi hj hij
    have := h i hi j hj (by omega)
    rw [hd i hi, hd j hj] at this
    exact this
  · intro h i hi k hk hik
    rw [hd i hi, hd k hk]
    rcases Nat.lt_or_gt_of_ne hik with c | c
    · exact h i k hi hk c
    · exact (h k i hk hi c).symm
theorem full_pairwise (l : List (Int × Int)) : l.Pairwise Off ↔ (full l).Pairwise Off := by
  unfold full
  rw [List.pairwise_filter]
  constructor
  · intro h; exact h.imp (fun hr _ _ => hr)
  · intro h
    refine h.imp (fun {p q} hr => ?_)
    by_cases hp : filledB p.1 p.2 = true
    · by_cases hq : filledB q.1 q.2 = true
      · exact hr hp hq
      · exact off_empty (.inr (by simpa using hq))
    · exact off_empty (.inl (by simpa using hp))
theorem perm_pairwise {l r : List (Int × Int)} (h : r.Perm l) : r.Pairwise Off ↔ l.Pairwise Off := h.pairwise_iff Off.symm
/-- Sorted and filled: it is enough that no two neighbours meet. -/
theorem next_enough (r : List (Int × Int)) (hf : ∀ p ∈ r, filledB p.1 p.2 = true) (hs : ∀ i j, i < j → j < r.length → (r.getD i (0, 0)).1 ≤ (r.getD j (0, 0)).1)
    (hn : ∀ i, i + 1 < r.length → Off (r.getD i (0, 0)) (r.getD (i + 1) (0, 0))) : r.Pairwise Off := by
  have hd : ∀ i (h : i < r.length), r.getD i (0, 0) = r[i] := fun i h => by simp [List.getD_eq_getElem?_getD, h]
  have hfi : ∀ i, i < r.length → filledB (r.getD i (0, 0)).1 (r.getD i (0, 0)).2 = true := fun i h => by rw [hd i h]; exact hf _ (List.getElem_mem h)
  have step : ∀ i, i + 1 < r.length → (r.getD i (0, 0)).1 + (r.getD i (0, 0)).2 ≤ (r.getD (i + 1) (0, 0)).1 := by
    intro i hi
    have h1 := hn i hi
    have h2 := hs i (i + 1) (by omega) hi
    have h3 := filledB_yes.1 (hfi i (by omega))
    have h4 := filledB_yes.1 (hfi (i + 1) hi)
    unfold Off at h1
    by_cases hc : (r.getD (i + 1) (0, 0)).1 < (r.getD i (0, 0)).1 + (r.getD i (0, 0)).2
    · rw [meetsB_yes.2 ⟨⟨hfi i (by omega), hfi (i + 1) hi⟩, by omega, hc⟩] at h1; cases h1
    · omega
  rw [List.pairwise_iff_getElem]
  intro i j hi hj hij
  rw [← hd i hi, ← hd j hj]
  have h1 := step i (by omega)
  have h2 : (r.getD (i + 1) (0, 0)).1 ≤ (r.getD j (0, 0)).1 := by
    by_cases e : i + 1 = j
    · rw [e]; omega
    · exact hs (i + 1) j (by omega) hj
  unfold Off
  by_cases hm : meetsB (r.getD i (0, 0)).1 (r.getD i (0, 0)).2 (r.getD j (0, 0)).1 (r.getD j (0, 0)).2 = true
  · have := (meetsB_yes.1 hm).2; omega
  · simpa using hm
theorem apart_sorted (l r : List (Int × Int)) (hp : r.Perm (full l)) (hs : ∀ i j, i < j → j < r.length → (r.getD i (0, 0)).1 ≤ (r.getD j (0, 0)).1) :
    apartB l = true ↔ ∀ i, i + 1 < r.length → Off (r.getD i (0, 0)) (r.getD (i + 1) (0, 0)) := by
  rw [apart_pairwise, full_pairwise, ← perm_pairwise hp]
  constructor
  · intro h i hi
    rw [List.pairwise_iff_getElem] at h
    have := h i (i + 1) (by omega) hi (by omega)
    simpa [List.getD_eq_getElem?_getD, hi, show i < r.length by omega] using this
  · intro h
    refine next_enough r (fun p hm => ?_) hs h
    have := hp.mem_iff.1 hm
    exact (List.mem_filter.1 this).2
theorem full_take (l : List (Int × Int)) (k : Nat) (h : k < l.length) : full (l.take (k + 1)) = full (l.take k) ++ if filledB (l.getD k (0, 0)).1 (l.getD k (0, 0)).2 = true then [l.getD k (0, 0)] else [] := by
  unfold full
  rw [List.take_succ_eq_append_getElem h, List.filter_append]
  simp [List.getD_eq_getElem?_getD, h, List.filter_cons]
theorem full_len (l : List (Int × Int)) : (full l).length ≤ l.length := List.length_filter_le _ _


def cmpI (x y : Int) : Int := if x < y then -1 else if y < x then 1 else 0
theorem nan_b (x : Int) (w : World) : Calls Try.prog 60 #[.int .i64 x] w fun e w' => e = .returned (.bool false) ∧ w = w' := by
  go_enter Try.func60, Try.ntmps60
  go_wp2
  go_ret
  exact ⟨by simp, rfl⟩
theorem cmp_b (x y : Int) (w : World) : Calls Try.prog 46 #[.int .i64 x, .int .i64 y] w fun e w' => e = .returned (.int .i64 (cmpI x y)) ∧ w = w' := by
  by_cases h1 : x < y
  · rw [show cmpI x y = -1 by simp [cmpI, h1]]
    go_enter Try.func46, Try.ntmps46
    go_wp2_with (go_at_call 60; refine (nan_b _ _).mono ?_; rintro e w' ⟨rfl, rfl⟩)
    go_ret
    exact ⟨rfl, rfl⟩
  · by_cases h2 : y < x
    · rw [show cmpI x y = 1 by simp [cmpI, h1, h2]]
      go_enter Try.func46, Try.ntmps46
      go_wp2_with (go_at_call 60; refine (nan_b _ _).mono ?_; rintro e w' ⟨rfl, rfl⟩)
      go_ret
      exact ⟨rfl, rfl⟩
    · rw [show cmpI x y = 0 by simp [cmpI, h1, h2]]
      go_enter Try.func46, Try.ntmps46
      go_wp2_with (go_at_call 60; refine (nan_b _ _).mono ?_; rintro e w' ⟨rfl, rfl⟩)
      go_ret
      exact ⟨rfl, rfl⟩
theorem closure_b (x y : Int × Int) (W : World) : Calls Try.prog 45 #[.agg #[.int .i64 x.1, .int .i64 x.2], .agg #[.int .i64 y.1, .int .i64 y.2]] W fun e w' => e = .returned (.int .i64 (cmpI x.1 y.1)) ∧ ∃ q os', w' = grow (W.drewN q) os' := by
  have hcon := fun W' => cmp_b x.1 y.1 W'
  generalize cmpI x.1 y.1 = r at hcon ⊢
  go_enter Try.func45, Try.ntmps45
  go_wp2_with (go_at_call 46; refine (hcon _).mono ?_; rintro e w' ⟨rfl, rfl⟩)
  go_ret
  exact ⟨rfl, 0, _, by rw [alloc_eq_grow, alloc_eq_grow, grow_grow]; rfl⟩


/-- The sort has been called at a row that the caller owns, from block 'base' on. -/
def SortGives (base : Nat) (r : List (Int × Int)) (v : Value) (w : World) (e : Ending) (w' : World) : Prop :=
  e = .returned (.tuple #[]) ∧ ∃ (r' : List (Int × Int)) (A : Option Addr) (c : Nat), r'.Perm r ∧ (∀ i j, i < j → j < r'.length → (r'.getD i (0, 0)).1 ≤ (r'.getD j (0, 0)).1) ∧ v = .slice A r.length c ∧ PairRow w' w'.heap.size A r' ∧ Below base w w'
def SortSays : Prop := ∀ (base : Nat) (r : List (Int × Int)) (v : Value) (w : World), base ≤ w.heap.size → r.length ≤ 1000000 → w.ownsRow base 36 2 v r.length (flat r) →
  Calls Try.prog 44 #[v, .func (.func 45) #[] #[]] w (SortGives base r v w)

theorem news_pair (w : World) (v0 v1 : Value) (t : TypeId) : ∀ (j : Nat) u, [v0, v1][j]? = some u → (w.alloc (.cells #[v0, v1] t)).cell? ((⟨w.heap.size, 0, none⟩ : Addr).add j) = some u := by
  intro j u hj
  match j, hj with
  | 0, hj => simp at hj; subst hj; simp [Addr.add]
  | 1, hj => simp at hj; subst hj; simp [Addr.add]
theorem flat_snoc (l : List (Int × Int)) (p : Int × Int) : flat (l ++ [p]) = flat l ++ [.int .i64 p.1, .int .i64 p.2] := by simp [flat]

set_option maxHeartbeats 1600000 in
theorem sapart_b (hsort : SortSays) (l : List (Int × Int)) (A : Option Addr) (c : Nat) (w : World) (hl : l.length ≤ 1000000) (hrow : PairRow w w.heap.size A l) :
    Calls Try.prog 26 #[.slice A l.length c] w fun e w' => e = .returned (.bool (apartB l)) ∧ Below w.heap.size w w' := by
  obtain ⟨i0, hi, hz0, hz1, hz2⟩ := info_parts Try.infoS
  have HSO := Lib.hid hsort
  clear hsort
  go_enter Try.func26, Try.ntmps26
  go_wp2
  go_loopw [3, 9] (fun v ix wr => ∃ k : Nat, k ≤ l.length ∧ ix = .int .i64 k ∧ wr.ownsRow w.heap.size 36 2 v (full (l.take k)).length (flat (full (l.take k))) ∧ Below w.heap.size w wr) (fun _ ix _ => l.length - (intOf ix).toNat)
  case atStart => exact ⟨0, Nat.zero_le _, rfl, World.ownsRow_nil _ _ _ _, Below.refl _ _⟩
  case round =>
    obtain ⟨k, hk, rfl, hown, hbr⟩ := hrel
    by_cases hlt : k < l.length
    · obtain ⟨b, o, rfl, k0, k1⟩ := hrow.at_ hlt
      have hnext := full_take l k hlt
      obtain ⟨f, s, hp⟩ : ∃ f s, l.getD k (0, 0) = (f, s) := ⟨_, _, rfl⟩
      rw [hp] at k0 k1 hnext
      simp only at k0 k1 hnext
      have c0 := cell_of (cell_on k0 hbr)
      have c1 := cell_of (cell_on k1 hbr)
      obtain ⟨V, HV, hbv, hsv, j0, j1⟩ := one_box wr (.int .i64 f) (.int .i64 s) 36
      have hbc := Below.refl V.heap.size V
      have hownV := own_below hown hbv
      have hfin : Below w.heap.size w V := hbr.trans (hbv.mono hbr.size)
      have H1 := Lib.hid hfin.size
      have hlk := full_len (l.take k)
      rw [List.length_take] at hlk
      clear k0 k1 hp hrow hown
      by_cases hfl : filledB f s = true
      · rw [hfl, if_pos rfl] at hnext
        have HN := Lib.hid hnext
        have hlen : (full (l.take k)).length ≤ 1000000 := by omega
        clear hnext
        go_wp2_with (first | (at_builtin; refine wpList_append_own _ rfl _ _ 32 rfl w.heap.size 36 i0 (.agg #[.int .i64 0, .int .i64 0]) 2 16 Try.underlying32 hi hz0 hz1 hz2 rfl (by decide) _ _ _ rfl (hownc.alloc _) ⟨wc.heap.size, 0, none⟩ 1 1 [.int .i64 f, .int .i64 s] rfl rfl ?c1 ?c2 ?c3 ?c4 ?c5 ?_) | ((try rw [← HV.out]); with_reducible refine wpList_on hbc ?_; (repeat (go_big_quiet_step (first | exact regrown_is (by assumption) (filled_b _ _ _) | exact Calls.regrown_of (filled_b _ _ _)))); with_reducible refine wpQuiet_nil ?_; intro wc hbc; have e0 := cell_of (cell_on j0 hbc); have e1 := cell_of (cell_on j1 hbc); have hownc := own_below hownV hbc))
        case c1 => exact news_pair _ _ _ _
        case c2 => intro u hu; simp at hu; rcases hu with rfl | rfl <;> rfl
        case c3 => unfold maxLen; omega
        case c4 => omega
        case c5 => have := hbc.size; have := H1.out; simp; omega
        · intro v' w1 hown' hgrow _
          have hw1 : Below w.heap.size w w1 := ((hfin.trans (hbc.mono H1.out)).alloc (by have := hbc.size; have := H1.out; omega) _).grown hgrow (by have := hbc.size; have := H1.out; simp; omega) (fun g hg => (hownc.lt g hg).1)
          clear hownV hownc hgrow j0 j1 e0 e1 c0 c1 hfin HV
          go_wp2
          go_roundw
          case rel => exact ⟨k + 1, by omega, by go_num, by rw [HN.out, flat_snoc]; simpa using hown', hw1⟩
          case measure => simp [intOf]; omega
      · have hfl' : filledB f s = false := by simpa using hfl
        rw [hfl', if_neg (by simp)] at hnext
        have HN := Lib.hid (show full (l.take (k + 1)) = full (l.take k) by simpa using hnext)
        clear hnext
        go_wp2_with ((try rw [← HV.out]); with_reducible refine wpList_on hbc ?_; (repeat (go_big_quiet_step (first | exact regrown_is (by assumption) (filled_b _ _ _) | exact Calls.regrown_of (filled_b _ _ _)))); with_reducible refine wpQuiet_nil ?_; intro wc hbc)
        go_roundw
        case rel => exact ⟨k + 1, by omega, by go_num, by rw [HN.out]; exact own_below hownV hbc, hfin.trans (hbc.mono H1.out)⟩
        case measure => simp [intOf]; omega
    · have hkk : k = l.length := by omega
      rw [hkk, List.take_length] at hown
      clear hkk
      have hlk := full_len l
      go_wp2_with (go_at_call 44; refine (HSO.out w.heap.size (full l) _ _ hbr.size (by omega) hown).mono ?_)
      rintro e w1 ⟨rfl, r, A1, c1, hperm, hsorted, rfl, hrow1, hb1⟩
      have HA := Lib.hid (apart_sorted l r hperm hsorted)
      have hlen := Lib.hid (show (full l).length = r.length from hperm.length_eq.symm)
      have hw1 : Below w.heap.size w w1 := hbr.trans hb1
      have H1 := Lib.hid hw1.size
      clear hperm hsorted hown hbr hb1 hrow
      go_wp2
      go_loopw [6] (fun ix wr => ∃ m : Nat, m ≤ (full l).length ∧ ix = .int .i64 ((m : Int) + 1) ∧ (∀ j, j < m → j + 1 < r.length → Off (r.getD j (0, 0)) (r.getD (j + 1) (0, 0))) ∧ Below w1.heap.size w1 wr) (fun ix _ => (full l).length + 1 - (intOf ix).toNat)
      case atStart => exact ⟨0, Nat.zero_le _, by simp, fun j h => by omega, Below.refl _ _⟩
      case round =>
        obtain ⟨m, hm, rfl, hall, hbc⟩ := hrel
        have HO := Lib.hid hall
        clear hall
        by_cases hlt : (m : Int) + 1 < ((full l).length : Int)
        · have hm1 : m < r.length := by have := hlen.out; omega
          have hm2 : m + 1 < r.length := by have := hlen.out; omega
          obtain ⟨b, o, rfl, k0, k1⟩ := hrow1.at_ hm1
          obtain ⟨b', o', hA', k2, k3⟩ := hrow1.at_ hm2
          injection hA' with hA'
          injection hA' with e1 e2
          subst e1 e2
          obtain ⟨f, s, hp⟩ : ∃ f s, r.getD m (0, 0) = (f, s) := ⟨_, _, rfl⟩
          obtain ⟨g, t, hq⟩ : ∃ g t, r.getD (m + 1) (0, 0) = (g, t) := ⟨_, _, rfl⟩
          rw [hp] at k0 k1
          rw [hq] at k2 k3
          have HP := Lib.hid hp; have HQ := Lib.hid hq
          clear hp hq hrow1
          simp only at k0 k1 k2 k3
          by_cases hmt : meetsB f s g t = true
          · go_wp2_with ((first | with_reducible refine wpList_on hbc ?_ | with_reducible refine wp_on hbc (by kernel_rfl) (by kernel_rfl) ?_); (repeat (go_big_quiet_step (first | exact regrown_is (by assumption) (meets_b _ _ _ _ _) | exact Calls.regrown_of (meets_b _ _ _ _ _)))); with_reducible refine wpQuiet_nil ?_; intro wc hbc)
            go_ret
            exact ⟨by
              have : apartB l = false := by
                rw [← Bool.not_eq_true, HA.out]; intro h
                have := h m hm2
                unfold Off at this
                rw [HP.out, HQ.out] at this
                simp [hmt] at this
              simp [this], hw1.trans (hbc.mono H1.out)⟩
          · have hmt' : meetsB f s g t = false := by simpa using hmt
            have HM := Lib.hid hmt'
            go_wp2_with ((first | with_reducible refine wpList_on hbc ?_ | with_reducible refine wp_on hbc (by kernel_rfl) (by kernel_rfl) ?_); (repeat (go_big_quiet_step (first | exact regrown_is (by assumption) (meets_b _ _ _ _ _) | exact Calls.regrown_of (meets_b _ _ _ _ _)))); with_reducible refine wpQuiet_nil ?_; intro wc hbc)
            go_roundw
            case rel => exact ⟨m + 1, by omega, by go_num, fun j hj hj2 => by
              by_cases e : j = m
              · subst e; unfold Off; rw [HP.out, HQ.out]; exact HM.out
              · exact HO.out j (by omega) hj2, hbc⟩
            case measure => simp [intOf]; omega
        · go_wp2
          go_ret
          exact ⟨by
            have : apartB l = true := by
              rw [HA.out]; intro i hi; exact HO.out i (by have := hlen.out; omega) hi
            simp [this], hw1.trans (hbc.mono H1.out)⟩


def enc2 (p : Int × Int) : List Value := [.int .i64 p.1, .int .i64 p.2]
theorem lt_cmp (x y : Int × Int) : ltOf (fun x y : Int × Int => cmpI x.1 y.1) x y = decide (x.1 < y.1) := by
  unfold ltOf cmpI
  by_cases h1 : x.1 < y.1
  · simp [h1]
  · by_cases h2 : y.1 < x.1 <;> simp [h1, h2]
theorem swo_cmp : SWO (ltOf fun x y : Int × Int => cmpI x.1 y.1) where
  irrefl x := by rw [lt_cmp]; simp
  trans x y z h1 h2 := by rw [lt_cmp] at *; simp at *; omega
  ntrans x y z h1 h2 := by rw [lt_cmp] at *; simp at *; omega
theorem cmpLays (blk off size : Nat) (w : World) : CmpLays Try.prog 45 #[] enc2 2 (fun x y => cmpI x.1 y.1) blk off size w :=
  fun _ _ _ _ x y => closure_b x y _
theorem isAggS : ∀ w, (isAgg 36).run Try.prog w = .ok true w := fun _ => by kernel_rfl
theorem sizeOfS : ∀ w, (Go.sizeOf 36).run Try.prog w = .ok 2 w := fun _ => by kernel_rfl

theorem mapBlock_other (w : World) (blk k : Nat) (f : Array Value → Array Value) (h : k ≠ blk) : (mapBlock w blk f).heap[k]? = w.heap[k]? := by
  simp only [mapBlock, Array.getElem?_modify]; rw [if_neg (by omega)]
theorem below_sorted {base g n : Nat} {w : World} {d : Array (Int × Int)} {os : Array Obj} (hg : base ≤ g) (hb : base ≤ w.heap.size) : Below base w (sortWorldK enc2 2 w g 0 n d os) := by
  refine ⟨rfl, rfl, rfl, ?_, fun k hk => ?_⟩
  · simp [sortWorldK, putRowK, putRow, mapBlock, Sort.ahead, grow]
  · unfold sortWorldK
    rw [heap_grow_old _ _ (by simp [putRowK, putRow, mapBlock, Sort.ahead]; omega)]
    exact mapBlock_other _ _ _ _ (by omega)
theorem holds_own {w : World} {g : Nat} {cur : Array Value} {r : List (Int × Int)} (hcur : w.heap[g]? = some (Obj.cells cur 36 (0, 0))) (htake : cur.toList.take (r.length * 2) = flat r) : HoldsK enc2 2 w g 0 r.toArray := by
  intro j hj
  simp only [size_flatK, List.size_toArray] at hj
  have hfl : j < (flat r).length := by rw [flat_len]; exact hj
  have h1 : (flat r)[j]? = cur[j]? := by
    rw [← htake, List.getElem?_take_of_lt hj]; simp
  have h2 : (flat r)[j]? = some ((flatK enc2 2 r.toArray)[j]!) := by
    rw [get_flatK _ _ _ _ (by simpa using hj)]
    obtain ⟨g1, g2⟩ := flat_at r (j / 2) (by omega)
    have hd : r.toArray[j / 2]! = r.getD (j / 2) (0, 0) := by simp [List.getD_eq_getElem?_getD, show j / 2 < r.length by omega]
    rw [hd]
    by_cases hp : j % 2 = 0
    · rw [hp, show j = j / 2 * 2 by omega, g1, show j / 2 * 2 / 2 = j / 2 by omega]; rfl
    · have hp1 : j % 2 = 1 := by omega
      rw [hp1, show j = j / 2 * 2 + 1 by omega, g2, show (j / 2 * 2 + 1) / 2 = j / 2 by omega]; rfl
  rw [h2] at h1
  refine ⟨?_, ?_⟩
  · simp [World.cell?, hcur, ← h1]
  · simp [World.frozen?, hcur]

theorem sort_b : SortSays := by
  intro base r v w hb hr hown
  obtain ⟨_, ⟨rfl, hn⟩ | ⟨g, cap, cur, rfl, hge, hcur, hle, hmax, hsz, htake⟩⟩ := hown
  · have h0 : r = [] := List.eq_nil_of_length_eq_zero hn
    subst h0
    have hcon := AnyF.slices_SortFunc_none { Try.sortS with } none 0 (.func (.func 45) #[] #[]) w
    change Calls Try.prog 44 _ _ _ at hcon
    exact hcon.mono fun e w' ⟨he, hw⟩ => ⟨he, [], none, 0, List.Perm.refl _, (fun i j _ h => by simp at h), rfl, (fun h => by simp at h), by rw [hw]; exact Below.refl _ _⟩
  · have hH := holds_own hcur htake
    have hblk : g < w.heap.size := (Array.getElem?_eq_some_iff.1 hcur).1
    have eg : ∀ args w, (callFunc 45 args).run Try.prog w = .ok (.enter 45 args) w := enters_of Try.func45 (by kernel_rfl) rfl
    have hcon := AnyQ.slices_SortFunc Try.sortS 2 isAggS sizeOfS enc2 (fun _ => rfl) (fun x v hv => by simp [enc2] at hv; rcases hv with rfl | rfl <;> rfl) (fun x y => cmpI x.1 y.1) swo_cmp 45 #[] g 0 cap r.toArray w eg (cmpLays g 0 _ w) hH hblk (by simp; omega)
    change Calls Try.prog 44 _ _ _ at hcon
    refine hcon.mono ?_
    rintro e w' ⟨he, d', n, os, ⟨hs, _, hp⟩, hso, rfl⟩
    have hsz' : d'.size = r.length := by simpa using hs
    refine ⟨he, d'.toList, some ⟨g, 0, none⟩, cap, ?_, ?_, rfl, ?_, below_sorted hge hb⟩
    · have h2 : (List.take r.length d'.toList).Perm r := by simpa using hp
      rwa [List.take_of_length_le (by simp; omega)] at h2
    · intro i j hij hj
      simp only [Array.length_toList] at hj
      have h := hso i j (Nat.zero_le _) hij (by simp; omega)
      rw [lt_cmp] at h
      simp only [decide_eq_false_iff_not] at h
      have e1 : d'.toList.getD i (0, 0) = d'[i]! := by simp [List.getD_eq_getElem?_getD, show i < d'.size by omega]
      have e2 : d'.toList.getD j (0, 0) = d'[j]! := by simp [List.getD_eq_getElem?_getD, hj]
      rw [e1, e2]; omega
    · intro hp0
      have hH2 := holdsK_sortWorldK_c (enc := enc2) (k := 2) (w := w) (blk := g) (off := 0) r.toArray d' n os hH hblk (by simp [hsz'])
      refine ⟨g, 0, rfl, ?_, fun i hi => ?_⟩
      · have := (below_sorted (n := n) (d := d') (os := os) hge hb).size; omega
      · simp only [Array.length_toList] at hi
        have e1 : d'.toList.getD i (0, 0) = d'[i]! := by simp [List.getD_eq_getElem?_getD, hi]
        have h0 := (hH2.cell (i := i) (c := 0) hi (by omega)).1
        have h1 := (hH2.cell (i := i) (c := 1) hi (by omega)).1
        rw [e1]
        exact ⟨by simpa [enc2] using h0, by simpa [enc2] using h1⟩

end One
end Go.Proofs.Ytjnmgofkdimdaaa
