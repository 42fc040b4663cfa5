/- Spans that lie one behind the other. No condition but those in the statements. -/
import Derived.Test.YtjnmgofkdimdaaaLSame
import Derived.Test.YtjnmgofkdimdaaaOneSort
import Derived.BigQuiet
namespace Go.Proofs.Ytjnmgofkdimdaaa
open Go.RowKit Go.Sort Go.ChangeShapes Go.WideShapes
set_option linter.unusedVariables false
set_option linter.unusedSimpArgs false

/-- Spans one behind the other, from e on. -/
def chained : Int → List (Int × Int) → Prop
  | _, [] => True
  | e, (f, s) :: t => f = e ∧ 0 ≤ s ∧ chained (e + s) t
def sumS : List (Int × Int) → Int
  | [] => 0
  | (_, s) :: t => s + sumS t
theorem sumS_app : ∀ a b : List (Int × Int), sumS (a ++ b) = sumS a + sumS b
  | [], b => by simp [sumS]
  | (f, s) :: a, b => by
    show s + sumS (a ++ b) = s + sumS a + sumS b
    rw [sumS_app a b]; omega
theorem chained_app : ∀ (a b : List (Int × Int)) (e : Int), chained e a → chained (e + sumS a) b → chained e (a ++ b)
  | [], b, e, _, h => by simpa [sumS] using h
  | (f, s) :: a, b, e, h1, h2 => ⟨h1.1, h1.2.1, chained_app a b (e + s) h1.2.2 (by rw [show e + s + sumS a = e + sumS ((f, s) :: a) from by show _ = e + (s + sumS a); omega]; exact h2)⟩
theorem sumS_nonneg : ∀ {xs : List (Int × Int)} {e : Int}, chained e xs → 0 ≤ sumS xs
  | [], _, _ => Int.le_refl _
  | (f, s) :: t, e, h => by
    have := sumS_nonneg h.2.2
    have := h.2.1
    show 0 ≤ s + sumS t
    omega
/-- Each of them begins from e on. -/
theorem chained_from : ∀ {xs : List (Int × Int)} {e : Int}, chained e xs → ∀ x ∈ xs, e ≤ x.1 ∧ 0 ≤ x.2 ∧ x.1 + x.2 ≤ e + sumS xs
  | [], _, _, x, hx => by cases hx
  | (f, s) :: t, e, h, x, hx => by
    have hn := sumS_nonneg h.2.2
    rcases List.mem_cons.1 hx with rfl | hx
    · have h1 := h.1; have h2 := h.2.1
      show e ≤ f ∧ 0 ≤ s ∧ f + s ≤ e + (s + sumS t)
      omega
    · have := chained_from h.2.2 x hx
      have h2 := h.2.1
      show e ≤ x.1 ∧ 0 ≤ x.2 ∧ x.1 + x.2 ≤ e + (s + sumS t)
      omega
theorem chained_pair : ∀ {xs : List (Int × Int)} {e : Int}, chained e xs → xs.Pairwise (fun x y => x.1 + x.2 ≤ y.1)
  | [], _, _ => List.Pairwise.nil
  | (f, s) :: t, e, h => by
    refine List.Pairwise.cons (fun y hy => ?_) (chained_pair h.2.2)
    have := chained_from h.2.2 y hy
    have h1 := h.1
    show f + s ≤ y.1
    omega
theorem off_before {x y : Int × Int} (h : x.1 + x.2 ≤ y.1) : One.Off x y := by
  unfold One.Off
  cases hm : One.meetsB x.1 x.2 y.1 y.2 with
  | false => rfl
  | true =>
    have := (One.meetsB_yes.1 hm).2
    omega
theorem chained_apart {xs : List (Int × Int)} {e : Int} (h : chained e xs) : One.apartB xs = true :=
  (One.apart_pairwise xs).2 ((chained_pair h).imp fun hh => off_before hh)
theorem chained_pv {c : Cfg} (h : Accd c) : ∀ n, n ≤ c.parts.length → chained 0 ((pvL c n).map pr) ∧ sumS ((pvL c n).map pr) = privUp c.parts n
  | 0, _ => ⟨trivial, rfl⟩
  | n + 1, hn => by
    obtain ⟨h1, h2⟩ := chained_pv h n (by omega)
    have h3 := h.priv n (by omega)
    rw [pvL_succ, List.map_append]
    refine ⟨chained_app _ _ _ h1 ?_, ?_⟩
    · rw [h2, Int.zero_add]
      exact ⟨rfl, h3.1, trivial⟩
    · rw [sumS_app, h2]
      show privUp c.parts n + (fld (row c.parts n) 1 + 0) = privUp c.parts n + fld (row c.parts n) 1
      omega
theorem chained_ch {c : Cfg} (h : Accd c) : ∀ k, k ≤ c.chans.length → chained (beforeN c 0) (interN (srL c c.chans.length) (dsL c c.chans.length) k) ∧ beforeN c 0 + sumS (interN (srL c c.chans.length) (dsL c c.chans.length) k) = beforeN c k
  | 0, _ => ⟨trivial, by show beforeN c 0 + 0 = _; omega⟩
  | k + 1, hk => by
    obtain ⟨h1, h2⟩ := chained_ch h k (by omega)
    have hs := srcN_of h (i := k) (by omega)
    show chained (beforeN c 0) (interN (srL c c.chans.length) (dsL c c.chans.length) k ++ [pr (row (srL c c.chans.length) k), pr (row (dsL c c.chans.length) k)]) ∧ beforeN c 0 + sumS (interN (srL c c.chans.length) (dsL c c.chans.length) k ++ [pr (row (srL c c.chans.length) k), pr (row (dsL c c.chans.length) k)]) = _
    rw [row_at (srL_at c (by omega)), row_at (dsL_at c (by omega))]
    refine ⟨chained_app _ _ _ h1 ?_, ?_⟩
    · rw [h2]
      exact ⟨rfl, by show 0 ≤ srcN (row c.chans k); omega, rfl, by show (0 : Int) ≤ 1; omega, trivial⟩
    · rw [sumS_app, ← Int.add_assoc, h2, beforeN_succ]
      show beforeN c k + (srcN (row c.chans k) + (1 + 0)) = beforeN c k + srcN (row c.chans k) + 1
      omega
theorem chained_all {c : Cfg} (hq : acceptsB c = true) : chained 0 (allS c) ∧ sumS (allS c) = sizeN c := by
  have ha := accd_of hq
  have h1 := chained_pv ha _ (Nat.le_refl _)
  have h2 := chained_ch ha _ (Nat.le_refl _)
  unfold allS sizeN
  rw [show PV c = pvL c c.parts.length from if_pos hq, show SR c = srL c c.chans.length from if_pos hq, show DS c = dsL c c.chans.length from if_pos hq, if_pos hq, srL_len]
  rw [beforeN_zero] at h2
  refine ⟨chained_app _ _ _ h1.1 (by rw [h1.2, Int.zero_add]; exact h2.1), ?_⟩
  rw [sumS_app, h1.2]
  exact h2.2
/-- m pieces of one size, one behind the other. -/
def pcsN (B sz : Int) (m : Nat) : List (Int × Int) := (List.range m).map (fun j : Nat => (B + (j : Int) * sz, sz))
theorem pcsN_len (B sz : Int) (m : Nat) : (pcsN B sz m).length = m := by simp [pcsN]
theorem pcsN_succ (B sz : Int) (m : Nat) : pcsN B sz (m + 1) = pcsN B sz m ++ [(B + (m : Int) * sz, sz)] := by simp [pcsN, List.range_succ]
theorem chained_pcs (B sz : Int) (hs : 0 ≤ sz) : ∀ m, chained B (pcsN B sz m) ∧ sumS (pcsN B sz m) = (m : Int) * sz
  | 0 => ⟨trivial, by simp [pcsN, sumS]⟩
  | m + 1 => by
    obtain ⟨h1, h2⟩ := chained_pcs B sz hs m
    rw [pcsN_succ]
    refine ⟨chained_app _ _ _ h1 ?_, ?_⟩
    · rw [h2]; exact ⟨rfl, hs, trivial⟩
    · rw [sumS_app, h2]
      show (m : Int) * sz + (sz + 0) = ((m + 1 : Nat) : Int) * sz
      rw [Int.natCast_add, Int.add_mul]
      simp
theorem in_of {f s g t : Int} (h0 : 0 ≤ g) (h1 : 0 ≤ t) (h2 : g + t ≤ 2147483647) (h3 : g ≤ f) (h4 : f + s ≤ g + t) : One.inB f s g t = true :=
  One.inB_yes.2 fun _ => ⟨One.rightB_yes.2 (by omega), h3, h4⟩
theorem RowN.pairs {w : World} {B : Nat} {A : Option Addr} {xs : List (Int × Int)} (h : RowN [.i64, .i64] w B A (xs.map two)) : PairRow w B A xs := fun hp => by
  obtain ⟨b, o, hA, hb, hc⟩ := h (by simpa using hp)
  refine ⟨b, o, hA, hb, fun i hi => ?_⟩
  have hx : (xs.map two)[i]? = some (two xs[i]) := by simp [hi]
  have hd : xs.getD i (0, 0) = xs[i] := by simp [List.getD_eq_getElem?_getD, hi]
  rw [hd]
  have h0 := hc i _ hx 0 _ rfl
  have h1 := hc i _ hx 1 _ rfl
  exact ⟨by simpa using h0, by simpa using h1⟩
/-- A row of the call's own, as pairs. -/
theorem own_pairs {w : World} {base n : Nat} {v : Value} {xs : List (Int × Int)} (h : OwnsOff w base 36 2 v n (scells xs)) (hn : xs.length = n) (hw : wfR [.i64, .i64] (xs.map two)) :
    ∃ A cap, v = .slice A n cap ∧ n ≤ cap ∧ PairRow w w.heap.size A xs := by
  subst hn
  obtain ⟨A, cap, rfl, h1, _, hr, _, _⟩ := OwnsOff.rowN (ks := [.i64, .i64]) (l := xs.map two) (by rw [List.length_map]; exact h) hw
  rw [List.length_map] at h1
  exact ⟨A, cap, by rw [List.length_map], h1, hr.pairs⟩
theorem pcs_wf {B sz : Int} (h0 : 0 ≤ B) (h1 : B ≤ 2000) (h2 : 0 ≤ sz) (h3 : sz ≤ 20) {m : Nat} (hm : m ≤ 8) : wfR [.i64, .i64] ((pcsN B sz m).map two) := by
  intro q hq
  obtain ⟨x, hx, rfl⟩ := List.mem_map.1 hq
  obtain ⟨j, hj, rfl⟩ := List.mem_map.1 hx
  have hj := List.mem_range.1 hj
  have m1 : 0 ≤ (j : Int) * sz := Int.mul_nonneg (by omega) h2
  have m2 : (j : Int) * sz ≤ 8 * 20 := Int.mul_le_mul (by omega) (by omega) h2 (by omega)
  exact span2_wf (by show _ ≤ B + (j : Int) * sz ∧ _; omega) (by show _ ≤ sz ∧ _; omega)
end Go.Proofs.Ytjnmgofkdimdaaa
