/- A stable sort by blocks that are joined two by two: what each of its steps does to a row, in plain words (no program). -/
import Derived.Sort.LotA
namespace Go.Proofs.Ytmonneeikkgllaa.StP
open Go.Sort
variable {α : Type} [Inhabited α]
set_option linter.unusedSectionVars false
set_option linter.unusedVariables false

/-- Where a later one is less than an earlier one, the comparison says so: those alike to the comparison stand in order. -/
def Stb (cl lt : α → α → Bool) (a b : Nat) (d : Array α) : Prop := ∀ i j, a ≤ i → i < j → j < b → lt d[j]! d[i]! = true → cl d[j]! d[i]! = true
variable {cl lt : α → α → Bool}
theorem Stb.mono {a b a' b' : Nat} {d : Array α} (h : Stb cl lt a b d) (ha : a ≤ a') (hb : b' ≤ b) : Stb cl lt a' b' d := fun i j h1 h2 h3 => h i j (by omega) h2 (by omega)
theorem Stb.none {a b i j : Nat} {d : Array α} (h : Stb cl lt a b d) (h1 : a ≤ i) (h2 : i < j) (h3 : j < b) (hc : cl d[j]! d[i]! = false) : lt d[j]! d[i]! = false := by
  cases hl : lt d[j]! d[i]! with
  | false => rfl
  | true => rw [h i j h1 h2 h3 hl] at hc; cases hc
/-- A part is put in order: it stays so. -/
theorem Stb.perm {a b lo hi : Nat} {d d' : Array α} (h : Stb cl lt lo hi d) (hp : PermIn a b d d') (hs : SortedIn lt a b d') (hlo : lo ≤ a) (hhi : b ≤ hi) (hsz : b ≤ d.size) : Stb cl lt lo hi d' := by
  intro i j h1 h2 h3 hl
  obtain ⟨_, hout, _⟩ := id hp
  by_cases hi1 : i < a ∨ b ≤ i
  · by_cases hj : j < a ∨ b ≤ j
    · rw [hout i hi1, hout j hj] at *
      exact h i j h1 h2 h3 hl
    · rw [hout i hi1] at *
      have := permIn_all d d' a b (fun x => lt x d[i]! = true → cl x d[i]! = true) hsz hp (fun k k1 k2 => h i k h1 (by omega) (by omega)) j (by omega) (by omega)
      exact this hl
  · by_cases hj : j < a ∨ b ≤ j
    · rw [hout j hj] at *
      have := permIn_all d d' a b (fun x => lt d[j]! x = true → cl d[j]! x = true) hsz hp (fun k k1 k2 => h k j (by omega) (by omega) h3) i (by omega) (by omega)
      exact this hl
    · rw [hs i j (by omega) h2 (by omega)] at hl; cases hl

/-! Insertion. -/
theorem insInner_size (lt : α → α → Bool) (a : Nat) : ∀ (j : Nat) (d : Array α), (insInner lt a j d).size = d.size
  | 0, d => rfl
  | j + 1, d => by
    unfold insInner
    split
    · rw [insInner_size lt a j, size_swp]
    · rfl
theorem insInner_perm (lt : α → α → Bool) (a b : Nat) : ∀ (j : Nat) (d : Array α), j < b → b ≤ d.size → PermIn a b d (insInner lt a j d)
  | 0, d, _, _ => permIn_refl _ _ _
  | j + 1, d, hj, hb => by
    unfold insInner
    split
    · rename_i hc
      simp only [Bool.and_eq_true, decide_eq_true_eq] at hc
      exact permIn_trans _ _ _ _ _ (swp_permIn d a b (j + 1) j (by omega) (by omega) (by omega) (by omega) hb) (insInner_perm lt a b j _ (by omega) (by rw [size_swp]; exact hb))
    · exact permIn_refl _ _ _
theorem insInner_same (a : Nat) : ∀ (j : Nat) (d : Array α), j < d.size → (∀ i, a ≤ i → i < j → cl d[j]! d[i]! = lt d[j]! d[i]!) → insInner cl a j d = insInner lt a j d
  | 0, d, _, _ => by simp [insInner]
  | j + 1, d, hj, h => by
    unfold insInner
    by_cases ha : j + 1 > a
    · rw [h j (by omega) (by omega)]
      have ih : insInner cl a j (swp d (j + 1) j) = insInner lt a j (swp d (j + 1) j) := insInner_same a j _ (by rw [size_swp]; omega) (fun i h1 h2 => by
        rw [swp_right d (j + 1) j (by omega), swp_other d (j + 1) j i (by omega) (by omega)]
        exact h i h1 (by omega))
      rw [ih]
    · simp [show ¬ (j + 1 > a) from ha]
theorem insOuter_same (a b : Nat) : ∀ (n i : Nat) (d : Array α), b - i = n → b ≤ d.size → (∀ j, i ≤ j → j < b → ∀ k, a ≤ k → k < j → cl d[j]! d[k]! = lt d[j]! d[k]!) → insOuter cl a b i d = insOuter lt a b i d
  | 0, i, d, hn, _, _ => by rw [insOuter, if_neg (by omega), insOuter, if_neg (by omega)]
  | n + 1, i, d, hn, hb, h => by
    have hi : i < b := by omega
    rw [show insOuter cl a b i d = insOuter cl a b (i + 1) (insInner cl a i d) by rw [insOuter, if_pos hi], show insOuter lt a b i d = insOuter lt a b (i + 1) (insInner lt a i d) by rw [insOuter, if_pos hi], insInner_same a i d (by omega) (fun k h1 h2 => h i (Nat.le_refl _) hi k h1 h2)]
    have hp : PermIn a (i + 1) d (insInner lt a i d) := insInner_perm lt a (i + 1) i d (by omega) (by omega)
    refine insOuter_same a b n (i + 1) _ (by omega) (by rw [insInner_size]; exact hb) (fun j h1 h2 k h3 h4 => ?_)
    rw [hp.2.1 j (by omega)]
    by_cases hk : k < i + 1
    · exact permIn_all d _ a (i + 1) (fun x => cl d[j]! x = lt d[j]! x) (by omega) hp (fun q q1 q2 => h j (by omega) h2 q q1 (by omega)) k h3 hk
    · rw [hp.2.1 k (by omega)]
      exact h j (by omega) h2 k h3 h4
theorem ins_same (href : ∀ x y, cl x y = true → lt x y = true) {a b : Nat} {d : Array α} (hb : b ≤ d.size) (h : Stb cl lt a b d) : insertionSort cl d a b = insertionSort lt d a b := by
  unfold insertionSort
  refine insOuter_same a b _ _ _ rfl hb (fun j h1 h2 k h3 h4 => ?_)
  cases hl : lt d[j]! d[k]! with
  | true => exact h k j h3 h4 h2 hl
  | false =>
    cases hc : cl d[j]! d[k]! with
    | false => rfl
    | true => rw [href _ _ hc] at hl; cases hl
theorem ins_sorts (hS : SWO lt) (href : ∀ x y, cl x y = true → lt x y = true) {a b : Nat} {d : Array α} (hab : a ≤ b) (hb : b ≤ d.size) (h : Stb cl lt a b d) : PermIn a b d (insertionSort cl d a b) ∧ SortedIn lt a b (insertionSort cl d a b) := by
  rw [ins_same href hb h]
  exact insertionSort_holds hS d a b hab hb

/-! Two ranges exchanged, place by place. -/
structure SwR (d dk : Array α) (a b i : Nat) : Prop where
  size : dk.size = d.size
  fst : ∀ j, j < i → dk[a + j]! = d[b + j]!
  snd : ∀ j, j < i → dk[b + j]! = d[a + j]!
  out : ∀ j, (j < a ∨ a + i ≤ j) → (j < b ∨ b + i ≤ j) → dk[j]! = d[j]!
  perm : ∀ lo hi, lo ≤ a → b + i ≤ hi → hi ≤ d.size → a + i ≤ b → PermIn lo hi d dk
theorem SwR.zero (d : Array α) (a b : Nat) : SwR d d a b 0 := ⟨rfl, fun j h => by omega, fun j h => by omega, fun _ _ _ => rfl, fun _ _ _ _ _ _ => permIn_refl _ _ _⟩
theorem SwR.step {d dk : Array α} {a b i n : Nat} (h : SwR d dk a b i) (hi : i < n) (hab : a + n ≤ b) (hb : b + n ≤ d.size) : SwR d (swp dk (a + i) (b + i)) a b (i + 1) := by
  have hs := h.size
  have g := fun k => swp_get dk (i := a + i) (j := b + i) (by omega) (by omega) k
  refine ⟨by rw [size_swp]; exact hs, fun j hj => ?_, fun j hj => ?_, fun j h1 h2 => ?_, fun lo hi h1 h2 h3 h4 => ?_⟩
  · rw [g]
    by_cases e : j = i
    · subst e; rw [if_neg (by omega), if_pos rfl]; exact h.out _ (by omega) (by omega)
    · rw [if_neg (by omega), if_neg (by omega)]; exact h.fst j (by omega)
  · rw [g]
    by_cases e : j = i
    · subst e; rw [if_pos rfl]; exact h.out _ (by omega) (by omega)
    · rw [if_neg (by omega), if_neg (by omega)]; exact h.snd j (by omega)
  · rw [g, if_neg (by omega), if_neg (by omega)]; exact h.out j (by omega) (by omega)
  · exact permIn_trans _ _ _ _ _ (h.perm lo hi h1 (by omega) h3 (by omega)) (swp_permIn _ _ _ _ _ (by omega) (by omega) (by omega) (by omega) (by omega))

/-! [a, m) and [m, b) have changed places. -/
structure RotP (d d' : Array α) (a m b : Nat) : Prop where
  size : d'.size = d.size
  fst : ∀ x, x < b - m → d'[a + x]! = d[m + x]!
  snd : ∀ x, x < m - a → d'[a + (b - m) + x]! = d[a + x]!
  out : ∀ j, (j < a ∨ b ≤ j) → d'[j]! = d[j]!
  perm : ∀ lo hi, lo ≤ a → b ≤ hi → hi ≤ d.size → PermIn lo hi d d'
theorem RotP.none (d : Array α) {a m b : Nat} (h : a = m ∨ m = b) : RotP d d a m b := by
  refine ⟨rfl, fun x hx => ?_, fun x hx => ?_, fun _ _ => rfl, fun _ _ _ _ _ => permIn_refl _ _ _⟩
  · rcases h with rfl | rfl
    · rfl
    · omega
  · rcases h with rfl | rfl
    · omega
    · rw [show a + (m - m) + x = a + x by omega]
theorem RotP.more {d dk dF : Array α} {m i j : Nat} (hs : SwR d dk (m - i) m j) (hij : j < i) (him : i ≤ m) (_ : m + j ≤ d.size) (h : RotP dk dF (m - (i - j)) m (m + j)) : RotP d dF (m - i) m (m + j) := by
  have hz := hs.size
  refine ⟨h.size.trans hz, fun x hx => ?_, fun x hx => ?_, fun q hq => ?_, fun lo hi h1 h2 h3 => ?_⟩
  · rw [h.out _ (by omega), hs.fst x (by omega)]
  · by_cases hxj : x < j
    · have := h.fst x (by omega)
      rw [show m - i + (m + j - m) + x = m - (i - j) + x by omega, this, hs.snd x hxj]
    · have := h.snd (x - j) (by omega)
      rw [show m - i + (m + j - m) + x = m - (i - j) + (m + j - m) + (x - j) by omega, this, hs.out _ (by omega) (by omega), show m - (i - j) + (x - j) = m - i + x by omega]
  · rw [h.out _ (by omega), hs.out _ (by omega) (by omega)]
  · exact permIn_trans _ _ _ _ _ (hs.perm lo hi h1 (by omega) h3 (by omega)) (h.perm lo hi (by omega) (by omega) (by omega))
theorem RotP.less {d dk dF : Array α} {m i j : Nat} (hs : SwR d dk (m - i) (m + j - i) i) (hij : i < j) (him : i ≤ m) (_ : m + j ≤ d.size) (h : RotP dk dF (m - i) m (m + (j - i))) : RotP d dF (m - i) m (m + j) := by
  have hz := hs.size
  refine ⟨h.size.trans hz, fun x hx => ?_, fun x hx => ?_, fun q hq => ?_, fun lo hi h1 h2 h3 => ?_⟩
  · by_cases hxj : x < j - i
    · rw [h.fst x (by omega), hs.out _ (by omega) (by omega)]
    · have := h.snd (x - (j - i)) (by omega)
      rw [show m - i + x = m - i + (m + (j - i) - m) + (x - (j - i)) by omega, this, hs.fst _ (by omega), show m + j - i + (x - (j - i)) = m + x by omega]
  · rw [h.out _ (by omega)]
    have := hs.snd x (by omega)
    rw [show m - i + (m + j - m) + x = m + j - i + x by omega, this]
  · rw [h.out _ (by omega), hs.out _ (by omega) (by omega)]
  · exact permIn_trans _ _ _ _ _ (hs.perm lo hi h1 (by omega) h3 (by omega)) (h.perm lo hi (by omega) (by omega) (by omega))
theorem RotP.last {d dk : Array α} {m i : Nat} (hs : SwR d dk (m - i) m i) (him : i ≤ m) (_ : m + i ≤ d.size) : RotP d dk (m - i) m (m + i) := by
  refine ⟨hs.size, fun x hx => hs.fst x (by omega), fun x hx => ?_, fun q hq => hs.out _ (by omega) (by omega), fun lo hi h1 h2 h3 => hs.perm lo hi h1 (by omega) h3 (by omega)⟩
  rw [show m - i + (m + i - m) + x = m + x by omega]
  exact hs.snd x (by omega)

/-! symMerge. -/
/-- What is asked of two parts side by side. -/
structure Mg (cl lt : α → α → Bool) (a m b : Nat) (d : Array α) : Prop where
  am : a < m
  mb : m < b
  bs : b ≤ d.size
  left : SortedIn lt a m d
  right : SortedIn lt m b d
  stb : Stb cl lt a b d
/-- What has become of them. -/
def Mgd (lt : α → α → Bool) (a b : Nat) (d d' : Array α) : Prop := PermIn a b d d' ∧ SortedIn lt a b d'
theorem Mg.cmp {a m b : Nat} {d : Array α} (h : Mg cl lt a m b d) (href : ∀ x y, cl x y = true → lt x y = true) {i j : Nat} (h1 : a ≤ i) (h2 : i < m) (h3 : m ≤ j) (h4 : j < b) : cl d[j]! d[i]! = lt d[j]! d[i]! := by
  cases hc : cl d[j]! d[i]! with
  | true => exact (href _ _ hc).symm
  | false => exact (h.stb.none h1 (by omega) h4 hc).symm
theorem le_trans' (hS : SWO lt) {x y z : α} (h1 : lt y x = false) (h2 : lt z y = false) : lt z x = false := hS.ntrans _ _ _ h2 h1
theorem le_lt (hS : SWO lt) {x y z : α} (h1 : lt y x = false) (h2 : lt y z = true) : lt x z = true := by
  cases h : lt x z with
  | true => rfl
  | false => rw [hS.ntrans _ _ _ h1 h] at h2; cases h2
theorem lt_le (hS : SWO lt) {x y z : α} (h1 : lt x y = true) (h2 : lt z y = false) : lt x z = true := by
  cases h : lt x z with
  | true => rfl
  | false => rw [hS.ntrans _ _ _ h h2] at h1; cases h1
theorem SortedIn.le (hS : SWO lt) {a b : Nat} {d : Array α} (h : SortedIn lt a b d) {i j : Nat} (h1 : a ≤ i) (h2 : i ≤ j) (h3 : j < b) : lt d[j]! d[i]! = false := by
  by_cases e : i = j
  · subst e; exact hS.irrefl _
  · exact h i j h1 (by omega) h3
theorem SortedIn.mono {a b a' b' : Nat} {d : Array α} (h : SortedIn lt a b d) (ha : a ≤ a') (hb : b' ≤ b) : SortedIn lt a' b' d := fun i j h1 h2 h3 => h i j (by omega) h2 (by omega)
theorem SortedIn.same {a b : Nat} {d d' : Array α} (h : SortedIn lt a b d) (he : ∀ i, a ≤ i → i < b → d'[i]! = d[i]!) : SortedIn lt a b d' := fun i j h1 h2 h3 => by
  rw [he i h1 (by omega), he j (by omega) h3]; exact h i j h1 h2 h3
/-- The one of the left goes behind those of the right that are less. -/
structure In1 (lt : α → α → Bool) (a b i j : Nat) (d : Array α) : Prop where
  lo : a < i
  ij : i ≤ j
  hi : j ≤ b
  less : ∀ h, a < h → h < i → lt d[h]! d[a]! = true
  more : ∀ h, j ≤ h → h < b → lt d[h]! d[a]! = false
theorem In1.yes (hS : SWO lt) {a b i j c : Nat} {d : Array α} (H : In1 lt a b i j d) (hr : SortedIn lt (a + 1) b d) (h1 : i ≤ c) (h2 : c < j) (hl : lt d[c]! d[a]! = true) : In1 lt a b (c + 1) j d :=
  ⟨by have := H.lo; omega, by omega, H.hi, fun h k1 k2 => by
    have h0 := H.hi
    exact le_lt hS (SortedIn.le hS hr (by omega) (show h ≤ c by omega) (by omega)) hl, H.more⟩
theorem In1.no (hS : SWO lt) {a b i j c : Nat} {d : Array α} (H : In1 lt a b i j d) (hr : SortedIn lt (a + 1) b d) (h1 : i ≤ c) (h2 : c < j) (hl : lt d[c]! d[a]! = false) : In1 lt a b i c d :=
  ⟨H.lo, h1, by have := H.hi; omega, H.less, fun h k1 k2 => by
    have h0 := H.lo
    exact hS.ntrans _ _ _ (SortedIn.le hS hr (show a + 1 ≤ c by omega) k1 k2) hl⟩
/-- It goes there step by step. -/
structure Sh1 (d dk : Array α) (a k : Nat) : Prop where
  size : dk.size = d.size
  fst : ∀ x, a ≤ x → x < k → dk[x]! = d[x + 1]!
  at_ : dk[k]! = d[a]!
  out : ∀ x, x < a ∨ k < x → dk[x]! = d[x]!
  perm : ∀ lo hi, lo ≤ a → k < hi → hi ≤ d.size → PermIn lo hi d dk
theorem Sh1.zero (d : Array α) (a : Nat) : Sh1 d d a a := ⟨rfl, fun x h1 h2 => by omega, rfl, fun _ _ => rfl, fun _ _ _ _ _ => permIn_refl _ _ _⟩
theorem Sh1.step {d dk : Array α} {a k : Nat} (h : Sh1 d dk a k) (hak : a ≤ k) (hk : k + 1 < d.size) : Sh1 d (swp dk k (k + 1)) a (k + 1) := by
  have hs := h.size
  have g := fun q => swp_get dk (i := k) (j := k + 1) (by omega) (by omega) q
  refine ⟨by rw [size_swp]; exact hs, fun x h1 h2 => ?_, ?_, fun x hx => ?_, fun lo hi h1 h2 h3 => ?_⟩
  · rw [g, if_neg (by omega)]
    by_cases e : x = k
    · subst e; rw [if_pos rfl]; exact h.out _ (by omega)
    · rw [if_neg e]; exact h.fst x h1 (by omega)
  · rw [g, if_pos rfl]; exact h.at_
  · rw [g, if_neg (by omega), if_neg (by omega)]; exact h.out x (by omega)
  · exact permIn_trans _ _ _ _ _ (h.perm lo hi h1 (by omega) h3) (swp_permIn _ _ _ _ _ (by omega) (by omega) (by omega) (by omega) (by omega))
theorem Sh1.done (hS : SWO lt) {d dk : Array α} {a b i : Nat} (h : Sh1 d dk a (i - 1)) (H : In1 lt a b i i d) (hr : SortedIn lt (a + 1) b d) (hb : b ≤ d.size) (_ : a < b) : Mgd lt a b d dk := by
  have h0 := H.lo; have h1 := H.hi
  refine ⟨h.perm a b (Nat.le_refl _) (by omega) hb, fun p q p1 p2 p3 => ?_⟩
  by_cases hq : q < i - 1
  · rw [h.fst p p1 (by omega), h.fst q (by omega) hq]; exact hr _ _ (by omega) (by omega) (by omega)
  · by_cases hq1 : q = i - 1
    · subst hq1
      rw [h.at_, h.fst p p1 p2]
      exact hS.asymmA (H.less _ (by omega) (by omega))
    · rw [h.out q (by omega)]
      by_cases hp : p < i - 1
      · rw [h.fst p p1 hp]; exact hr _ _ (by omega) (by omega) p3
      · by_cases hp1 : p = i - 1
        · subst hp1; rw [h.at_]; exact H.more q (by omega) p3
        · rw [h.out p (by omega)]; exact hr _ _ (by omega) p2 p3
/-- The one of the right goes ahead of those of the left that are more. -/
structure In2 (lt : α → α → Bool) (a m i j : Nat) (d : Array α) : Prop where
  lo : a ≤ i
  ij : i ≤ j
  hi : j ≤ m
  less : ∀ h, a ≤ h → h < i → lt d[m]! d[h]! = false
  more : ∀ h, j ≤ h → h < m → lt d[m]! d[h]! = true
theorem In2.no (hS : SWO lt) {a m i j c : Nat} {d : Array α} (H : In2 lt a m i j d) (hr : SortedIn lt a m d) (h1 : i ≤ c) (h2 : c < j) (hl : lt d[m]! d[c]! = false) : In2 lt a m (c + 1) j d :=
  ⟨by have := H.lo; omega, by omega, H.hi, fun h k1 k2 => by
    have h0 := H.hi
    exact hS.ntrans _ _ _ hl (SortedIn.le hS hr k1 (show h ≤ c by omega) (by omega)), H.more⟩
theorem In2.yes (hS : SWO lt) {a m i j c : Nat} {d : Array α} (H : In2 lt a m i j d) (hr : SortedIn lt a m d) (h1 : i ≤ c) (h2 : c < j) (hl : lt d[m]! d[c]! = true) : In2 lt a m i c d :=
  ⟨H.lo, h1, by have := H.hi; omega, H.less, fun h k1 k2 => by
    have h0 := H.lo
    exact lt_le hS hl (SortedIn.le hS hr (by omega) k1 k2)⟩
structure Sh2 (d dk : Array α) (m k : Nat) : Prop where
  size : dk.size = d.size
  fst : ∀ x, k < x → x ≤ m → dk[x]! = d[x - 1]!
  at_ : dk[k]! = d[m]!
  out : ∀ x, x < k ∨ m < x → dk[x]! = d[x]!
  perm : ∀ lo hi, lo ≤ k → m < hi → hi ≤ d.size → PermIn lo hi d dk
theorem Sh2.zero (d : Array α) (m : Nat) : Sh2 d d m m := ⟨rfl, fun x h1 h2 => by omega, rfl, fun _ _ => rfl, fun _ _ _ _ _ => permIn_refl _ _ _⟩
theorem Sh2.step {d dk : Array α} {m k : Nat} (h : Sh2 d dk m (k + 1)) (hk : k < m) (hm : m < d.size) : Sh2 d (swp dk (k + 1) k) m k := by
  have hs := h.size
  have g := fun q => swp_get dk (i := k + 1) (j := k) (by omega) (by omega) q
  refine ⟨by rw [size_swp]; exact hs, fun x h1 h2 => ?_, ?_, fun x hx => ?_, fun lo hi h1 h2 h3 => ?_⟩
  · rw [g, if_neg (by omega)]
    by_cases e : x = k + 1
    · subst e; rw [if_pos rfl]; exact h.out _ (by omega)
    · rw [if_neg e]; exact h.fst x (by omega) h2
  · rw [g, if_pos rfl]; exact h.at_
  · rw [g, if_neg (by omega), if_neg (by omega)]; exact h.out x (by omega)
  · exact permIn_trans _ _ _ _ _ (h.perm lo hi (by omega) h2 h3) (swp_permIn _ _ _ _ _ (by omega) (by omega) (by omega) (by omega) (by omega))
theorem Sh2.done (hS : SWO lt) {d dk : Array α} {a m i : Nat} (h : Sh2 d dk m i) (H : In2 lt a m i i d) (hr : SortedIn lt a m d) (hb : m + 1 ≤ d.size) : Mgd lt a (m + 1) d dk := by
  have h0 := H.lo; have h1 := H.hi
  refine ⟨h.perm a (m + 1) (by omega) (by omega) hb, fun p q p1 p2 p3 => ?_⟩
  by_cases hq : q < i
  · rw [h.out p (by omega), h.out q (by omega)]; exact hr _ _ p1 p2 (by omega)
  · by_cases hq1 : q = i
    · subst hq1
      rw [h.at_, h.out p (by omega)]
      exact H.less _ p1 p2
    · rw [h.fst q (by omega) (by omega)]
      by_cases hp : p < i
      · rw [h.out p (by omega)]; exact SortedIn.le hS hr p1 (by omega) (by omega)
      · by_cases hp1 : p = i
        · subst hp1; rw [h.at_]; exact hS.asymmA (H.more _ (by omega) (by omega))
        · rw [h.fst p (by omega) (by omega)]; exact hr _ _ (by omega) (by omega) (by omega)
/-- Where the two parts are cut. -/
structure Cut (lt : α → α → Bool) (p s0 r0 s r : Nat) (d : Array α) : Prop where
  lo : s0 ≤ s
  sr : s ≤ r
  hi : r ≤ r0
  less : ∀ c, s0 ≤ c → c < s → lt d[p - c]! d[c]! = false
  more : ∀ c, r ≤ c → c < r0 → lt d[p - c]! d[c]! = true
/-- Where the search begins and ends. -/
structure Lim (a m b mid n s0 r0 : Nat) : Prop where
  hmid : mid = (a + b) / 2
  hn : n = mid + m
  big : mid < m → s0 = n - b ∧ r0 = mid
  small : ¬ mid < m → s0 = a ∧ r0 = m
theorem Lim.facts {a m b mid n s0 r0 : Nat} (h : Lim a m b mid n s0 r0) (h1 : a < m) (h2 : m < b) : a ≤ s0 ∧ s0 ≤ r0 ∧ r0 ≤ m ∧ r0 ≤ mid ∧ n ≤ b + s0 ∧ a < mid ∨ b = a + 1 := by
  have e1 := h.hmid; have e2 := h.hn
  by_cases hb : b = a + 1
  · exact .inr hb
  · by_cases g : mid < m
    · obtain ⟨e3, e4⟩ := h.big g; omega
    · obtain ⟨e3, e4⟩ := h.small g; omega
/-- A round's place lies in the left part, its fellow in the right one. -/
theorem Lim.at_ {a m b mid n s0 r0 c : Nat} (h : Lim a m b mid n s0 r0) (h1 : a < m) (h2 : m < b) (h3 : s0 ≤ c) (h4 : c < r0) : a ≤ c ∧ c < m ∧ m ≤ n - 1 - c ∧ n - 1 - c < b ∧ c ≤ n - 1 := by
  have e1 := h.hmid; have e2 := h.hn
  by_cases g : mid < m
  · obtain ⟨e3, e4⟩ := h.big g; omega
  · obtain ⟨e3, e4⟩ := h.small g; omega
theorem Cut.no (hS : SWO lt) {a m b mid n s0 r0 s r c : Nat} {d : Array α} (H : Cut lt (n - 1) s0 r0 s r d) (L : Lim a m b mid n s0 r0) (M : Mg cl lt a m b d) (h1 : s ≤ c) (h2 : c < r) (hl : lt d[n - 1 - c]! d[c]! = false) : Cut lt (n - 1) s0 r0 (c + 1) r d :=
  ⟨by have := H.lo; omega, by omega, H.hi, fun x k1 k2 => by
    have g0 := H.hi; have g1 := H.lo
    obtain ⟨f1, f2, f3, f4, f5⟩ := L.at_ M.am M.mb (show s0 ≤ c by omega) (by omega)
    obtain ⟨f1', f2', f3', f4', f5'⟩ := L.at_ M.am M.mb k1 (show x < r0 by omega)
    exact hS.ntrans _ _ _ (hS.ntrans _ _ _ (SortedIn.le hS M.right f3 (show n - 1 - c ≤ n - 1 - x by omega) f4') hl) (SortedIn.le hS M.left f1' (show x ≤ c by omega) f2), H.more⟩
theorem Cut.yes (hS : SWO lt) {a m b mid n s0 r0 s r c : Nat} {d : Array α} (H : Cut lt (n - 1) s0 r0 s r d) (L : Lim a m b mid n s0 r0) (M : Mg cl lt a m b d) (h1 : s ≤ c) (h2 : c < r) (hl : lt d[n - 1 - c]! d[c]! = true) : Cut lt (n - 1) s0 r0 s c d :=
  ⟨H.lo, h1, by have := H.hi; omega, H.less, fun x k1 k2 => by
    have g0 := H.hi; have g1 := H.lo
    obtain ⟨f1, f2, f3, f4, f5⟩ := L.at_ M.am M.mb (show s0 ≤ c by omega) (by omega)
    obtain ⟨f1', f2', f3', f4', f5'⟩ := L.at_ M.am M.mb (show s0 ≤ x by omega) k2
    exact lt_le hS (le_lt hS (SortedIn.le hS M.right f3' (show n - 1 - x ≤ n - 1 - c by omega) f4) hl) (SortedIn.le hS M.left f1 (show c ≤ x by omega) f2')⟩
/-- The cut's ends, and what lies where behind the rotation. -/
structure Halves (cl lt : α → α → Bool) (a s mid e b : Nat) (d d2 : Array α) : Prop where
  as_ : a ≤ s
  sm : s ≤ mid
  me : mid ≤ e
  eb : e ≤ b
  amid : a < mid
  midb : mid < b
  s1 : SortedIn lt a s d2
  s2 : SortedIn lt s mid d2
  s3 : SortedIn lt mid e d2
  s4 : SortedIn lt e b d2
  st1 : Stb cl lt a mid d2
  st2 : Stb cl lt mid b d2
  apart : ∀ i j, a ≤ i → i < mid → mid ≤ j → j < b → lt d2[j]! d2[i]! = false
  perm : PermIn a b d d2
theorem Cut.halves (hS : SWO lt) {a m b mid n s0 r0 s : Nat} {d d2 : Array α} (H : Cut lt (n - 1) s0 r0 s s d) (L : Lim a m b mid n s0 r0) (M : Mg cl lt a m b d) (hab : a + 1 < b) (R : RotP d d2 s m (n - s)) : Halves cl lt a s mid (n - s) b d d2 := by
  have g0 := H.lo; have g1 := H.hi; have g2 := M.am; have g3 := M.mb; have g4 := M.bs; have e1 := L.hmid; have e2 := L.hn
  have hF : a ≤ s0 ∧ s0 ≤ r0 ∧ r0 ≤ m ∧ r0 ≤ mid ∧ n ≤ b + s0 ∧ a < mid := by
    rcases L.facts M.am M.mb with h | h
    · exact h
    · omega
  obtain ⟨f1, f2, f3, f4, f5, f6⟩ := hF
  -- where each place comes from
  have q1 : ∀ i, i < s → d2[i]! = d[i]! := fun i hi => R.out i (by omega)
  have q2 : ∀ i, s ≤ i → i < mid → d2[i]! = d[m + (i - s)]! := fun i h1 h2 => by
    have := R.fst (i - s) (by omega); rwa [show s + (i - s) = i by omega] at this
  have q3 : ∀ i, mid ≤ i → i < n - s → d2[i]! = d[s + (i - mid)]! := fun i h1 h2 => by
    have := R.snd (i - mid) (by omega); rwa [show s + (n - s - m) + (i - mid) = i by omega] at this
  have q4 : ∀ i, n - s ≤ i → d2[i]! = d[i]! := fun i hi => R.out i (by omega)
  -- what is less than what
  have c1 : ∀ x y, a ≤ x → x < s → n - s ≤ y → y < b → lt d[y]! d[x]! = false := fun x y x1 x2 y1 y2 => by
    by_cases hs : s0 < s
    · have hl := H.less (s - 1) (by omega) (by omega)
      obtain ⟨k1, k2, k3, k4, k5⟩ := L.at_ M.am M.mb (show s0 ≤ s - 1 by omega) (show s - 1 < r0 by omega)
      rw [show n - 1 - (s - 1) = n - s by omega] at hl k3
      exact hS.ntrans _ _ _ (hS.ntrans _ _ _ (SortedIn.le hS M.right k3 y1 y2) hl) (SortedIn.le hS M.left x1 (show x ≤ s - 1 by omega) k2)
    · have hs0 : s = s0 := by omega
      by_cases g : mid < m
      · obtain ⟨e3, e4⟩ := L.big g; omega
      · obtain ⟨e3, e4⟩ := L.small g; omega
  have c2 : ∀ x y, s ≤ x → x < m → m ≤ y → y < n - s → lt d[x]! d[y]! = false := fun x y x1 x2 y1 y2 => by
    by_cases hs : s < r0
    · have hl := H.more s (Nat.le_refl _) hs
      obtain ⟨k1, k2, k3, k4, k5⟩ := L.at_ M.am M.mb (show s0 ≤ s by omega) hs
      exact hS.asymmA (lt_le hS (le_lt hS (SortedIn.le hS M.right y1 (show y ≤ n - 1 - s by omega) k4) hl) (SortedIn.le hS M.left k1 x1 x2))
    · have hs0 : s = r0 := by omega
      by_cases g : mid < m
      · obtain ⟨e3, e4⟩ := L.big g; omega
      · obtain ⟨e3, e4⟩ := L.small g; omega
  refine ⟨by omega, by omega, by omega, by omega, f6, by omega, ?_, ?_, ?_, ?_, ?_, ?_, ?_, R.perm a b (by omega) (by omega) g4⟩
  · intro i j h1 h2 h3
    rw [q1 i (by omega), q1 j h3]; exact M.left i j h1 h2 (by omega)
  · intro i j h1 h2 h3
    rw [q2 i h1 (by omega), q2 j (by omega) h3]; exact M.right _ _ (by omega) (by omega) (by omega)
  · intro i j h1 h2 h3
    rw [q3 i h1 (by omega), q3 j (by omega) h3]; exact M.left _ _ (by omega) (by omega) (by omega)
  · intro i j h1 h2 h3
    rw [q4 i h1, q4 j (by omega)]; exact M.right _ _ (by omega) (by omega) (by omega)
  · intro i j h1 h2 h3
    by_cases hj : j < s
    · rw [q1 i (by omega), q1 j hj]; exact M.stb _ _ h1 h2 (by omega)
    · rw [q2 j (by omega) h3]
      by_cases hi : i < s
      · rw [q1 i hi]; exact M.stb _ _ h1 (by omega) (by omega)
      · rw [q2 i (by omega) (by omega)]; exact M.stb _ _ (by omega) (by omega) (by omega)
  · intro i j h1 h2 h3
    by_cases hj : j < n - s
    · rw [q3 i h1 (by omega), q3 j (by omega) hj]; exact M.stb _ _ (by omega) (by omega) (by omega)
    · rw [q4 j (by omega)]
      by_cases hi : i < n - s
      · rw [q3 i h1 hi]; exact M.stb _ _ (by omega) (by omega) h3
      · rw [q4 i (by omega)]; exact M.stb _ _ (by omega) h2 h3
  · intro i j h1 h2 h3 h4
    by_cases hi : i < s
    · rw [q1 i hi]
      by_cases hj : j < n - s
      · rw [q3 j h3 hj]; exact SortedIn.le hS M.left h1 (by omega) (by omega)
      · rw [q4 j (by omega)]; exact c1 i j h1 hi (by omega) h4
    · rw [q2 i (by omega) h2]
      by_cases hj : j < n - s
      · rw [q3 j h3 hj]; exact c2 _ _ (by omega) (by omega) (by omega) (by omega)
      · rw [q4 j (by omega)]; exact SortedIn.le hS M.right (by omega) (by omega) h4
/-- Both halves put in order. -/
theorem Halves.join {a s mid e b : Nat} {d d2 d3 d4 : Array α} (H : Halves cl lt a s mid e b d d2) (hb : b ≤ d.size) (h3 : Mgd lt a mid d2 d3) (h4 : Mgd lt mid b d3 d4) : Mgd lt a b d d4 := by
  have g1 := H.amid; have g2 := H.midb
  have z2 : d2.size = d.size := H.perm.1
  have z3 : d3.size = d.size := h3.1.1.trans z2
  refine ⟨permIn_trans _ _ _ _ _ (permIn_trans _ _ _ _ _ H.perm (permIn_mono d2 d3 a mid a b (Nat.le_refl _) (by omega) (by omega) h3.1)) (permIn_mono d3 d4 mid b a b (by omega) (Nat.le_refl _) (by omega) h4.1), fun i j i1 ij jb => ?_⟩
  have p3 : ∀ i j, a ≤ i → i < mid → mid ≤ j → j < b → lt d3[j]! d3[i]! = false := fun i j i1 i2 j1 j2 => by
    rw [h3.1.2.1 j (.inr j1)]
    exact permIn_all d2 d3 a mid (fun x => lt d2[j]! x = false) (by omega) h3.1 (fun k k1 k2 => H.apart k j k1 k2 j1 j2) i i1 i2
  by_cases hi : i < mid
  · rw [h4.1.2.1 i (.inl hi)]
    by_cases hj : j < mid
    · rw [h4.1.2.1 j (.inl hj)]; exact h3.2 i j i1 ij hj
    · exact permIn_all d3 d4 mid b (fun x => lt x d3[i]! = false) (by omega) h4.1 (fun k k1 k2 => p3 i k i1 hi k1 k2) j (by omega) jb
  · exact h4.2 i j (by omega) ij jb
theorem Halves.mg1 {a s mid e b : Nat} {d d2 : Array α} (H : Halves cl lt a s mid e b d d2) (hb : b ≤ d.size) (h1 : a < s) (h2 : s < mid) : Mg cl lt a s mid d2 := ⟨h1, h2, by have := H.perm.1; have := H.midb; omega, H.s1, H.s2, H.st1⟩
theorem Halves.no1 {a s mid e b : Nat} {d d2 : Array α} (H : Halves cl lt a s mid e b d d2) (h : ¬ (a < s ∧ s < mid)) : Mgd lt a mid d2 d2 := by
  have := H.as_; have := H.sm
  refine ⟨permIn_refl _ _ _, ?_⟩
  by_cases e : a = s
  · subst e; exact H.s2
  · obtain rfl : s = mid := by omega
    exact H.s1
theorem Halves.mg2 {a s mid e b : Nat} {d d2 d3 : Array α} (H : Halves cl lt a s mid e b d d2) (hb : b ≤ d.size) (h3 : Mgd lt a mid d2 d3) (h1 : mid < e) (h2 : e < b) : Mg cl lt mid e b d3 := by
  have hz : d3.size = d.size := h3.1.1.trans H.perm.1
  have he : ∀ i, mid ≤ i → d3[i]! = d2[i]! := fun i hi => h3.1.2.1 i (.inr hi)
  exact ⟨h1, h2, by omega, SortedIn.same H.s3 (fun i i1 _ => he i i1), SortedIn.same H.s4 (fun i i1 _ => he i (by omega)), fun i j i1 ij jb => by rw [he i i1, he j (by omega)]; exact H.st2 i j i1 ij jb⟩
theorem Halves.no2 {a s mid e b : Nat} {d d2 d3 : Array α} (H : Halves cl lt a s mid e b d d2) (h3 : Mgd lt a mid d2 d3) (h : ¬ (mid < e ∧ e < b)) : Mgd lt mid b d3 d3 := by
  have := H.me; have := H.eb
  have he : ∀ i, mid ≤ i → d3[i]! = d2[i]! := fun i hi => h3.1.2.1 i (.inr hi)
  refine ⟨permIn_refl _ _ _, ?_⟩
  by_cases e1 : mid = e
  · subst e1; exact SortedIn.same H.s4 (fun i i1 _ => he i i1)
  · obtain rfl : e = b := by omega
    exact SortedIn.same H.s3 (fun i i1 _ => he i i1)

/-! Blocks. -/
theorem div_in {bs q i : Nat} (h1 : bs * q ≤ i) (h2 : i < bs * q + bs) : i / bs = q :=
  Nat.div_eq_of_lt_le (by rw [Nat.mul_comm]; exact h1) (by rw [Nat.succ_mul, Nat.mul_comm]; exact h2)
theorem div_lt {bs q i : Nat} (hb : 0 < bs) (h : i < bs * q) : i / bs < q := (Nat.div_lt_iff_lt_mul hb).2 (by rw [Nat.mul_comm]; exact h)
theorem div_ge {bs q i : Nat} (hb : 0 < bs) (h : bs * q ≤ i) : q ≤ i / bs := (Nat.le_div_iff_mul_le hb).2 (by rw [Nat.mul_comm]; exact h)
/-- Each block is in order, and those alike stand in order; it is what was there at first. -/
structure Blk (cl lt : α → α → Bool) (bs n : Nat) (d0 d : Array α) : Prop where
  stb : Stb cl lt 0 n d
  perm : PermIn 0 n d0 d
  sort : ∀ i j, i < j → j < n → i / bs = j / bs → lt d[j]! d[i]! = false
/-- .. as far as q blocks of 20. -/
structure Blk0 (cl lt : α → α → Bool) (n q : Nat) (d0 d : Array α) : Prop where
  stb : Stb cl lt 0 n d
  perm : PermIn 0 n d0 d
  sort : ∀ i j, i < j → j < 20 * q → i / 20 = j / 20 → lt d[j]! d[i]! = false
theorem Blk0.next {n q : Nat} {d0 d d' : Array α} (H : Blk0 cl lt n q d0 d) (hn : n ≤ d0.size) (hq : 20 * q + 20 ≤ n) (h : Mgd lt (20 * q) (20 * q + 20) d d') : Blk0 cl lt n (q + 1) d0 d' := by
  have hz : d.size = d0.size := H.perm.1
  refine ⟨H.stb.perm h.1 h.2 (by omega) (by omega) (by omega), permIn_trans _ _ _ _ _ H.perm (permIn_mono d d' _ _ 0 n (by omega) (by omega) (by omega) h.1), fun i j ij jq he => ?_⟩
  by_cases hj : j < 20 * q
  · rw [h.1.2.1 i (.inl (by omega)), h.1.2.1 j (.inl hj)]; exact H.sort i j ij hj he
  · exact h.2 i j (by omega) ij (by omega)
theorem Blk0.done {n q : Nat} {d0 d d' : Array α} (H : Blk0 cl lt n q d0 d) (hn : n ≤ d0.size) (hq : 20 * q ≤ n) (hq2 : n < 20 * q + 20) (h : Mgd lt (20 * q) n d d') : Blk cl lt 20 n d0 d' := by
  have hz : d.size = d0.size := H.perm.1
  refine ⟨H.stb.perm h.1 h.2 (by omega) (by omega) (by omega), permIn_trans _ _ _ _ _ H.perm (permIn_mono d d' _ _ 0 n (by omega) (by omega) (by omega) h.1), fun i j ij jq he => ?_⟩
  by_cases hj : j < 20 * q
  · rw [h.1.2.1 i (.inl (by omega)), h.1.2.1 j (.inl hj)]; exact H.sort i j ij hj he
  · exact h.2 i j (by omega) ij (by omega)
/-- Blocks are joined two by two, as far as q of them. -/
structure Blk2 (cl lt : α → α → Bool) (bs n q : Nat) (d0 d : Array α) : Prop where
  stb : Stb cl lt 0 n d
  perm : PermIn 0 n d0 d
  fst : ∀ i j, i < j → j < n → j < 2 * bs * q → i / (2 * bs) = j / (2 * bs) → lt d[j]! d[i]! = false
  snd : ∀ i j, i < j → j < n → 2 * bs * q ≤ i → i / bs = j / bs → lt d[j]! d[i]! = false
theorem Blk.start {bs n : Nat} {d0 d : Array α} (H : Blk cl lt bs n d0 d) : Blk2 cl lt bs n 0 d0 d := ⟨H.stb, H.perm, fun i j _ _ h => by omega, fun i j h1 h2 _ h3 => H.sort i j h1 h2 h3⟩
theorem Blk2.mg {bs n q b : Nat} {d0 d : Array α} (H : Blk2 cl lt bs n q d0 d) (hb : 0 < bs) (hn : n ≤ d0.size) (h1 : 2 * bs * q + bs < b) (h2 : b ≤ 2 * bs * q + 2 * bs) (h3 : b ≤ n) : Mg cl lt (2 * bs * q) (2 * bs * q + bs) b d := by
  have hz : d.size = d0.size := H.perm.1
  have e0 : bs * (2 * q) = 2 * bs * q := by rw [← Nat.mul_assoc, Nat.mul_comm bs 2]
  have e1 : bs * (2 * q + 1) = 2 * bs * q + bs := by rw [Nat.mul_add, e0, Nat.mul_one]
  refine ⟨by omega, h1, by omega, fun i j i1 ij j2 => H.snd i j ij (by omega) i1 ?_, fun i j i1 ij j2 => H.snd i j ij (by omega) (by omega) ?_, H.stb.mono (by omega) h3⟩
  · rw [div_in (bs := bs) (q := 2 * q) (by omega) (by omega), div_in (bs := bs) (q := 2 * q) (by omega) (by omega)]
  · rw [div_in (bs := bs) (q := 2 * q + 1) (by omega) (by omega), div_in (bs := bs) (q := 2 * q + 1) (by omega) (by omega)]
theorem Blk2.next {bs n q : Nat} {d0 d d' : Array α} (H : Blk2 cl lt bs n q d0 d) (hb : 0 < bs) (hn : n ≤ d0.size) (hq : 2 * bs * q + 2 * bs ≤ n) (h : Mgd lt (2 * bs * q) (2 * bs * q + 2 * bs) d d') : Blk2 cl lt bs n (q + 1) d0 d' := by
  have hz : d.size = d0.size := H.perm.1
  have e2 : 2 * bs * (q + 1) = 2 * bs * q + 2 * bs := by rw [Nat.mul_add, Nat.mul_one]
  refine ⟨H.stb.perm h.1 h.2 (by omega) (by omega) (by omega), permIn_trans _ _ _ _ _ H.perm (permIn_mono d d' _ _ 0 n (by omega) (by omega) (by omega) h.1), fun i j ij jn jq he => ?_, fun i j ij jn iq he => ?_⟩
  · rw [e2] at jq
    by_cases hj : j < 2 * bs * q
    · rw [h.1.2.1 i (.inl (by omega)), h.1.2.1 j (.inl hj)]; exact H.fst i j ij jn hj he
    · have hi : 2 * bs * q ≤ i := by
        have g1 := div_ge (show 0 < 2 * bs by omega) (show 2 * bs * q ≤ j by omega)
        have g2 : ¬ i < 2 * bs * q := fun hi => by
          have := div_lt (show 0 < 2 * bs by omega) hi
          omega
        omega
      exact h.2 i j hi ij jq
  · rw [e2] at iq
    rw [h.1.2.1 i (.inr (by omega)), h.1.2.1 j (.inr (by omega))]; exact H.snd i j ij jn (by omega) he
theorem Blk2.done {bs n q : Nat} {d0 d d' : Array α} (H : Blk2 cl lt bs n q d0 d) (hb : 0 < bs) (hn : n ≤ d0.size) (hq0 : 2 * bs * q ≤ n) (hq : n < 2 * bs * q + 2 * bs) (h : Mgd lt (2 * bs * q) n d d') : Blk cl lt (2 * bs) n d0 d' := by
  have hz : d.size = d0.size := H.perm.1
  refine ⟨H.stb.perm h.1 h.2 (by omega) (by omega) (by omega), permIn_trans _ _ _ _ _ H.perm (permIn_mono d d' _ _ 0 n (by omega) (by omega) (by omega) h.1), fun i j ij jn he => ?_⟩
  by_cases hj : j < 2 * bs * q
  · rw [h.1.2.1 i (.inl (by omega)), h.1.2.1 j (.inl hj)]; exact H.fst i j ij jn hj he
  · have hi : 2 * bs * q ≤ i := by
      have g1 := div_ge (show 0 < 2 * bs by omega) (show 2 * bs * q ≤ j by omega)
      have g2 : ¬ i < 2 * bs * q := fun hi => by
        have := div_lt (show 0 < 2 * bs by omega) hi
        omega
      omega
    exact h.2 i j hi ij jn
theorem Blk2.short {bs n q : Nat} {d0 d : Array α} (H : Blk2 cl lt bs n q d0 d) (hb : 0 < bs) (h : n ≤ 2 * bs * q + bs) : Mgd lt (2 * bs * q) n d d := by
  have e0 : bs * (2 * q) = 2 * bs * q := by rw [← Nat.mul_assoc, Nat.mul_comm bs 2]
  refine ⟨permIn_refl _ _ _, fun i j i1 ij jn => H.snd i j ij jn i1 ?_⟩
  rw [div_in (bs := bs) (q := 2 * q) (by omega) (by omega), div_in (bs := bs) (q := 2 * q) (by omega) (by omega)]
theorem Blk.all {bs n : Nat} {d0 d : Array α} (H : Blk cl lt bs n d0 d) (h : n ≤ bs) : Mgd lt 0 n d0 d :=
  ⟨H.perm, fun i j _ ij jn => H.sort i j ij jn (by rw [Nat.div_eq_of_lt (by omega), Nat.div_eq_of_lt (by omega)])⟩
end Go.Proofs.Ytmonneeikkgllaa.StP
