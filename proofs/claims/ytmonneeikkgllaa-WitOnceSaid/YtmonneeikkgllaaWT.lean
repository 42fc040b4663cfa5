/- The items of calls and deliveries, as plain lists: the one order in which they come (no program). -/
import Derived.Shelf.SlSortCmp.KitK
namespace Go.Proofs.Ytmonneeikkgllaa.WtP
open Go.Sort Go.Proofs
set_option linter.unusedVariables false
/-- An item, when it comes and how it stands to others of that moment. -/
structure T4 where
  mom : Int
  rank : Int
  kind : Int
  idx : Int
  deriving DecidableEq, Inhabited
def lt4 (x y : T4) : Bool := decide (x.mom < y.mom ∨ (x.mom = y.mom ∧ (x.rank < y.rank ∨ (x.rank = y.rank ∧ (x.idx < y.idx ∨ (x.idx = y.idx ∧ x.kind < y.kind))))))
theorem lt4_iff {x y : T4} : lt4 x y = true ↔ (x.mom < y.mom ∨ (x.mom = y.mom ∧ (x.rank < y.rank ∨ (x.rank = y.rank ∧ (x.idx < y.idx ∨ (x.idx = y.idx ∧ x.kind < y.kind)))))) := by unfold lt4; exact decide_eq_true_iff
theorem lt4_no {x y : T4} : lt4 x y = false ↔ ¬ (x.mom < y.mom ∨ (x.mom = y.mom ∧ (x.rank < y.rank ∨ (x.rank = y.rank ∧ (x.idx < y.idx ∨ (x.idx = y.idx ∧ x.kind < y.kind)))))) := by unfold lt4; exact decide_eq_false_iff_not
theorem swo4 : SWO lt4 where
  irrefl x := by rw [lt4_no]; omega
  trans x y z h1 h2 := by rw [lt4_iff] at *; omega
  ntrans x y z h1 h2 := by rw [lt4_no] at *; omega
theorem lt4_tot {x y : T4} (h1 : lt4 x y = false) (h2 : lt4 y x = false) : x = y := by
  rw [lt4_no] at h1 h2
  cases x; cases y
  simp only [T4.mk.injEq] at *
  omega
def cmpI (a b : Int) : Int := if a < b then -1 else if b < a then 1 else 0
/-- What the program compares by. -/
def cf4 (x y : T4) : Int := if cmpI x.mom y.mom ≠ 0 then cmpI x.mom y.mom else cmpI x.rank y.rank
theorem cf4_iff {x y : T4} : ltOf cf4 x y = true ↔ (x.mom < y.mom ∨ (x.mom = y.mom ∧ x.rank < y.rank)) := by
  unfold ltOf cf4 cmpI
  rw [decide_eq_true_iff]
  split <;> split <;> (try split) <;> (try split) <;> omega
theorem cf4_swo : SWO (ltOf cf4) where
  irrefl x := by
    cases h : ltOf cf4 x x with
    | false => rfl
    | true => rw [cf4_iff] at h; omega
  trans x y z h1 h2 := by rw [cf4_iff] at *; omega
  ntrans x y z h1 h2 := by
    cases h : ltOf cf4 x z with
    | false => rfl
    | true =>
      rw [← Bool.not_eq_true, cf4_iff] at h1 h2
      rw [cf4_iff] at h
      omega
theorem cf4_ref (x y : T4) (h : ltOf cf4 x y = true) : lt4 x y = true := by
  rw [cf4_iff] at h; rw [lt4_iff]; omega
/-! The items of calls and of deliveries: sp: where a call's effect is; rg: its Ring; bt: a delivery's At. -/
section
variable (sp : Nat → Int × Bool × Bool) (rg bt : Nat → Int)
def rk (p : Bool) : Int := if p = true then 3 else 0
def effs (i : Nat) : List T4 := if (sp i).2.2 = true then [⟨(sp i).1, rk (sp i).2.1, 1, i⟩] else []
def rngs (i : Nat) : List T4 := if 0 ≤ rg i then [⟨rg i, 1, 2, i⟩] else []
def dels (i : Nat) : List T4 := [⟨bt i, 2, 3, i⟩]
def both (i : Nat) : List T4 := effs sp i ++ rngs rg i
end
def upN (f : Nat → List T4) : Nat → List T4
  | 0 => []
  | n + 1 => upN f n ++ f n
theorem upN_next (f : Nat → List T4) (n : Nat) : upN f (n + 1) = upN f n ++ f n := rfl
theorem mem_upN {f : Nat → List T4} {x : T4} : ∀ {n : Nat}, x ∈ upN f n ↔ ∃ i, i < n ∧ x ∈ f i
  | 0 => by simp [upN]
  | n + 1 => by
    rw [upN_next, List.mem_append, mem_upN]
    constructor
    · rintro (⟨i, h1, h2⟩ | h)
      · exact ⟨i, by omega, h2⟩
      · exact ⟨n, by omega, h⟩
    · rintro ⟨i, h1, h2⟩
      by_cases e : i = n
      · subst e; exact .inr h2
      · exact .inl ⟨i, by omega, h2⟩
theorem len_upN {f : Nat → List T4} {c : Nat} (h : ∀ i, (f i).length ≤ c) : ∀ n, (upN f n).length ≤ c * n
  | 0 => Nat.zero_le _
  | n + 1 => by rw [upN_next, List.length_append, Nat.mul_succ]; have := len_upN h n; have := h n; omega
/-- Those of one rank stand by their numbers. -/
def Pos (l : List T4) : Prop := l.Pairwise fun x y => x.rank = y.rank → x.idx < y.idx
theorem Pos.up {f : Nat → List T4} (h1 : ∀ i x, x ∈ f i → x.idx = (i : Int)) (h2 : ∀ i, Pos (f i)) : ∀ n, Pos (upN f n)
  | 0 => List.Pairwise.nil
  | n + 1 => by
    refine List.pairwise_append.2 ⟨Pos.up h1 h2 n, h2 n, fun x hx y hy _ => ?_⟩
    obtain ⟨i, hi, hxi⟩ := mem_upN.1 hx
    rw [h1 i x hxi, h1 n y hy]; omega
theorem Pos.app {a b : List T4} (ha : Pos a) (hb : Pos b) (h : ∀ x ∈ a, ∀ y ∈ b, x.rank ≠ y.rank) : Pos (a ++ b) := List.pairwise_append.2 ⟨ha, hb, fun x hx y hy e => absurd e (h x hx y hy)⟩
theorem Pos.none : Pos [] := List.Pairwise.nil
theorem Pos.one (x : T4) : Pos [x] := List.pairwise_singleton _ _
section
variable {sp : Nat → Int × Bool × Bool} {rg bt : Nat → Int}
theorem mem_effs {i : Nat} {x : T4} : x ∈ effs sp i ↔ (sp i).2.2 = true ∧ x = ⟨(sp i).1, rk (sp i).2.1, 1, i⟩ := by
  unfold effs; split <;> simp [*]
theorem mem_rngs {i : Nat} {x : T4} : x ∈ rngs rg i ↔ 0 ≤ rg i ∧ x = ⟨rg i, 1, 2, i⟩ := by
  unfold rngs; split <;> simp [*]
theorem mem_dels {i : Nat} {x : T4} : x ∈ dels bt i ↔ x = ⟨bt i, 2, 3, i⟩ := by simp [dels]
theorem rk_cases (p : Bool) : rk p = 0 ∨ rk p = 3 := by unfold rk; split <;> simp
theorem pos_effs (i : Nat) : Pos (effs sp i) := by unfold effs; split; exact Pos.one _; exact Pos.none
theorem pos_rngs (i : Nat) : Pos (rngs rg i) := by unfold rngs; split; exact Pos.one _; exact Pos.none
theorem rank_effs {i : Nat} {x : T4} (h : x ∈ effs sp i) : (x.rank = 0 ∨ x.rank = 3) ∧ x.kind = 1 ∧ x.idx = (i : Int) := by
  obtain ⟨_, rfl⟩ := mem_effs.1 h; exact ⟨rk_cases _, rfl, rfl⟩
theorem rank_rngs {i : Nat} {x : T4} (h : x ∈ rngs rg i) : x.rank = 1 ∧ x.kind = 2 ∧ x.idx = (i : Int) := by
  obtain ⟨_, rfl⟩ := mem_rngs.1 h; exact ⟨rfl, rfl, rfl⟩
theorem rank_dels {i : Nat} {x : T4} (h : x ∈ dels bt i) : x.rank = 2 ∧ x.kind = 3 ∧ x.idx = (i : Int) := by
  obtain rfl := mem_dels.1 h; exact ⟨rfl, rfl, rfl⟩
theorem pos_both (i : Nat) : Pos (both sp rg i) := (pos_effs i).app (pos_rngs i) (fun x hx y hy => by have := (rank_effs hx).1; have := (rank_rngs hy).1; omega)
/-- The program's list, the document's. -/
def allP (sp : Nat → Int × Bool × Bool) (rg bt : Nat → Int) (n m : Nat) : List T4 := upN (both sp rg) n ++ upN (dels bt) m
def allD (sp : Nat → Int × Bool × Bool) (rg bt : Nat → Int) (n m : Nat) : List T4 := upN (effs sp) n ++ upN (rngs rg) n ++ upN (dels bt) m
theorem rank_up {f : Nat → List T4} {p : T4 → Prop} (h : ∀ i x, x ∈ f i → p x) {n : Nat} {x : T4} (hx : x ∈ upN f n) : p x := by
  obtain ⟨i, _, hi⟩ := mem_upN.1 hx; exact h i x hi
theorem pos_allP (n m : Nat) : Pos (allP sp rg bt n m) := by
  refine Pos.app (Pos.up (fun i x hx => ?_) pos_both n) (Pos.up (fun i x hx => (rank_dels hx).2.2) (fun i => Pos.one _) m) (fun x hx y hy => ?_)
  · rcases List.mem_append.1 hx with h | h
    · exact (rank_effs h).2.2
    · exact (rank_rngs h).2.2
  · have h1 := rank_up (p := fun x => x.rank = 2) (fun i x hx => (rank_dels hx).1) hy
    have h2 := rank_up (p := fun x => x.rank ≠ 2) (fun i x hx => by
      rcases List.mem_append.1 hx with h | h
      · have := (rank_effs h).1; omega
      · have := (rank_rngs h).1; omega) hx
    omega
theorem pos_allD (n m : Nat) : Pos (allD sp rg bt n m) := by
  refine Pos.app (Pos.app (Pos.up (fun i x hx => (rank_effs hx).2.2) pos_effs n) (Pos.up (fun i x hx => (rank_rngs hx).2.2) pos_rngs n) (fun x hx y hy => ?_)) (Pos.up (fun i x hx => (rank_dels hx).2.2) (fun i => Pos.one _) m) (fun x hx y hy => ?_)
  · have h1 := rank_up (p := fun x => x.rank = 1) (fun i x hx => (rank_rngs hx).1) hy
    have h2 := rank_up (p := fun x => x.rank ≠ 1) (fun i x hx => by have := (rank_effs hx).1; omega) hx
    omega
  · have h1 := rank_up (p := fun x => x.rank = 2) (fun i x hx => (rank_dels hx).1) hy
    rcases List.mem_append.1 hx with hx | hx
    · have h2 := rank_up (p := fun x => x.rank ≠ 2) (fun i x hx => by have := (rank_effs hx).1; omega) hx
      omega
    · have h2 := rank_up (p := fun x => x.rank ≠ 2) (fun i x hx => by have := (rank_rngs hx).1; omega) hx
      omega
theorem perm_both (sp : Nat → Int × Bool × Bool) (rg : Nat → Int) : ∀ n, (upN (both sp rg) n).Perm (upN (effs sp) n ++ upN (rngs rg) n)
  | 0 => List.Perm.refl _
  | n + 1 => by
    have h1 := (perm_both sp rg n).append_right (effs sp n ++ rngs rg n)
    refine h1.trans ?_
    show (upN (effs sp) n ++ upN (rngs rg) n ++ (effs sp n ++ rngs rg n)).Perm (upN (effs sp) n ++ effs sp n ++ (upN (rngs rg) n ++ rngs rg n))
    rw [List.append_assoc, List.append_assoc]
    refine List.Perm.append_left _ ?_
    rw [← List.append_assoc, ← List.append_assoc]
    exact List.Perm.append_right _ (List.perm_append_comm)
theorem perm_all (n m : Nat) : (allD sp rg bt n m).Perm (allP sp rg bt n m) := ((perm_both sp rg n).symm).append_right _
theorem len_allP (n m : Nat) : (allP sp rg bt n m).length ≤ 2 * n + m := by
  unfold allP
  rw [List.length_append]
  have h1 := len_upN (f := both sp rg) (c := 2) (fun i => by
    unfold both effs rngs
    rw [List.length_append]
    split <;> split <;> simp) n
  have h2 := len_upN (f := dels bt) (c := 1) (fun i => Nat.le_refl _) m
  omega
/-- What is one: one with its kind and number is it. -/
theorem one_all {n m : Nat} {x y : T4} (hx : x ∈ allD sp rg bt n m) (hy : y ∈ allD sp rg bt n m) (hk : x.kind = y.kind) (hi : x.idx = y.idx) : x = y := by
  have g : ∀ z ∈ allD sp rg bt n m, (z.kind = 1 ∧ ∃ i, z ∈ effs sp i) ∨ (z.kind = 2 ∧ ∃ i, z ∈ rngs rg i) ∨ (z.kind = 3 ∧ ∃ i, z ∈ dels bt i) := fun z hz => by
    rcases List.mem_append.1 hz with hz | hz
    · rcases List.mem_append.1 hz with hz | hz
      · obtain ⟨i, _, h⟩ := mem_upN.1 hz; exact .inl ⟨(rank_effs h).2.1, i, h⟩
      · obtain ⟨i, _, h⟩ := mem_upN.1 hz; exact .inr (.inl ⟨(rank_rngs h).2.1, i, h⟩)
    · obtain ⟨i, _, h⟩ := mem_upN.1 hz; exact .inr (.inr ⟨(rank_dels h).2.1, i, h⟩)
  rcases g x hx with ⟨k1, i, h1⟩ | ⟨k1, i, h1⟩ | ⟨k1, i, h1⟩ <;> rcases g y hy with ⟨k2, j, h2⟩ | ⟨k2, j, h2⟩ | ⟨k2, j, h2⟩ <;> (try omega)
  · have e : i = j := by have := (rank_effs h1).2.2; have := (rank_effs h2).2.2; omega
    subst e; rw [(mem_effs.1 h1).2, (mem_effs.1 h2).2]
  · have e : i = j := by have := (rank_rngs h1).2.2; have := (rank_rngs h2).2.2; omega
    subst e; rw [(mem_rngs.1 h1).2, (mem_rngs.1 h2).2]
  · have e : i = j := by have := (rank_dels h1).2.2; have := (rank_dels h2).2.2; omega
    subst e; rw [mem_dels.1 h1, mem_dels.1 h2]
end
/-! The one order. -/
def Srt (l : List T4) : Prop := l.Pairwise fun x y => lt4 y x = false
def ordS (l : List T4) : List T4 := l.mergeSort fun x y => !lt4 y x
theorem ordS_perm (l : List T4) : (ordS l).Perm l := List.mergeSort_perm _ _
theorem ordS_len (l : List T4) : (ordS l).length = l.length := (ordS_perm l).length_eq
theorem ordS_srt (l : List T4) : Srt (ordS l) := by
  have := List.pairwise_mergeSort (le := fun x y => !lt4 y x) (fun a b c h1 h2 => by simp only [Bool.not_eq_true'] at *; exact swo4.ntrans _ _ _ h2 h1) (fun a b => by
    cases h : lt4 b a with
    | false => rfl
    | true => simp [swo4.asymmA h]) l
  exact this.imp (fun h => by simpa using h)
theorem srt_one : ∀ {a b : List T4}, a.Perm b → Srt a → Srt b → a = b
  | [], b, h, _, _ => (List.nil_perm.1 h).symm
  | x :: a, b, h, ha, hb => by
    have hx : x ∈ b := h.subset (List.mem_cons_self ..)
    obtain ⟨y, b', rfl⟩ : ∃ y b', b = y :: b' := by
      cases b with
      | nil => cases hx
      | cons y b' => exact ⟨y, b', rfl⟩
    have hy : y ∈ x :: a := h.symm.subset (List.mem_cons_self ..)
    have e : x = y := by
      rcases List.mem_cons.1 hy with e | h1
      · exact e.symm
      · rcases List.mem_cons.1 hx with e | h2
        · exact e
        · exact lt4_tot ((List.pairwise_cons.1 hb).1 x h2) ((List.pairwise_cons.1 ha).1 y h1)
    subst e
    rw [srt_one ((List.perm_cons x).1 h) (List.pairwise_cons.1 ha).2 (List.pairwise_cons.1 hb).2]
theorem ordS_one {a l : List T4} (h : a.Perm l) (hs : Srt a) : a = ordS l := srt_one (h.trans (ordS_perm l).symm) hs (ordS_srt l)
theorem ordS_same {l l' : List T4} (h : l.Perm l') : ordS l = ordS l' := ordS_one ((ordS_perm l).trans h) (ordS_srt l)
/-! The document: again and again the first one that is left. -/
def isTaken (o : List T4) (x : T4) : Bool := o.any fun y => y.kind == x.kind && y.idx == x.idx
/-- What has been gathered. -/
structure Got (L o : List T4) : Prop where
  sub : ∀ x ∈ o, x ∈ L
  nd : o.Pairwise fun x y => ¬ (x.kind = y.kind ∧ x.idx = y.idx)
  srt : Srt o
  rest : ∀ y ∈ L, isTaken o y = false → ∀ x ∈ o, lt4 y x = false
/-- The best of the first k. -/
structure Best (L o : List T4) (k : Nat) (b : Int) : Prop where
  none : b < 0 → b = -1 ∧ ∀ i y, i < k → L[i]? = some y → isTaken o y = true
  some : 0 ≤ b → ∃ x, b.toNat < k ∧ L[b.toNat]? = some x ∧ isTaken o x = false ∧ ∀ i y, i < k → L[i]? = some y → isTaken o y = false → lt4 y x = false
theorem Best.zero (L o : List T4) : Best L o 0 (-1) := ⟨fun _ => ⟨rfl, fun i y h => by omega⟩, fun h => by omega⟩
/-- Does a new one take the best one's place? -/
def beats (x y : T4) : Bool := decide (y.mom < x.mom) || (decide (y.mom = x.mom) && decide (y.rank < x.rank))
theorem Best.pass {L o : List T4} {k : Nat} {b : Int} {y : T4} (h : Best L o k b) (hy : L[k]? = Option.some y) (ht : isTaken o y = true) : Best L o (k + 1) b := by
  refine ⟨fun hb => ⟨(h.none hb).1, fun i z hi hz => ?_⟩, fun hb => ?_⟩
  · by_cases e : i = k
    · subst e; rw [hy] at hz; injection hz with hz; subst hz; exact ht
    · exact (h.none hb).2 i z (by omega) hz
  · obtain ⟨x, h1, h2, h3, h4⟩ := h.some hb
    refine ⟨x, by omega, h2, h3, fun i z hi hz hn => ?_⟩
    by_cases e : i = k
    · subst e; rw [hy] at hz; injection hz with hz; subst hz; rw [ht] at hn; cases hn
    · exact h4 i z (by omega) hz hn
theorem Best.first {L o : List T4} {k : Nat} {b : Int} {y : T4} (h : Best L o k b) (hb : b < 0) (hy : L[k]? = Option.some y) (ht : isTaken o y = false) : Best L o (k + 1) (k : Int) := by
  refine ⟨fun hb => by omega, fun _ => ⟨y, by rw [Int.toNat_natCast]; omega, by rw [Int.toNat_natCast]; exact hy, ht, fun i z hi hz hn => ?_⟩⟩
  by_cases e : i = k
  · subst e; rw [hy] at hz; injection hz with hz; subst hz; exact swo4.irrefl _
  · rw [(h.none hb).2 i z (by omega) hz] at hn; cases hn
theorem Best.turn {L o : List T4} {k j : Nat} {x y : T4} (h : Best L o k (j : Int)) (hx : L[j]? = Option.some x) (hy : L[k]? = Option.some y) (ht : isTaken o y = false) (hb : beats x y = true) : Best L o (k + 1) (k : Int) := by
  refine ⟨fun hb => by omega, fun _ => ⟨y, by rw [Int.toNat_natCast]; omega, by rw [Int.toNat_natCast]; exact hy, ht, fun i z hi hz hn => ?_⟩⟩
  by_cases e : i = k
  · subst e; rw [hy] at hz; injection hz with hz; subst hz; exact swo4.irrefl _
  · obtain ⟨x', h1, h2, h3, h4⟩ := h.some (by omega)
    rw [Int.toNat_natCast, hx] at h2
    injection h2 with h2
    subst h2
    have g := h4 i z (by omega) hz hn
    have hl : lt4 y x = true := by
      unfold beats at hb
      simp only [Bool.or_eq_true, Bool.and_eq_true, decide_eq_true_eq] at hb
      rw [lt4_iff]; omega
    rw [lt4_no] at g ⊢
    rw [lt4_iff] at hl
    omega
theorem Best.stay {L o : List T4} (hP : Pos L) {k j : Nat} {x y : T4} (h : Best L o k (j : Int)) (hx : L[j]? = Option.some x) (hy : L[k]? = Option.some y) (hb : beats x y = false) : Best L o (k + 1) (j : Int) := by
  refine ⟨fun hb => by omega, fun _ => ?_⟩
  obtain ⟨x', h1, h2, h3, h4⟩ := h.some (by omega)
  rw [Int.toNat_natCast] at h1
  rw [Int.toNat_natCast, hx] at h2
  injection h2 with h2
  subst h2
  refine ⟨x, by rw [Int.toNat_natCast]; omega, by rw [Int.toNat_natCast]; exact hx, h3, fun i z hi hz hn => ?_⟩
  by_cases e : i = k
  · subst e; rw [hy] at hz; injection hz with hz; subst hz
    obtain ⟨hj1, hj2⟩ := List.getElem?_eq_some_iff.1 hx
    obtain ⟨hk1, hk2⟩ := List.getElem?_eq_some_iff.1 hy
    have hp := List.pairwise_iff_getElem.1 hP j i hj1 hk1 h1
    rw [hj2, hk2] at hp
    unfold beats at hb
    simp only [Bool.or_eq_false_iff, Bool.and_eq_false_iff, decide_eq_false_iff_not] at hb
    rw [lt4_no]
    omega
  · exact h4 i z (by omega) hz hn
theorem taken_mem {o : List T4} {x : T4} (h : x ∈ o) : isTaken o x = true := List.any_eq_true.2 ⟨x, h, by simp⟩
theorem taken_app (o : List T4) (x y : T4) : isTaken (o ++ [x]) y = (isTaken o y || (x.kind == y.kind && x.idx == y.idx)) := by simp [isTaken, List.any_append]
theorem Got.nil (L : List T4) : Got L [] := ⟨fun x h => (nomatch h), List.Pairwise.nil, List.Pairwise.nil, fun _ _ _ x h => (nomatch h)⟩
theorem Got.next {L o : List T4} (h : Got L o) {j : Nat} {x : T4} (hx : L[j]? = some x) (hB : Best L o L.length (j : Int)) : Got L (o ++ [x]) ∧ isTaken o x = false := by
  obtain ⟨x', h1, h2, h3, h4⟩ := hB.some (by omega)
  rw [Int.toNat_natCast, hx] at h2
  injection h2 with h2
  subst h2
  have hm : x ∈ L := List.mem_of_getElem? hx
  refine ⟨⟨fun y hy => ?_, ?_, ?_, fun y hy hn z hz => ?_⟩, h3⟩
  · rcases List.mem_append.1 hy with hy | hy
    · exact h.sub y hy
    · rw [List.mem_singleton.1 hy]; exact hm
  · refine List.pairwise_append.2 ⟨h.nd, List.pairwise_singleton _ _, fun y hy z hz e => ?_⟩
    rw [List.mem_singleton.1 hz] at e
    have : isTaken o x = true := List.any_eq_true.2 ⟨y, hy, by simp [e]⟩
    rw [this] at h3; cases h3
  · refine List.pairwise_append.2 ⟨h.srt, List.pairwise_singleton _ _, fun y hy z hz => ?_⟩
    rw [List.mem_singleton.1 hz]
    exact h.rest x hm h3 y hy
  · rw [taken_app, Bool.or_eq_false_iff] at hn
    rcases List.mem_append.1 hz with hz | hz
    · exact h.rest y hy hn.1 z hz
    · rw [List.mem_singleton.1 hz]
      obtain ⟨i, hi, he⟩ := List.getElem_of_mem hy
      exact h4 i y hi (by rw [← he]; exact List.getElem?_eq_getElem hi) hn.1
theorem nodup_of_nd {o : List T4} (h : o.Pairwise fun x y => ¬ (x.kind = y.kind ∧ x.idx = y.idx)) : o.Nodup := h.imp fun h e => h (by rw [e]; exact ⟨rfl, rfl⟩)
theorem nodup_of_pos {l : List T4} (h : Pos l) : l.Nodup := by
  have h2 : l.Pairwise fun (x y : T4) => x.rank = y.rank → x.idx < y.idx := h
  refine h2.imp (fun {a b} h e => ?_)
  subst e
  have := h rfl
  omega
theorem sub_len : ∀ {o L : List T4}, o.Nodup → (∀ x ∈ o, x ∈ L) → o.length ≤ L.length
  | [], L, _, _ => Nat.zero_le _
  | x :: o, L, hn, hs => by
    have hx := hs x (List.mem_cons_self ..)
    have h1 := sub_len (o := o) (L := L.erase x) (List.nodup_cons.1 hn).2 (fun y hy => (List.mem_erase_of_ne (fun e => (List.nodup_cons.1 hn).1 (by rw [← e]; exact hy))).2 (hs y (List.mem_cons_of_mem _ hy)))
    rw [List.length_erase_of_mem hx] at h1
    have := List.length_pos_of_mem hx
    simp only [List.length_cons]
    omega
/-- As long as something is left, something is found. -/
theorem Got.found {L o : List T4} (hone : ∀ x ∈ L, ∀ y ∈ L, x.kind = y.kind → x.idx = y.idx → x = y) (hP : Pos L) (h : Got L o) (hl : o.length < L.length) {b : Int} (hB : Best L o L.length b) : 0 ≤ b := by
  by_cases hb : b < 0
  · exfalso
    have hall := (hB.none hb).2
    have : L.length ≤ o.length := sub_len (nodup_of_pos hP) (fun x hx => by
      obtain ⟨i, hi, he⟩ := List.getElem_of_mem hx
      have := hall i x hi (by rw [← he]; exact List.getElem?_eq_getElem hi)
      obtain ⟨y, hy, hyx⟩ := List.any_eq_true.1 this
      simp at hyx
      rw [hone x hx y (h.sub y hy) hyx.1.symm hyx.2.symm]; exact hy)
    omega
  · omega
theorem perm_of_sub : ∀ {o L : List T4}, o.Nodup → (∀ x ∈ o, x ∈ L) → L.length ≤ o.length → o.Perm L
  | [], L, _, _, hl => by have : L = [] := List.eq_nil_of_length_eq_zero (by simpa using hl); subst this; exact List.Perm.refl _
  | x :: o, L, hn, hs, hl => by
    have hx := hs x (List.mem_cons_self ..)
    have h1 := perm_of_sub (o := o) (L := L.erase x) (List.nodup_cons.1 hn).2 (fun y hy => (List.mem_erase_of_ne (fun e => (List.nodup_cons.1 hn).1 (by rw [← e]; exact hy))).2 (hs y (List.mem_cons_of_mem _ hy))) (by rw [List.length_erase_of_mem hx]; simp only [List.length_cons] at hl; omega)
    exact (h1.cons x).trans (List.perm_cons_erase hx).symm
theorem Got.done {L o : List T4} (h : Got L o) (hl : L.length ≤ o.length) : o = ordS L := ordS_one (perm_of_sub (nodup_of_nd h.nd) h.sub hl) h.srt
theorem Got.le {L o : List T4} (h : Got L o) : o.length ≤ L.length := sub_len (nodup_of_nd h.nd) h.sub
end Go.Proofs.Ytmonneeikkgllaa.WtP
