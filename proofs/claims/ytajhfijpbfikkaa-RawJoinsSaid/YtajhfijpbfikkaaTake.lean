/- Clone and Take as contracts. No condition but those in the statements. -/
import Derived.Test.YtajhfijpbfikkaaRaw
namespace Go.Proofs.Ytajhfijpbfikkaa
open Go.RowKit Go.Sort

theorem IntRowK.newsAt {w : World} {B : Nat} {ad : Addr} {xs : List Int} (h : IntRowK .u32 w B (some ad) xs) : ∀ j u, (wcells xs)[j]? = some u → w.cell? (ad.add j) = some u := by
  intro j u hj
  have hl : j < xs.length := by have := (List.getElem?_eq_some_iff.1 hj).1; simpa using this
  obtain ⟨b, o', he, _, hc⟩ := h (by omega)
  cases he
  rw [wcells_at xs j hl] at hj
  cases hj
  rw [Addr.add_lit]
  exact hc j hl
/-- A call that hands back a new list of words, and turns nothing that was there. -/
def GivesWords (w : World) (xs : List Int) (e : Ending) (w' : World) : Prop :=
  ∃ v, e = .returned v ∧ OwnsOff w' w.heap.size 31 1 v xs.length (wcells xs) ∧ Below w.heap.size w w'

theorem clone_b (A : Option Addr) (c B : Nat) (xs : List Int) (w : World) (h : IntRowK .u32 w B A xs) (hn : A = none → xs = []) (hl : xs.length ≤ 1000000) :
    Calls Try.prog 18 #[.slice A xs.length c] w (GivesWords w xs) := by
  obtain ⟨i0, hi, hz0, hz1, hz2⟩ := info_parts Try.infoW
  have q := Lib.run_eql_slice_nil (P := Try.prog) w 22 31 A xs.length c 0 0 Try.underlying22
  cases A with
  | none =>
    obtain rfl := hn rfl
    simp only [List.length_nil] at q ⊢
    clear h
    go_enter Try.func18, Try.ntmps18
    go_wp2
    go_ret
    exact ⟨_, rfl, OwnsOff.nil _ _ _ _, Below.refl _ _⟩
  | some ad =>
    have hcell := h.newsAt
    have hb1 : Below w.heap.size w (w.alloc (.cells #[] 31)) := (Below.refl _ _).alloc (Nat.le_refl _) _
    have hown := World.ownsRow_made (base := w.heap.size) (e := 31) (size := 1) w #[] 0 (Nat.le_refl _) (by unfold maxLen; omega) (by simp)
    have hcell1 : ∀ j u, (wcells xs)[j]? = some u → (w.alloc (.cells #[] 31)).cell? (ad.add j) = some u := fun j u hj =>
      (hb1.cell (by have := World.block_lt_of_cell? _ _ (hcell j u hj); exact this)).trans (hcell j u hj)
    have HO := Lib.hid (wcells_one xs); have HC := Lib.hid hcell1
    clear h hcell hcell1 hn
    go_enter Try.func18, Try.ntmps18
    go_wp2_with (at_builtin; refine wpList_append_own _ rfl _ _ 22 rfl w.heap.size 31 i0 (.int .u32 0) 1 4 Try.underlying22 hi hz0 hz1 hz2 rfl (by decide) _ _ _ rfl hown ad xs.length c _ rfl (by simp) HC.out HO.out (by unfold maxLen; omega) (by omega) (by simp) ?_)
    · intro v' w2 hown' hgrow _
      obtain ⟨a', c', rfl, _⟩ := (OwnsOff.of_own hown').slice
      have hb2 : Below w.heap.size w w2 := hb1.grown hgrow hb1.size (fun k hk => by cases hk; exact Nat.le_refl _)
      have HH := Lib.hid hown'; have HB := Lib.hid hb2
      clear hown' hgrow hb1 hown hb2
      go_wp2
      go_ret
      refine ⟨_, rfl, OwnsOff.of_own ?_, HB.out⟩
      have := HH.out
      simpa using this

theorem clone_at (n : Nat) (A : Option Addr) (c B : Nat) (xs : List Int) (w : World) (hx : n = xs.length) (h : IntRowK .u32 w B A xs) (hn : A = none → xs = []) (hl : n ≤ 1000000) :
    Calls Try.prog 18 #[.slice A n c] w (GivesWords w xs) := by
  subst hx
  exact clone_b A c B xs w h hn hl

/-- Behind a Take. -/
def Takes (w : World) (B b : Nat) (out xs : List Int) (sh : Bool) (e : Ending) (w' : World) : Prop :=
  ∃ v, e = .returned v ∧ OwnsOff w' w.heap.size 31 1 v out.length (wcells out) ∧ BoxAt w' B b xs sh ∧ Only (fun k => k = b) w w'
theorem take_none (B b : Nat) (xs : List Int) (sh : Bool) (n : Int) (w : World) (h : BoxAt w B b xs sh) (hn : n ≤ 0) :
    Calls Try.prog 10 #[.pointer (some ⟨b, 0, none⟩), .int .i64 n] w (Takes w B b [] xs sh) := by
  have hh := Lib.hid h
  clear h
  go_enter Try.func10, Try.ntmps10
  go_wp2
  go_ret
  exact ⟨_, rfl, OwnsOff.nil _ _ _ _, hh.out, Only.refl _ _⟩
theorem take_short (B b : Nat) (xs : List Int) (sh : Bool) (n : Int) (w : World) (h : BoxAt w B b xs sh) (hn : (xs.length : Int) < n) :
    Calls Try.prog 10 #[.pointer (some ⟨b, 0, none⟩), .int .i64 n] w (Takes w B b [] xs true) := by
  have hp := Lib.hid h.short
  obtain ⟨hB, A, c, h1, h2, h3, h4, h5⟩ := h
  have hc0 := cell_block h1 (i := 0) rfl
  have hc1 := cell_block h1 (i := 1) rfl
  have hf1 : w.frozen? ⟨b, 1, none⟩ = false := by simp [World.frozen?, h1]
  have h0 : ¬ n ≤ 0 := by omega
  clear h1 h2 h3 h4 h5
  go_enter Try.func10, Try.ntmps10
  go_wp2
  go_ret
  exact ⟨_, rfl, OwnsOff.nil _ _ _ _, hp.out, Only.setCell w ⟨b, 1, none⟩ _⟩
theorem take_in (B b : Nat) (xs : List Int) (sh : Bool) (k : Nat) (w : World) (h : BoxAt w B b xs sh) (hl : xs.length ≤ 1000000) (h0 : 0 < k) (hk : k ≤ xs.length) :
    Calls Try.prog 10 #[.pointer (some ⟨b, 0, none⟩), .int .i64 (k : Int)] w (Takes w B b (xs.take k) (xs.drop k) sh) := by
  obtain ⟨i0, hi, hz0, hz1, hz2⟩ := info_parts Try.infoW
  have hlt := h.lt
  have hh := Lib.hid h
  obtain ⟨hB, A, c, h1, h2, h3, h4, h5⟩ := h
  have hc0 := cell_block h1 (i := 0) rfl
  have hup := fun w' => upto_row (P := Try.prog) Try.underlying22 hi A xs.length c k (by omega) w'
  have g0 : ¬ ((k : Int) ≤ 0) := by omega
  have g1 : ¬ ((xs.length : Int) < (k : Int)) := by omega
  have ht : (xs.take k).length = k := by simp; omega
  have hr := h4.take k
  have hnt : A = none → xs.take k = [] := fun e => by rw [h5 e]; simp
  obtain ⟨A', c', hrun, r1, r2, r3, r4⟩ := from_row (P := Try.prog) (t := 22) Try.underlying22 hi hz1 k hk h2 h3 h4 h5
  obtain ⟨out, hout⟩ : ∃ out, xs.take k = out := ⟨_, rfl⟩
  obtain ⟨ys, hys⟩ : ∃ ys, xs.drop k = ys := ⟨_, rfl⟩
  rw [hout] at ht hr hnt ⊢
  rw [hys] at hrun r1 r3 r4 ⊢
  have H1 := Lib.hid h1; have HR := Lib.hid (And.intro r1 (And.intro r2 (And.intro r3 r4))); have HK := Lib.hid ht; have HQ := Lib.hid hr; have HN := Lib.hid hnt
  clear hout hys h1 h2 h3 h4 h5 r1 r2 r3 r4 hr hnt ht
  go_enter Try.func10, Try.ntmps10
  go_wp2_with (first | (refine wpList_upto rfl _ _ _ rfl _ _ _ rfl rfl (hup _) ?_) | fail)
  refine (clone_at k A c B out _ HK.out.symm HQ.out HN.out (by omega)).mono ?_
  rintro e w1 ⟨v, rfl, hown, hb⟩
  have hx1 := hh.out.keptB hb
  have h11 := (hb.block b hlt).trans H1.out
  have c11 := cell_block h11 (i := 0) rfl
  have f11 : w1.frozen? ⟨b, 0, none⟩ = false := by simp [World.frozen?, h11]
  obtain ⟨r1, r2, r3, r4⟩ := HR.out
  have hp := hx1.put r1 r2 (r3.below (hb.mono (by omega))) r4
  have hown2 : OwnsOff (w1.setCell ⟨b, 0, none⟩ (.slice A' ys.length c')) w.heap.size 31 1 v out.length (wcells out) := hown.kept (Only.setCell w1 ⟨b, 0, none⟩ _) (fun g hg e => by have := (hown.lt g hg).1; simp at e; omega)
  obtain ⟨a3, c3, rfl, _⟩ := hown.slice
  have ho : Only (fun j => j = b) w (w1.setCell ⟨b, 0, none⟩ (.slice A' ys.length c')) := (Only.of_below hb).trans (Only.setCell w1 ⟨b, 0, none⟩ _)
  have HP := Lib.hid hp; have HO := Lib.hid hown2; have HB := Lib.hid ho
  clear hx1 h11 r1 r2 r3 r4 hp hown hown2 ho hb hc0
  go_wp2_with (refine wpList_from rfl _ _ _ rfl _ _ _ rfl rfl (hrun _) ?_)
  go_ret
  exact ⟨_, rfl, HO.out, HP.out, HB.out⟩
/-- What a Take takes, leaves, and whether there were too few. -/
def takeO (xs : List Int) (n : Int) : List Int := if n ≤ (xs.length : Int) then xs.take n.toNat else []
def takeX (xs : List Int) (n : Int) : List Int := if n ≤ (xs.length : Int) then xs.drop n.toNat else xs
def takeS (xs : List Int) (sh : Bool) (n : Int) : Bool := sh || decide ((xs.length : Int) < n)
theorem take_b (B b : Nat) (xs : List Int) (sh : Bool) (n : Int) (w : World) (h : BoxAt w B b xs sh) (hl : xs.length ≤ 1000000) :
    Calls Try.prog 10 #[.pointer (some ⟨b, 0, none⟩), .int .i64 n] w (Takes w B b (takeO xs n) (takeX xs n) (takeS xs sh n)) := by
  by_cases h0 : n ≤ 0
  · have e1 : n.toNat = 0 := by omega
    have e2 : n ≤ (xs.length : Int) := by omega
    have e3 : ¬ ((xs.length : Int) < n) := by omega
    have := take_none B b xs sh n w h h0
    simpa [takeO, takeX, takeS, e1, e2, e3] using this
  · by_cases h1 : n ≤ (xs.length : Int)
    · obtain ⟨k, rfl⟩ := Int.eq_ofNat_of_zero_le (a := n) (by omega)
      have e3 : ¬ ((xs.length : Int) < (k : Int)) := by omega
      have := take_in B b xs sh k w h hl (by omega) (by omega)
      unfold takeO takeX takeS
      rw [if_pos h1, if_pos h1, decide_eq_false e3, Bool.or_false, Int.toNat_natCast]
      exact this
    · have := take_short B b xs sh n w h (by omega)
      unfold takeO takeX takeS
      rw [if_neg h1, if_neg h1, decide_eq_true (by omega), Bool.or_true]
      exact this
end Go.Proofs.Ytajhfijpbfikkaa
