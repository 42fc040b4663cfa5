/- The walk of RawReads. No condition but those in the statements. -/
import Derived.Test.YtajhfijpbfikkaaApp
namespace Go.Proofs.Ytajhfijpbfikkaa
open Go.RowKit Go.Sort

/-- The two boxes, over one list: as far as k words were read. -/
structure Both (w : World) (B b d : Nat) (A : Option Addr) (xs : List Int) (k : Nat) (s : Bool) : Prop where
  le : k ≤ xs.length
  own : BoxAt w B b (xs.drop k) s
  doc : DBoxAt w B d xs k s
  row : IntRowK .u32 w B A xs
section
variable {w w' : World} {B b d : Nat} {A : Option Addr} {xs : List Int} {k : Nat} {s : Bool}
theorem Both.size (h : Both w B b d A xs k s) : B ≤ b ∧ B ≤ d ∧ b < w.heap.size ∧ d < w.heap.size := ⟨h.own.1, h.doc.1, h.own.lt, h.doc.lt⟩
theorem Both.kept (h : Both w B b d A xs k s) {S : Nat → Prop} (ho : Only S w w') (hS : ∀ k, S k → B ≤ k) (hb : ¬ S b) (hd : ¬ S d) : Both w' B b d A xs k s :=
  ⟨h.le, h.own.kept ho hS hb, h.doc.kept ho hS hd, h.row.below (ho.below (by have := h.size; omega) hS)⟩
theorem Both.keptB (h : Both w B b d A xs k s) (hb : Below w.heap.size w w') : Both w' B b d A xs k s := h.kept (Only.of_below (S := fun _ => False) hb) (fun _ h => h.elim) id id
/-- The cells that the looks load, in every world that a quiet walk may meet. -/
theorem Both.looks (h : Both w B b d A xs k s) : ∃ A7 c7 A8 c8, (∀ p : Regrown, (grow (redrawn w p.d) p.os).cell? ⟨b, 0, none⟩ = some (.slice A7 (xs.drop k).length c7)) ∧ (∀ p : Regrown, (grow (redrawn w p.d) p.os).cell? ⟨b, 1, none⟩ = some (.bool s)) ∧
    (∀ p : Regrown, (grow (redrawn w p.d) p.os).cell? ⟨d, 0, none⟩ = some (.slice A8 xs.length c8)) ∧ (∀ p : Regrown, (grow (redrawn w p.d) p.os).cell? ⟨d, 1, none⟩ = some (.int .i64 (k : Int))) ∧ (∀ p : Regrown, (grow (redrawn w p.d) p.os).cell? ⟨d, 2, none⟩ = some (.bool s)) ∧
    IntRowK .u32 w w.heap.size A7 (xs.drop k) := by
  obtain ⟨_, A7, c7, hx, _, _, hr, _⟩ := h.own
  obtain ⟨A8, c8, e0, e1, e2, _⟩ := h.doc.cells
  exact ⟨A7, c7, A8, c8, fun p => cell_regrown (cell_block hx rfl) p.d p.os, fun p => cell_regrown (cell_block hx rfl) p.d p.os, e0, e1, e2, hr.more (by have := h.size; omega)⟩
end
/-- s[k:] as a quiet walk writes it. -/
theorem IntRowK.cut {K : IntKind} {w : World} {B : Nat} {A : Option Addr} {l : List Int} (h : IntRowK K w B A l) (k c : Nat) (hc : l.length ≤ c) :
    IntRowK K w B (if c = k then A else Option.map (fun x => x.add k) A) (l.drop k) := fun hp => by
  simp at hp
  obtain ⟨b, o, rfl, hb, hcell⟩ := h (by omega)
  rw [if_neg (by omega)]
  refine ⟨b, o + k, by simp [Addr.add], hb, fun j hj => ?_⟩
  simp at hj
  have := hcell (k + j) (by omega)
  rw [Nat.add_assoc, this]
  simp [List.getD_eq_getElem?_getD]
theorem both_new (w : World) (A AI : Option Addr) (c cI : Nat) (xs : List Int) (h1 : xs.length ≤ cI) (h2 : cI ≤ maxLen) (h3 : IntRowK .u32 w w.heap.size AI xs) (h4 : AI = none → xs = []) (h5 : IntRowK .u32 w w.heap.size A xs) :
    ∃ wx, Hid (wx = (w.alloc (.cells #[.slice AI xs.length cI, .bool false] 27)).alloc (.cells #[.slice A xs.length c, .int .i64 0, .bool false] 30)) ∧ Both wx w.heap.size w.heap.size (w.heap.size + 1) A xs 0 false ∧ Below w.heap.size w wx ∧ wx.heap.size = w.heap.size + 2 := by
  have b1 : Below w.heap.size w (w.alloc (.cells #[.slice AI xs.length cI, .bool false] 27)) := (Below.refl _ _).alloc (Nat.le_refl _) _
  have b2 := b1.alloc (by simp) (.cells #[.slice A xs.length c, .int .i64 0, .bool false] 30)
  have h := box_new w w.heap.size AI cI xs (Nat.le_refl _) h1 h2 h3 h4
  refine ⟨_, rfl, ⟨Nat.zero_le _, by simpa using h.keptB ((Below.refl _ _).alloc (Nat.le_refl _) _), ⟨by simp, A, c, ?_, h5.below b2⟩, h5.below b2⟩, b2, by simp⟩
  have := heap_alloc_new (w.alloc (.cells #[.slice AI xs.length cI, .bool false] 27)) (.cells #[.slice A xs.length c, .int .i64 0, .bool false] 30)
  simpa using this
theorem done_on (B b : Nat) (xs : List Int) (sh y : Bool) (w : World) (h : BoxAt w B b xs sh) (hy : (xs.isEmpty && !sh) = y) : Calls Try.prog 13 #[.pointer (some ⟨b, 0, none⟩)] w fun e w' => e = .returned (.bool y) ∧ Below w.heap.size w w' := by
  subst hy
  exact (done_b B b xs sh w h).mono fun e w' ⟨h1, h2⟩ => ⟨h1, by subst h2; exact Below.refl _ _⟩
theorem ddone_on (B b : Nat) (ws : List Int) (k : Nat) (sh y : Bool) (w : World) (h : DBoxAt w B b ws k sh) (hy : (decide (k = ws.length) && !sh) = y) : Calls Try.prog 14 #[.pointer (some ⟨b, 0, none⟩)] w fun e w' => e = .returned (.bool y) ∧ Below w.heap.size w w' := by
  subst hy
  exact ddone_b B b ws k sh w h
theorem done_same (xs : List Int) (k : Nat) (s : Bool) (hk : k ≤ xs.length) : ((xs.drop k).isEmpty && !s) = (decide (k = xs.length) && !s) := by
  congr 1
  by_cases h : k = xs.length
  · subst h; simp
  · have : xs.drop k ≠ [] := by simp; omega
    cases hd : xs.drop k with
    | nil => exact absurd hd this
    | cons a b => simp [h]

/-- What a Next tells and leaves, in both boxes. -/
theorem nexts_both (xs : List Int) (k : Nat) (s : Bool) (hx : xs.length ≤ 1000000) (hk : k ≤ xs.length) : ∃ (x : Int) (k' : Nat) (s' : Bool), k' ≤ xs.length ∧
    (∀ w B b, BoxAt w B b (xs.drop k) s → Calls Try.prog 8 #[.pointer (some ⟨b, 0, none⟩)] w fun e w' => e = .returned (.int .u32 x) ∧ BoxAt w' B b (xs.drop k') s' ∧ Only (fun k => k = b) w w') ∧
    (∀ w B b, DBoxAt w B b xs k s → Calls Try.prog 9 #[.pointer (some ⟨b, 0, none⟩)] w fun e w' => e = .returned (.int .u32 x) ∧ DBoxAt w' B b xs k' s' ∧ Only (fun k => k = b) w w') := by
  by_cases hlt : k < xs.length
  · refine ⟨xs.getD k 0, k + 1, s, hlt, fun w B b h => ?_, fun w B b h => dnext_in B b xs k s w h hx hlt⟩
    have := next_in B b _ s w h (by simp; omega)
    rwa [getD_drop, List.drop_drop] at this
  · have hkl : k = xs.length := by omega
    have hnil : xs.drop k = [] := by rw [hkl]; simp
    refine ⟨0, k, true, hk, fun w B b h => ?_, fun w B b h => dnext_out B b xs k s w h (by omega)⟩
    rw [hnil] at h ⊢
    exact next_out B b s w h
/-- What a Take tells and leaves, in both boxes. -/
theorem takes_both (xs : List Int) (k m : Nat) (s : Bool) (hx : xs.length ≤ 1000000) (hk : k ≤ xs.length) : ∃ (out : List Int) (k' : Nat) (s' : Bool), k' ≤ xs.length ∧ out.length ≤ xs.length ∧
    (∀ w B b, BoxAt w B b (xs.drop k) s → Calls Try.prog 10 #[.pointer (some ⟨b, 0, none⟩), .int .i64 (m : Int)] w (Takes w B b out (xs.drop k') s')) ∧
    (∀ w B b, DBoxAt w B b xs k s → Calls Try.prog 12 #[.pointer (some ⟨b, 0, none⟩), .int .i64 (m : Int)] w (DTakes w B b out xs k' s')) := by
  have hl : (xs.drop k).length = xs.length - k := by simp
  by_cases hm : k + m ≤ xs.length
  · refine ⟨(xs.drop k).take m, k + m, s, hm, by simp; omega, fun w B b h => ?_, fun w B b h => dtake_in B b xs k m s w h hx hm⟩
    have := take_b B b _ s (m : Int) w h (by omega)
    unfold takeO takeX takeS at this
    rw [if_pos (by omega), if_pos (by omega), decide_eq_false (by omega), Bool.or_false, Int.toNat_natCast, List.drop_drop] at this
    exact this
  · refine ⟨[], k, true, hk, by simp, fun w B b h => ?_, fun w B b h => dtake_out B b xs k m s w h hx hk (by omega)⟩
    exact take_short B b _ s (m : Int) w h (by omega)
end Go.Proofs.Ytajhfijpbfikkaa
