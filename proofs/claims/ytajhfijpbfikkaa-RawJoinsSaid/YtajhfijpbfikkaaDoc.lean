/- The document's box, and Same, as contracts. No condition but those in the statements. -/
import Derived.Test.YtajhfijpbfikkaaTake
namespace Go.Proofs.Ytajhfijpbfikkaa
open Go.RowKit Go.Sort

/-- The document's box: its struct lies in block b, its words in a block below B. -/
def DBoxAt (w : World) (B b : Nat) (ws : List Int) (k : Nat) (sh : Bool) : Prop :=
  B ≤ b ∧ ∃ A c, w.heap[b]? = some (.cells #[.slice A ws.length c, .int .i64 (k : Int), .bool sh] 30 (0, 0)) ∧ IntRowK .u32 w B A ws
section
variable {w w' : World} {B b : Nat} {ws : List Int} {k : Nat} {sh : Bool}
theorem DBoxAt.lt (h : DBoxAt w B b ws k sh) : b < w.heap.size := by obtain ⟨_, _, _, h, _⟩ := h; exact (Array.getElem?_eq_some_iff.1 h).1
theorem DBoxAt.kept (h : DBoxAt w B b ws k sh) {S : Nat → Prop} (ho : Only S w w') (hS : ∀ k, S k → B ≤ k) (hb : ¬ S b) : DBoxAt w' B b ws k sh := by
  have hl := h.lt
  obtain ⟨hB, A, c, h1, h4⟩ := h
  exact ⟨hB, A, c, (ho.block b hl hb).trans h1, h4.below (ho.below (by omega) hS)⟩
theorem DBoxAt.keptB (h : DBoxAt w B b ws k sh) (hb : Below w.heap.size w w') : DBoxAt w' B b ws k sh := h.kept (Only.of_below (S := fun _ => False) hb) (fun _ h => h.elim) id
theorem DBoxAt.at_ (h : DBoxAt w B b ws k sh) (j : Nat) : DBoxAt (w.setCell ⟨b, 1, none⟩ (.int .i64 (j : Int))) B b ws j sh := by
  obtain ⟨hB, A, c, hh, h3⟩ := h
  have hl := (Array.getElem?_eq_some_iff.1 hh).1
  exact ⟨hB, A, c, by simp [World.setCell, Array.getElem?_modify, hh], h3.below ((Only.setCell w ⟨b, 1, none⟩ _).below (B := B) (by omega) (fun k hk => by rw [hk]; exact hB))⟩
theorem DBoxAt.short (h : DBoxAt w B b ws k sh) : DBoxAt (w.setCell ⟨b, 2, none⟩ (.bool true)) B b ws k true := by
  obtain ⟨hB, A, c, hh, h3⟩ := h
  have hl := (Array.getElem?_eq_some_iff.1 hh).1
  exact ⟨hB, A, c, by simp [World.setCell, Array.getElem?_modify, hh], h3.below ((Only.setCell w ⟨b, 2, none⟩ _).below (B := B) (by omega) (fun k hk => by rw [hk]; exact hB))⟩
/-- Its cells, in every world that a quiet walk may meet. -/
theorem DBoxAt.cells (h : DBoxAt w B b ws k sh) : ∃ A c, (∀ p : Regrown, (grow (redrawn w p.d) p.os).cell? ⟨b, 0, none⟩ = some (.slice A ws.length c)) ∧ (∀ p : Regrown, (grow (redrawn w p.d) p.os).cell? ⟨b, 1, none⟩ = some (.int .i64 (k : Int))) ∧
    (∀ p : Regrown, (grow (redrawn w p.d) p.os).cell? ⟨b, 2, none⟩ = some (.bool sh)) ∧ (∀ o, w.frozen? ⟨b, o, none⟩ = false) ∧ w.heap[b]? = some (.cells #[.slice A ws.length c, .int .i64 (k : Int), .bool sh] 30 (0, 0)) ∧ IntRowK .u32 w B A ws := by
  obtain ⟨hB, A, c, hh, h3⟩ := h
  exact ⟨A, c, fun p => cell_regrown (cell_block hh rfl) p.d p.os, fun p => cell_regrown (cell_block hh rfl) p.d p.os, fun p => cell_regrown (cell_block hh rfl) p.d p.os, fun o => by simp [World.frozen?, hh], hh, h3⟩
end

theorem dnext_out (B b : Nat) (ws : List Int) (k : Nat) (sh : Bool) (w : World) (h : DBoxAt w B b ws k sh) (hk : ws.length ≤ k) :
    Calls Try.prog 9 #[.pointer (some ⟨b, 0, none⟩)] w fun e w' => e = .returned (.int .u32 0) ∧ DBoxAt w' B b ws k true ∧ Only (fun k => k = b) w w' := by
  have hh := Lib.hid h
  obtain ⟨A, c, c0, c1, c2, hf, h1, h4⟩ := h.cells
  have g1 : (ws.length : Int) ≤ (k : Int) := by omega
  have hbc := Below.refl w.heap.size w
  clear h h1 h4
  go_enter Try.func9, Try.ntmps9
  go_wp2_with fail
  (with_reducible refine wp_on hbc (by kernel_rfl) (by kernel_rfl) ?_); (repeat (go_big_quiet_step (fail))); with_reducible refine wpQuiet_nil ?_; intro wc hbc
  have hx := hh.out.keptB hbc
  obtain ⟨A', c', c0', c1', c2', hf', h1', h4'⟩ := hx.cells
  have d2 := cell_of c2'
  have f2 := hf' 2
  have hp := Lib.hid hx.short
  have hB := Lib.hid hbc
  clear c0 c1 c2 hf hbc hx c0' c1' c2' hf' h1' h4'
  go_wp2
  go_ret
  exact ⟨rfl, hp.out, (Only.of_below hB.out).trans (Only.setCell wc ⟨b, 2, none⟩ _)⟩
theorem dnext_in (B b : Nat) (ws : List Int) (k : Nat) (sh : Bool) (w : World) (h : DBoxAt w B b ws k sh) (hl : ws.length ≤ 1000000) (hk : k < ws.length) :
    Calls Try.prog 9 #[.pointer (some ⟨b, 0, none⟩)] w fun e w' => e = .returned (.int .u32 (ws.getD k 0)) ∧ DBoxAt w' B b ws (k + 1) sh ∧ Only (fun k => k = b) w w' := by
  have hh := Lib.hid h
  obtain ⟨x, hxx⟩ : ∃ x, ws.getD k 0 = x := ⟨_, rfl⟩
  rw [hxx]
  have HX := Lib.hid hxx
  clear hxx
  obtain ⟨A, c, c0, c1, c2, hf, h1, h4⟩ := h.cells
  have g1 : ¬ (ws.length : Int) ≤ (k : Int) := by omega
  have hbc := Below.refl w.heap.size w
  clear h h1 h4
  go_enter Try.func9, Try.ntmps9
  go_wp2_with fail
  (with_reducible refine wp_on hbc (by kernel_rfl) (by kernel_rfl) ?_); (repeat (go_big_quiet_step (fail))); with_reducible refine wpQuiet_nil ?_; intro wc hbc
  have hx := hh.out.keptB hbc
  obtain ⟨A', c', c0', c1', c2', hf', h1', h4'⟩ := hx.cells
  have d1 := cell_of c1'
  have f1 := hf' 1
  have hp := hx.at_ (k + 1)
  have ho : Only (fun j => j = b) w (wc.setCell ⟨b, 1, none⟩ (.int .i64 ((k + 1 : Nat) : Int))) := (Only.of_below hbc).trans (Only.setCell wc ⟨b, 1, none⟩ _)
  rw [show ((k + 1 : Nat) : Int) = (k : Int) + 1 by omega] at hp ho
  obtain ⟨wx, hwx⟩ : ∃ wx, Hid (wx = wc.setCell ⟨b, 1, none⟩ (.int .i64 ((k : Int) + 1))) := ⟨_, rfl⟩
  rw [← hwx.out] at hp ho
  clear c0 c1 c2 hf hbc hx c0' c1' c2' hf' h1' h4' hh
  go_wp2_with (rw [← hwx.out])
  have hh := Lib.hid hp
  obtain ⟨A, c, c0, c1, c2, hf, h1, h4⟩ := hp.cells
  obtain ⟨g, o, rfl, hg, hcs⟩ := h4.at_ hk
  have c3 : ∀ p : Regrown, (grow (redrawn wx p.d) p.os).cell? ⟨g, o + k, none⟩ = some (.int .u32 x) := fun p => cell_regrown (by rw [← HX.out]; exact hcs _ (Below.refl _ _)) p.d p.os
  have c4 : ∀ p : Regrown, (grow (redrawn wx p.d) p.os).cell? ⟨b, 1, none⟩ = some (.int .i64 ((k : Int) + 1)) := c1
  have hbc := Below.refl wx.heap.size wx
  have HO := Lib.hid ho
  clear hp hf h1 h4 hcs d1 f1 ho c1
  go_wp2_with fail
  (with_reducible refine wp_on hbc (by kernel_rfl) (by kernel_rfl) ?_); (repeat (go_big_quiet_step (fail))); with_reducible refine wpQuiet_nil ?_; intro wd hbd
  go_wp2
  go_ret
  exact ⟨rfl, hh.out.keptB hbd, HO.out.trans (Only.of_below hbd)⟩
end Go.Proofs.Ytajhfijpbfikkaa
