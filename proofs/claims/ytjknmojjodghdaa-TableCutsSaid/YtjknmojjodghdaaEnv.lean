/- Words read one by one from a box; the closures of Parse. No condition but those in the statements. -/
import Derived.Test.YtjknmojjodghdaaWords
import Derived.Test.YtjknmojjodghdaaKitN
import Derived.Deep.RegionHeld3
namespace Go.Proofs.Ytjknmojjodghdaa
open Go.RowKit Go.Sort Go.ChangeShapes Go.WideShapes
set_option linter.unusedVariables false
set_option linter.unusedSimpArgs false

/-- Words. -/
def wfW (xs : List Int) : Prop := ∀ q ∈ xs, (Lit.int .u32 q).wf = true
theorem wfW_at {xs : List Int} (h : wfW xs) (k : Nat) : 0 ≤ xs.getD k 0 ∧ xs.getD k 0 ≤ 4294967295 := by
  by_cases hk : k < xs.length
  · have h1 := bounds_u32 (h xs[k] (List.getElem_mem hk))
    simpa [List.getD_eq_getElem?_getD, hk] using h1
  · simp [List.getD_eq_getElem?_getD, hk]
/-- The box, the variable that points to it and the one that holds the closure 'number', where k words were read. -/
structure Env (w : World) (B b p q : Nat) (xs : List Int) (k : Nat) : Prop where
  box : BoxAt w B b (xs.drop k) (decide (xs.length < k))
  ptr : w.cell? ⟨p, 0, none⟩ = some (.pointer (some ⟨b, 0, none⟩))
  num : w.cell? ⟨q, 0, none⟩ = some (.func (.func 18) #[] #[.pointer (some ⟨p, 0, none⟩)])
  bp : b ≠ p
  bq : b ≠ q
  lp : p < w.heap.size
  lq : q < w.heap.size
  wf : wfW xs
theorem Env.turn {w w' : World} {B b p q : Nat} {xs : List Int} {k k' : Nat} (h : Env w B b p q xs k) (hX : BoxAt w' B b (xs.drop k') (decide (xs.length < k'))) (ho : Only (fun j => j = b) w w') : Env w' B b p q xs k' := by
  have hs := ho.size
  have c : ∀ j, j < w.heap.size → j ≠ b → w'.cell? ⟨j, 0, none⟩ = w.cell? ⟨j, 0, none⟩ := fun j hj hb => by simp [World.cell?, ho.block j hj hb]
  exact ⟨hX, (c p h.lp h.bp.symm).trans h.ptr, (c q h.lq h.bq.symm).trans h.num, h.bp, h.bq, by have := h.lp; omega, by have := h.lq; omega, h.wf⟩
theorem Env.keptB {w w' : World} {B b p q : Nat} {xs : List Int} {k : Nat} (h : Env w B b p q xs k) (hb : Below w.heap.size w w') : Env w' B b p q xs k := h.turn (h.box.keptB hb) (Only.of_below hb)
/-- Behind a call that reads words, from number k on, up to number k'. -/
def Reads (w : World) (B b p q : Nat) (xs : List Int) (k' : Nat) (v : Value) (e : Ending) (w' : World) : Prop := e = .returned v ∧ Env w' B b p q xs k' ∧ Only (fun j => j = b) w w'
theorem nextk_b (B b k : Nat) (xs : List Int) (w : World) (h : BoxAt w B b (xs.drop k) (decide (xs.length < k))) :
    Calls Try.prog 17 #[.pointer (some ⟨b, 0, none⟩)] w fun e w' => e = .returned (.int .u32 (xs.getD k 0)) ∧ BoxAt w' B b (xs.drop (k + 1)) (decide (xs.length < k + 1)) ∧ Only (fun j => j = b) w w' := by
  refine (next_b B b _ _ w h).mono fun e w' hh => ?_
  obtain ⟨h1, h2, h3⟩ := hh
  refine ⟨by rw [h1]; simp [nextV, List.getD_eq_getElem?_getD], ?_, h3⟩
  rw [List.drop_drop] at h2
  have e : nextS (xs.drop k) (decide (xs.length < k)) = decide (xs.length < k + 1) := by
    rw [Bool.eq_iff_iff]; simp [nextS]; omega
  rw [e] at h2
  exact h2
theorem enext_b (B b p q k : Nat) (xs : List Int) (w : World) (h : Env w B b p q xs k) : Calls Try.prog 17 #[.pointer (some ⟨b, 0, none⟩)] w (Reads w B b p q xs (k + 1) (.int .u32 (xs.getD k 0))) :=
  (nextk_b B b k xs w h.box).mono fun e w' hh => ⟨hh.1, h.turn hh.2.1 hh.2.2, hh.2.2⟩
theorem number_b (B b p q k : Nat) (xs : List Int) (w : World) (h : Env w B b p q xs k) : Calls Try.prog 18 #[.pointer (some ⟨p, 0, none⟩)] w (Reads w B b p q xs (k + 1) (.int .i64 (xs.getD k 0))) := by
  obtain ⟨x0, x1⟩ := wfW_at h.wf k
  have c0 := h.ptr
  obtain ⟨x, hx⟩ : ∃ x, xs.getD k 0 = x := ⟨_, rfl⟩
  have hh := Lib.hid (hx ▸ enext_b B b p q k xs w h)
  have HX := Lib.hid hx
  rw [hx] at x0 x1 ⊢
  clear hx h
  go_enter Try.func18, Try.ntmps18
  go_wp2_with fail
  refine hh.out.mono ?_
  rintro e w1 ⟨rfl, h1, h2⟩
  have H1 := Lib.hid h1
  clear h1
  go_wp2
  go_ret
  exact ⟨rfl, H1.out, h2⟩
end Go.Proofs.Ytjknmojjodghdaa
