/- Words as cells; a box of words as a block over words that lie below it; the functions of package raw as contracts: what each answers, and what it turns. No condition but those in the statements. -/
import Derived.Test.YtjknmojjodghdaaOff
import Derived.Test.YtjknmojjodghdaaKitI
import Derived.Test.YtjknmojjodghdaaProg
import Derived.IntWalk
import Derived.OneCell
import Derived.Deep.OwnRows
import Derived.Lib.Hide
namespace Go.Proofs.Ytjknmojjodghdaa
open Go.RowKit Go.Sort

/-- Words as cells. -/
def wcells (ws : List Int) : List Value := ws.map (Value.int .u32)
@[simp] theorem wcells_len (ws : List Int) : (wcells ws).length = ws.length := by simp [wcells]
theorem wcells_at (ws : List Int) (k : Nat) (h : k < ws.length) : (wcells ws)[k]? = some (.int .u32 (ws.getD k 0)) := by simp [wcells, List.getD_eq_getElem?_getD, h]
theorem wcells_one (ws : List Int) : ∀ u ∈ wcells ws, u.oneCell' = true := by intro u hu; obtain ⟨x, _, rfl⟩ := List.mem_map.1 hu; rfl
theorem wcells_app (a b : List Int) : wcells (a ++ b) = wcells a ++ wcells b := by simp [wcells]
theorem cell_block {W : World} {b : Nat} {cs : Array Value} {t : TypeId} {m : Nat × Nat} {i : Nat} {v : Value} (h : W.heap[b]? = some (.cells cs t m)) (hv : cs[i]? = some v) : W.cell? ⟨b, i, none⟩ = some v := by
  simp [World.cell?, h, hv]
/-- A row's cells, as append wants them. -/
theorem IntRowK.news {w : World} {B : Nat} {g o : Nat} {xs : List Int} (h : IntRowK .u32 w B (some ⟨g, o, none⟩) xs) : ∀ j u, (wcells xs)[j]? = some u → w.cell? ((⟨g, o, none⟩ : Addr).add j) = some u := by
  intro j u hj
  have hl : j < xs.length := by have := (List.getElem?_eq_some_iff.1 hj).1; simpa using this
  obtain ⟨b, o', he, _, hc⟩ := h (by omega)
  cases he
  rw [wcells_at xs j hl] at hj
  cases hj
  rw [Addr.add_lit]
  exact hc j hl
theorem OwnsOff.wordRow {w : World} {base : Nat} {v : Value} {xs : List Int} (h : OwnsOff w base 43 1 v xs.length (wcells xs)) :
    ∃ A c, v = .slice A xs.length c ∧ xs.length ≤ c ∧ c ≤ maxLen ∧ IntRowK .u32 w w.heap.size A xs ∧ (A = none → xs = []) ∧ ∀ a, A = some a → base ≤ a.block := by
  obtain ⟨_, ⟨rfl, hn⟩ | ⟨g, off, cap, cur, rfl, hb, hcur, hle, hmax, _, htk⟩⟩ := h
  · exact ⟨none, 0, by rw [hn], by omega, by unfold maxLen; omega, fun hp => by omega, fun _ => List.eq_nil_of_length_eq_zero hn, fun _ h => by cases h⟩
  · refine ⟨_, cap, rfl, hle, hmax, fun hp => ⟨g, off, rfl, (Array.getElem?_eq_some_iff.1 hcur).1, fun i hi => ?_⟩, (fun h => by cases h), fun a ha => by cases ha; exact hb⟩
    have h1 := wcells_at xs i hi
    rw [← htk, List.getElem?_take] at h1
    split at h1
    · rw [List.getElem?_drop] at h1
      simp [World.cell?, hcur]
      simpa using h1
    · cases h1
theorem IntRowK.later {K : IntKind} {w w' : World} {A : Option Addr} {l : List Int} (h : IntRowK K w w.heap.size A l) (hb : Below w.heap.size w w') : IntRowK K w' w'.heap.size A l := (h.below hb).more hb.size

section
variable {P : Program} {ops : Array Oper} {rest : List Oper} {o : Oper} {a : Act} {Q : Exit → Act → World → Prop} {w : World}
/-- s[i:], s[:i]: by a run equation. -/
theorem wpList_from (hgd : o.guard = none) (t : TypeId) (s x : Operand) (ho : o.op = .slice t s (some x) none none) (v n r : Value) (hs : a.eval s = v) (hx : a.eval x = n) (hrun : (Instr.sliceAt t v (some n) none none).run P w = .ok r w)
    (h : wpList P ops Q rest (a.put o.dst r) w) : wpList P ops Q (o :: rest) a w := by
  refine wpList_plain hgd fun K hK' => ?_
  unfold Oper.wp
  simp [execOp, ho, hs, hx, hrun, Result.andThen]
  exact hK' _ _ h
theorem wpList_upto (hgd : o.guard = none) (t : TypeId) (s x : Operand) (ho : o.op = .slice t s none (some x) none) (v n r : Value) (hs : a.eval s = v) (hx : a.eval x = n) (hrun : (Instr.sliceAt t v none (some n) none).run P w = .ok r w)
    (h : wpList P ops Q rest (a.put o.dst r) w) : wpList P ops Q (o :: rest) a w := by
  refine wpList_plain hgd fun K hK' => ?_
  unfold Oper.wp
  simp [execOp, ho, hs, hx, hrun, Result.andThen]
  exact hK' _ _ h
end

/-- A box (package raw's): its struct lies in block b, its words in a block below B. -/
def BoxAt (w : World) (B b : Nat) (xs : List Int) (sh : Bool) : Prop :=
  B ≤ b ∧ ∃ A c, w.heap[b]? = some (.cells #[.slice A xs.length c, .bool sh] 47 (0, 0)) ∧ xs.length ≤ c ∧ c ≤ maxLen ∧ IntRowK .u32 w B A xs ∧ (A = none → xs = [])
theorem BoxAt.lt {w : World} {B b : Nat} {xs : List Int} {sh : Bool} (h : BoxAt w B b xs sh) : b < w.heap.size := by obtain ⟨_, _, _, h, _⟩ := h; exact (Array.getElem?_eq_some_iff.1 h).1
theorem BoxAt.kept {w w' : World} {B b : Nat} {xs : List Int} {sh : Bool} (h : BoxAt w B b xs sh) {S : Nat → Prop} (ho : Only S w w') (hS : ∀ k, S k → B ≤ k) (hb : ¬ S b) : BoxAt w' B b xs sh := by
  have hl := h.lt
  obtain ⟨hB, A, c, h1, h2, h3, h4, h5⟩ := h
  have hbb : Below B w w' := ho.below (by omega) hS
  exact ⟨hB, A, c, (ho.block b hl hb).trans h1, h2, h3, h4.below hbb, h5⟩
theorem BoxAt.keptB {w w' : World} {B b : Nat} {xs : List Int} {sh : Bool} (h : BoxAt w B b xs sh) (hb : Below w.heap.size w w') : BoxAt w' B b xs sh := h.kept (Only.of_below (S := fun _ => False) hb) (fun _ h => h.elim) id
/-- Words are stored into the box. -/
theorem BoxAt.put {w : World} {B b : Nat} {xs ys : List Int} {sh : Bool} (h : BoxAt w B b xs sh) {A : Option Addr} {c : Nat} (h1 : ys.length ≤ c) (h2 : c ≤ maxLen) (h3 : IntRowK .u32 w B A ys) (h4 : A = none → ys = []) :
    BoxAt (w.setCell ⟨b, 0, none⟩ (.slice A ys.length c)) B b ys sh := by
  obtain ⟨hB, A0, c0, hh, _⟩ := h
  have hl := (Array.getElem?_eq_some_iff.1 hh).1
  refine ⟨hB, A, c, by simp [World.setCell, Array.getElem?_modify, hh], h1, h2, h3.below ((Only.setCell w ⟨b, 0, none⟩ _).below (B := B) (by omega) (fun k hk => by rw [hk]; exact hB)), h4⟩
theorem BoxAt.short {w : World} {B b : Nat} {xs : List Int} {sh : Bool} (h : BoxAt w B b xs sh) : BoxAt (w.setCell ⟨b, 1, none⟩ (.bool true)) B b xs true := by
  obtain ⟨hB, A, c, hh, h1, h2, h3, h4⟩ := h
  have hl := (Array.getElem?_eq_some_iff.1 hh).1
  refine ⟨hB, A, c, by simp [World.setCell, Array.getElem?_modify, hh], h1, h2, h3.below ((Only.setCell w ⟨b, 1, none⟩ _).below (B := B) (by omega) (fun k hk => by rw [hk]; exact hB)), h4⟩

theorem Try.infoW : (Try.prog.info? 43).map (fun i => (i.zero, i.size, i.bytes)) = some (some (.int .u32 0), 1, 4) := by kernel_rfl

theorem next_in (B b : Nat) (xs : List Int) (sh : Bool) (w : World) (h : BoxAt w B b xs sh) (hx : 0 < xs.length) :
    Calls Try.prog 17 #[.pointer (some ⟨b, 0, none⟩)] w fun e w' => e = .returned (.int .u32 (xs.getD 0 0)) ∧ BoxAt w' B b (xs.drop 1) sh ∧ Only (fun k => k = b) w w' := by
  obtain ⟨i0, hi, hz0, hz1, hz2⟩ := info_parts Try.infoW
  have hh := Lib.hid h
  obtain ⟨hB, A, c, h1, h2, h3, h4, h5⟩ := h
  have hc0 := cell_block h1 (i := 0) rfl
  have hf0 : w.frozen? ⟨b, 0, none⟩ = false := by simp [World.frozen?, h1]
  obtain ⟨A', c', hrun, r1, r2, r3, r4⟩ := from_row (P := Try.prog) (t := 22) Try.underlying22 hi hz1 1 (by omega) h2 h3 h4 h5
  obtain ⟨g, o, rfl, hg, hcell⟩ := h4 hx
  have hc1 := hcell 0 hx
  rw [Nat.add_zero] at hc1
  have hp := Lib.hid (hh.out.put r1 r2 r3 r4)
  have he : ((xs.length : Int) == 0) = false := beq_eq_false_iff_ne.2 (by omega)
  obtain ⟨x, hxx⟩ : ∃ x, xs.getD 0 0 = x := ⟨_, rfl⟩
  rw [hxx] at hc1 ⊢
  obtain ⟨ys, hys⟩ : ∃ ys, xs.drop 1 = ys := ⟨_, rfl⟩
  rw [hys] at hp hrun ⊢
  clear hxx hys hcell h1 h2 h3 r1 r2 r3 r4 h5
  go_enter Try.func17, Try.ntmps17
  go_wp2_with (refine wpList_from rfl _ _ _ rfl _ _ _ rfl rfl (hrun _) ?_)
  go_ret
  exact ⟨rfl, hp.out, Only.setCell w ⟨b, 0, none⟩ _⟩
theorem next_out (B b : Nat) (sh : Bool) (w : World) (h : BoxAt w B b [] sh) :
    Calls Try.prog 17 #[.pointer (some ⟨b, 0, none⟩)] w fun e w' => e = .returned (.int .u32 0) ∧ BoxAt w' B b [] true ∧ Only (fun k => k = b) w w' := by
  have hp := Lib.hid h.short
  obtain ⟨hB, A, c, h1, h2, h3, h4, h5⟩ := h
  have hc0 := cell_block h1 (i := 0) rfl
  have hc1 := cell_block h1 (i := 1) rfl
  have hf1 : w.frozen? ⟨b, 1, none⟩ = false := by simp [World.frozen?, h1]
  simp only [List.length_nil] at hc0
  clear h1 h2 h3 h4 h5
  go_enter Try.func17, Try.ntmps17
  go_wp2
  go_ret
  exact ⟨rfl, hp.out, Only.setCell w ⟨b, 1, none⟩ _⟩
/-- What a Next does. -/
def nextV (xs : List Int) : Int := xs.getD 0 0
def nextS (xs : List Int) (sh : Bool) : Bool := sh || xs.isEmpty
theorem next_b (B b : Nat) (xs : List Int) (sh : Bool) (w : World) (h : BoxAt w B b xs sh) :
    Calls Try.prog 17 #[.pointer (some ⟨b, 0, none⟩)] w fun e w' => e = .returned (.int .u32 (nextV xs)) ∧ BoxAt w' B b (xs.drop 1) (nextS xs sh) ∧ Only (fun k => k = b) w w' := by
  cases xs with
  | nil => exact (next_out B b sh w h).mono fun e w' ⟨h1, h2, h3⟩ => ⟨h1, by simpa [nextS] using h2, h3⟩
  | cons x xs => exact (next_in B b (x :: xs) sh w h (by simp)).mono fun e w' ⟨h1, h2, h3⟩ => ⟨h1, by simpa [nextS] using h2, h3⟩

theorem done_b (B b : Nat) (xs : List Int) (sh : Bool) (w : World) (h : BoxAt w B b xs sh) :
    Calls Try.prog 25 #[.pointer (some ⟨b, 0, none⟩)] w fun e w' => e = .returned (.bool (xs.isEmpty && !sh)) ∧ w = w' := by
  obtain ⟨hB, A, c, h1, h2, h3, h4, h5⟩ := h
  have hc0 := cell_block h1 (i := 0) rfl
  have hc1 := cell_block h1 (i := 1) rfl
  clear h1 h2 h3 h4 h5
  cases xs with
  | nil =>
    simp only [List.length_nil] at hc0
    go_enter Try.func25, Try.ntmps25
    go_wp2
    go_ret
    exact ⟨by simp, rfl⟩
  | cons x xs =>
    have he : (((x :: xs).length : Int) == 0) = false := beq_eq_false_iff_ne.2 (by simp; omega)
    obtain ⟨n, hn⟩ : ∃ n, (x :: xs).length = n := ⟨_, rfl⟩
    rw [hn] at hc0 he
    clear hn
    go_enter Try.func25, Try.ntmps25
    go_wp2
    go_ret
    exact ⟨by simp, rfl⟩
end Go.Proofs.Ytjknmojjodghdaa
