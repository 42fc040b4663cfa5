/- Stores that follow each other; the document's word; stores whatever the address. No condition but those in the statements. -/
import Derived.Test.YtckhlencaojkmaaLNew
import Derived.Test.YtckhlencaojkmaaKitP
namespace Go.Proofs.Ytckhlencaojkmaa
open Go.RowKit Go.Sort

/-- Words behind stores. -/
def puts (ws : List Int) (l : List (Int × Int)) : List Int := l.foldl (fun ws p => ws.set p.1.toNat p.2) ws
@[simp] theorem puts_len (ws : List Int) (l : List (Int × Int)) : (puts ws l).length = ws.length := by
  induction l generalizing ws with
  | nil => rfl
  | cons p l ih => simp only [puts, List.foldl_cons] at ih ⊢; rw [ih]; simp
theorem puts_snoc (ws : List Int) (l : List (Int × Int)) (p : Int × Int) : puts ws (l ++ [p]) = (puts ws l).set p.1.toNat p.2 := by simp [puts]
theorem take_snoc (l : List (Int × Int)) (k : Nat) (h : k < l.length) : l.take (k + 1) = l.take k ++ [l.getD k (0, 0)] := by
  rw [List.take_succ_eq_append_getElem h]; simp [List.getD_eq_getElem?_getD, h]
theorem puts_take (ws : List Int) (l : List (Int × Int)) (k : Nat) (h : k < l.length) : puts ws (l.take (k + 1)) = (puts ws (l.take k)).set (l.getD k (0, 0)).1.toNat (l.getD k (0, 0)).2 := by
  rw [take_snoc l k h, puts_snoc]
/-- The document's word at an address. -/
def wordAt (l : List (Int × Int)) (a : Int) : Int := ((l.reverse.find? fun p => p.1 == a).map (·.2)).getD 0
theorem wordAt_snoc (l : List (Int × Int)) (p : Int × Int) (a : Int) : wordAt (l ++ [p]) a = if p.1 = a then p.2 else wordAt l a := by
  unfold wordAt
  rw [List.reverse_append]
  by_cases h : p.1 = a <;> simp [h]
theorem wordAt_none (a : Int) : wordAt [] a = 0 := rfl
theorem snoc_ind {p : List (Int × Int) → Prop} (h0 : p []) (h1 : ∀ l x, p l → p (l ++ [x])) (l : List (Int × Int)) : p l := by
  have : ∀ l : List (Int × Int), p l.reverse := fun l => by
    induction l with
    | nil => exact h0
    | cons x l ih => rw [List.reverse_cons]; exact h1 _ _ ih
  have := this l.reverse
  rwa [List.reverse_reverse] at this
theorem puts_word (n : Nat) (k : Nat) (hk : k < n) (l : List (Int × Int)) : (∀ p ∈ l, 0 ≤ p.1) → (puts (List.replicate n 0) l).getD k 0 = wordAt l k := by
  induction l using snoc_ind with
  | h0 => intro _; rw [wordAt_none]; exact zeros_at n k
  | h1 l p ih =>
    intro h
    have ih := ih (fun q hq => h q (by simp [hq]))
    have hp := h p (by simp)
    rw [puts_snoc, wordAt_snoc, ← ih]
    simp only [List.getD_eq_getElem?_getD, List.getElem?_set, puts_len, List.length_replicate]
    by_cases e : p.1 = (k : Int)
    · rw [if_pos e, if_pos (by omega), if_pos (by omega)]; rfl
    · rw [if_neg e, if_neg (by omega)]

set_option maxHeartbeats 400000 in
theorem word_b (l : List (Int × Int)) (A : Option Addr) (c : Nat) (a : Int) (w : World) (B : Nat) (hl : l.length ≤ 1000000) (hrow : PairRowK .u64 .u32 w B A l) :
    Calls Try.prog 13 #[.slice A l.length c, .int .u64 a] w fun e w' => e = .returned (.int .u32 (wordAt l a)) ∧ w = w' := by
  go_enter Try.func13, Try.ntmps13
  go_wp2
  go_loop [5] (fun i => ∃ k : Nat, k ≤ l.length ∧ i = .int .i64 ((k : Int) - 1) ∧ Hid (wordAt l a = wordAt (l.take k) a)) (fun i => (intOf i + 1).toNat)
  case atStart => exact ⟨l.length, Nat.le_refl _, by go_num, Lib.hid (by rw [List.take_length])⟩
  case round =>
    obtain ⟨k, hk, rfl, HW⟩ := hrel
    cases k with
    | zero =>
      go_wp2
      go_ret
      exact ⟨by rw [HW.out]; rfl, rfl⟩
    | succ k =>
      have hlt : k < l.length := by omega
      obtain ⟨b, o, rfl, hbo, hcs⟩ := hrow.at_ hlt
      have hts := take_snoc l k hlt
      obtain ⟨c0, c1⟩ := hcs w (Below.refl _ _)
      obtain ⟨f, s, hp⟩ : ∃ f s, l.getD k (0, 0) = (f, s) := ⟨_, _, rfl⟩
      rw [hp] at c0 c1 hts
      simp only at c0 c1
      have HW2 := Lib.hid (show wordAt l a = if f = a then s else wordAt (l.take k) a from HW.out.trans (by rw [hts]; exact wordAt_snoc (l.take k) (f, s) a))
      have e1 : (((k + 1 : Nat) : Int) - 1) = (k : Int) := by omega
      rw [e1]
      clear hts hp hcs e1 HW
      by_cases hfa : f = a
      · have hd : (f == a) = true := by simpa using hfa
        go_wp2
        go_ret
        exact ⟨by rw [HW2.out, if_pos hfa]; rfl, rfl⟩
      · have hd : (f == a) = false := by simpa using hfa
        go_wp2
        go_round
        case rel => exact ⟨k, by omega, by go_num, Lib.hid (by rw [HW2.out, if_neg hfa])⟩
        case measure => simp [intOf]

/-- What a store does, whatever the address. -/
def StoresAny (w : World) (mb rb : Nat) (ws : List Int) (e : Ending) (w' : World) : Prop := ∃ c, e = .returned (.int .i64 c) ∧ MemAt w' mb rb ws ∧ w.grownBy w' (some rb)
theorem memStore_any (mb rb : Nat) (ws : List Int) (a x : Int) (w : World) (h : MemAt w mb rb ws) (hl : ws.length ≤ 1000000) (ha : 0 ≤ a) :
    Calls Try.prog 11 #[.pointer (some ⟨mb, 0, none⟩), .int .u64 a, .int .u32 x] w (StoresAny w mb rb (ws.set a.toNat x)) := by
  obtain ⟨k, rfl⟩ := Int.eq_ofNat_of_zero_le ha
  by_cases hk : k < ws.length
  · exact (memStore_at mb rb ws k _ x rfl w h hl hk).mono fun e w' ⟨h1, h2, h3⟩ => ⟨0, h1, h2, h3⟩
  · refine (memStore_out mb rb ws k x w h hl (by omega)).mono ?_
    rintro e w' ⟨rfl, rfl⟩
    refine ⟨6, rfl, ?_, ⟨rfl, rfl, rfl, Nat.le_refl _, fun _ _ _ => rfl⟩⟩
    rw [List.set_eq_of_length_le (by simp; omega)]
    exact h
/-- A memory and its blocks, of a call's own from block B on. -/
def OwnMem (B : Nat) (w : World) (mb rb : Nat) (ws : List Int) : Prop := B ≤ mb ∧ B ≤ rb ∧ MemAt w mb rb ws
theorem below_store {B : Nat} {w0 w w' : World} {rb : Nat} (h : Below B w0 w) (hg : w.grownBy w' (some rb)) (h1 : B ≤ w.heap.size) (h2 : B ≤ rb) : Below B w0 w' :=
  h.grown hg h1 (fun k hk => by injection hk with hk; omega)
theorem box2_cells (w : World) (v0 v1 : Value) (T : TypeId) : (w.alloc (.cells #[v0, v1] T)).cell? ⟨w.heap.size, 0, none⟩ = some v0 ∧ (w.alloc (.cells #[v0, v1] T)).cell? ⟨w.heap.size, 1, none⟩ = some v1 := by
  have h := heap_alloc_new w (.cells #[v0, v1] T)
  constructor <;> simp only [World.cell?, h] <;> rfl
end Go.Proofs.Ytckhlencaojkmaa
