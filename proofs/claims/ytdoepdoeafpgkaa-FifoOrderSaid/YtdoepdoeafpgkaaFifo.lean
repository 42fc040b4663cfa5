/- A bounded row as two blocks (its struct, its items), and the functions of package fifo as contracts: what each answers, and what it turns. No condition but those in the statements. -/
import Derived.Test.YtdoepdoeafpgkaaOff
import Derived.Test.YtdoepdoeafpgkaaProg
import Derived.IntWalk
import Derived.OneCell
namespace Go.Proofs.Ytdoepdoeafpgkaa
open Go.RowKit Go.Sort

/-- A row: its struct lies in block rb; its items are what the slice v owns. TR, TE: the struct's type, the items'. -/
structure RowAt (TR TE : TypeId) (size : Nat) (w : World) (base rb : Nat) (most : Int) (v : Value) (n : Nat) (xs : List Value) : Prop where
  le : base ≤ rb
  head : w.heap[rb]? = some (.cells #[.int .i64 most, v] TR (0, 0))
  row : OwnsOff w base TE size v n xs
section
variable {TR TE : TypeId} {size : Nat} {w w' : World} {base rb : Nat} {most : Int} {v v' : Value} {n : Nat} {xs : List Value}
theorem RowAt.lt (h : RowAt TR TE size w base rb most v n xs) : rb < w.heap.size := (Array.getElem?_eq_some_iff.1 h.head).1
theorem RowAt.c0 (h : RowAt TR TE size w base rb most v n xs) : w.cell? ⟨rb, 0, none⟩ = some (.int .i64 most) := by simp [World.cell?, h.head]
theorem RowAt.c1 (h : RowAt TR TE size w base rb most v n xs) : w.cell? ⟨rb, 1, none⟩ = some v := by simp [World.cell?, h.head]
theorem RowAt.free (h : RowAt TR TE size w base rb most v n xs) (o : Nat) : w.frozen? ⟨rb, o, none⟩ = false := by simp [World.frozen?, h.head]
theorem RowAt.apart (h : RowAt TR TE size w base rb most v n xs) (hne : TR ≠ TE) : ∀ k, v.ownBlock = some k → k ≠ rb := by
  rintro k hk rfl
  obtain ⟨cs, hc⟩ := h.row.typed k hk
  rw [h.head] at hc
  injection hc with hc; injection hc with _ hc
  exact hne hc
theorem RowAt.kept (h : RowAt TR TE size w base rb most v n xs) {S : Nat → Prop} (ho : Only S w w') (h1 : ¬ S rb) (h2 : ∀ k, v.ownBlock = some k → ¬ S k) : RowAt TR TE size w' base rb most v n xs :=
  ⟨h.le, (ho.block rb h.lt h1).trans h.head, h.row.kept ho h2⟩
theorem RowAt.keptB (h : RowAt TR TE size w base rb most v n xs) (hb : Below w.heap.size w w') : RowAt TR TE size w' base rb most v n xs := h.kept (Only.of_below (S := fun _ => False) hb) id (fun _ _ h => h)
/-- Another slice is stored into the struct. -/
theorem RowAt.store (h : RowAt TR TE size w base rb most v n xs) {m : Nat} {ys : List Value} (hv : OwnsOff w base TE size v' m ys) (hne : TR ≠ TE) : RowAt TR TE size (w.setCell ⟨rb, 1, none⟩ v') base rb most v' m ys := by
  refine ⟨h.le, ?_, hv.kept (Only.setCell w ⟨rb, 1, none⟩ v') (fun k hk e => ?_)⟩
  · have := h.head
    simp [World.setCell, Array.getElem?_modify, this]
  · obtain ⟨cs, hc⟩ := hv.typed k hk
    obtain rfl : k = rb := e
    rw [h.head] at hc
    injection hc with hc; injection hc with _ hc
    exact hne hc
end
/-- A row's call has turned only the row's own blocks; the new slice's block is the elder one's, or new. -/
def Moved (rb : Nat) (v v' : Value) (w w' : World) : Prop := Only (fun k => k = rb ∨ v.ownBlock = some k) w w' ∧ ∀ g, v'.ownBlock = some g → v.ownBlock = some g ∨ w.heap.size ≤ g
theorem Moved.refl (rb : Nat) (v : Value) (w : World) : Moved rb v v w w := ⟨Only.refl _ _, fun _ h => .inl h⟩
theorem Moved.ahead {rb : Nat} {v v' : Value} {w w1 w2 : World} (hb : Below w.heap.size w w1) (h : Moved rb v v' w1 w2) : Moved rb v v' w w2 := ⟨(Only.of_below hb).trans h.1, fun g hg => (h.2 g hg).imp id (Nat.le_trans hb.size)⟩
theorem Moved.below {TR TE : TypeId} {size : Nat} {w w' : World} {base rb : Nat} {most : Int} {v v' : Value} {n : Nat} {xs : List Value} (hm : Moved rb v v' w w') (h : RowAt TR TE size w base rb most v n xs) : Below base w w' :=
  hm.1.below (Nat.le_trans h.le (Nat.le_of_lt h.lt)) (fun k hk => by
    rcases hk with rfl | hk
    · exact h.le
    · exact (h.row.lt k hk).1)

/-- Behind an append of something that lies in a new block, and the store of what it gave. -/
theorem RowAt.appended {TR TE : TypeId} {size : Nat} {w w2 : World} {base rb : Nat} {most : Int} {v v' : Value} {n m : Nat} {xs ys : List Value} (h : RowAt TR TE size w base rb most v n xs) (hne : TR ≠ TE) {tmp : Obj}
    (hgrow : (w.alloc tmp).grownBy w2 v.ownBlock) (hown' : OwnsOff w2 base TE size v' m ys) (hfr : ∀ g, v'.ownBlock = some g → v.ownBlock = some g ∨ w.heap.size + 1 ≤ g) :
    w2.cell? ⟨rb, 1, none⟩ = some v ∧ w2.frozen? ⟨rb, 1, none⟩ = false ∧ RowAt TR TE size (w2.setCell ⟨rb, 1, none⟩ v') base rb most v' m ys ∧ Moved rb v v' w (w2.setCell ⟨rb, 1, none⟩ v') := by
  have hb1 : Below w.heap.size w (w.alloc tmp) := (Below.refl _ _).alloc (Nat.le_refl _) _
  have hhead : w2.heap[rb]? = some (.cells #[.int .i64 most, v] TR (0, 0)) :=
    (hgrow.block rb (by have := h.lt; simp; omega) (fun e => h.apart hne rb e.symm rfl)).trans ((hb1.block rb h.lt).trans h.head)
  refine ⟨by simp [World.cell?, hhead], by simp [World.frozen?, hhead], ⟨h.le, by simp [World.setCell, Array.getElem?_modify, hhead], hown'.kept (Only.setCell w2 ⟨rb, 1, none⟩ v') (fun k hk e => ?_)⟩, ?_, fun g hg => ?_⟩
  · obtain ⟨cs, hc⟩ := hown'.typed k hk
    obtain rfl : k = rb := e
    rw [hhead] at hc
    injection hc with hc; injection hc with _ hc
    exact hne hc
  · refine ((Only.of_below (S := fun k => k = rb ∨ v.ownBlock = some k) hb1).trans ((Only.of_grown hgrow).mono fun k _ hk => .inr hk.symm)).trans ((Only.setCell w2 ⟨rb, 1, none⟩ v').mono fun k _ hk => .inl hk)
  · exact (hfr g hg).imp id (fun h => by omega)

/-- A row of integers. -/
def IRow (w : World) (base rb : Nat) (most : Int) (v : Value) (xs : List Int) : Prop := RowAt 51 3 1 w base rb most v xs.length (xs.map (Value.int .i64))
/-- The document's row. -/
def DRow (w : World) (base rb : Nat) (most : Int) (v : Value) (xs : List Int) : Prop := RowAt 30 3 1 w base rb most v xs.length (xs.map (Value.int .i64))

theorem Try.infoI : (Try.prog.info? 3).map (fun i => (i.zero, i.size, i.bytes)) = some (some (.int .i64 0), 1, 8) := by kernel_rfl

theorem new_out (n : Int) (w : World) (h : n < 1 ∨ 4096 < n) : Calls Try.prog 8 #[.int .i64 n] w fun e w' => e = .returned (.tuple #[.pointer none, .int .i64 7]) ∧ w = w' := by
  by_cases h1 : n < 1
  · have h2 : ¬ 4096 < n := by omega
    go_enter Try.func8, Try.ntmps8
    go_wp2
    go_ret2
    exact ⟨rfl, rfl⟩
  · have h2 : 4096 < n := by omega
    clear h
    go_enter Try.func8, Try.ntmps8
    go_wp2
    go_ret2
    exact ⟨rfl, rfl⟩
/-- A new row. -/
def GivesRow (w : World) (most : Int) (e : Ending) (w' : World) : Prop :=
  ∃ rb, e = .returned (.tuple #[.pointer (some ⟨rb, 0, none⟩), .int .i64 0]) ∧ IRow w' w.heap.size rb most (.slice none 0 0) [] ∧ Below w.heap.size w w'
theorem new_in (n : Int) (w : World) (h1 : 1 ≤ n) (h2 : n ≤ 4096) : Calls Try.prog 8 #[.int .i64 n] w (GivesRow w n) := by
  have h3 : ¬ n < 1 := by omega
  have h4 : ¬ 4096 < n := by omega
  go_enter Try.func8, Try.ntmps8
  go_wp2
  go_ret2
  exact ⟨w.heap.size, rfl, ⟨Nat.le_refl _, heap_alloc_new w _, OwnsOff.nil _ _ _ _⟩, (Below.refl _ _).alloc (Nat.le_refl _) _⟩

theorem len_b (base rb : Nat) (most : Int) (v : Value) (xs : List Int) (w : World) (h : IRow w base rb most v xs) :
    Calls Try.prog 13 #[.pointer (some ⟨rb, 0, none⟩)] w fun e w' => e = .returned (.int .i64 xs.length) ∧ w = w' := by
  obtain ⟨a, c, rfl, _⟩ := h.row.slice
  have c1 := h.c1
  clear h
  go_enter Try.func13, Try.ntmps13
  go_wp2
  go_ret
  exact ⟨rfl, rfl⟩

/-- Behind a call that turned a row. -/
def GoesRow (w : World) (base rb : Nat) (most : Int) (v : Value) (r : Value) (ys : List Int) (e : Ending) (w' : World) : Prop :=
  ∃ v', e = .returned r ∧ IRow w' base rb most v' ys ∧ Moved rb v v' w w'

set_option maxHeartbeats 800000 in
theorem put_in (base rb : Nat) (most : Int) (v : Value) (xs : List Int) (x : Int) (w : World) (h : IRow w base rb most v xs) (hl : (xs.length : Int) < most) (hm : most ≤ 1000000) :
    Calls Try.prog 9 #[.pointer (some ⟨rb, 0, none⟩), .int .i64 x] w (GoesRow w base rb most v (.int .i64 0) (xs ++ [x])) := by
  obtain ⟨i0, hi, hz0, hz1, hz2⟩ := info_parts Try.infoI
  obtain ⟨a, c, hv, hc⟩ := h.row.slice
  have hrow := h.row
  have hh := Lib.hid h
  have c0 : ∀ p : Regrown, (grow (redrawn w p.d) p.os).cell? ⟨rb, 0, none⟩ = some (.int .i64 most) := fun p => cell_regrown h.c0 p.d p.os
  have c1 : ∀ p : Regrown, (grow (redrawn w p.d) p.os).cell? ⟨rb, 1, none⟩ = some v := fun p => cell_regrown h.c1 p.d p.os
  subst hv
  have hbc := Below.refl w.heap.size w
  have hd : ((xs.length : Int) == most) = false := by simp; omega
  clear h
  go_enter Try.func9, Try.ntmps9
  go_wp2_with fail
  (with_reducible refine wp_on hbc (by kernel_rfl) (by kernel_rfl) ?_); (repeat (go_big_quiet_step (fail))); with_reducible refine wpQuiet_nil ?_; intro wc hbc
  have h1 := RowAt.keptB hh.out hbc
  have hrow := h1.row
  have d1 := h1.c1
  have f1 := h1.free 1
  have hlt := h1.lt
  have hle := h1.le
  have hh := Lib.hid h1
  clear c0 c1 h1
  go_wp2_with (at_builtin; refine wpList_append_off _ rfl _ _ 22 rfl base 3 i0 (.int .i64 0) 1 8 Try.underlying22 hi hz0 hz1 hz2 rfl (by decide) _ _ _ rfl (hrow.keptB ((Below.refl _ _).alloc (Nat.le_refl _) _)) ⟨wc.heap.size, 0, none⟩ 1 1 [.int .i64 x] rfl rfl (cell_one_new _ _ _) (by simp [Value.oneCell']) (by unfold maxLen; omega) (by omega) (by simp; omega) ?_)
  · intro v' w2 hown' hgrow hfr
    obtain ⟨e1, e2, h3, h4⟩ := hh.out.appended (by decide) hgrow hown' hfr
    obtain ⟨a', c', rfl, _⟩ := hown'.slice
    have h5 := h4.ahead hbc
    have h6 : IRow (w2.setCell ⟨rb, 1, none⟩ (.slice a' (xs.length + 1) c')) base rb most (.slice a' (xs.length + 1) c') (xs ++ [x]) := by unfold IRow; simpa using h3
    have H5 := Lib.hid h5; have H6 := Lib.hid h6
    clear hown' hgrow hfr d1 f1 h3 h4 h5 h6
    go_wp2
    go_ret
    exact ⟨_, rfl, H6.out, H5.out⟩

theorem put_full (base rb : Nat) (most : Int) (v : Value) (xs : List Int) (x : Int) (w : World) (h : IRow w base rb most v xs) (hl : most = (xs.length : Int)) :
    Calls Try.prog 9 #[.pointer (some ⟨rb, 0, none⟩), .int .i64 x] w fun e w' => e = .returned (.int .i64 2) ∧ Below w.heap.size w w' := by
  obtain ⟨a, c, rfl, hc⟩ := h.row.slice
  subst hl
  have c0 : ∀ p : Regrown, (grow (redrawn w p.d) p.os).cell? ⟨rb, 0, none⟩ = some (.int .i64 xs.length) := fun p => cell_regrown h.c0 p.d p.os
  have c1 : ∀ p : Regrown, (grow (redrawn w p.d) p.os).cell? ⟨rb, 1, none⟩ = some (.slice a xs.length c) := fun p => cell_regrown h.c1 p.d p.os
  have hbc := Below.refl w.heap.size w
  have hd : ((xs.length : Int) == (xs.length : Int)) = true := by simp
  clear h
  go_enter Try.func9, Try.ntmps9
  go_wp2_with fail
  (with_reducible refine wp_on hbc (by kernel_rfl) (by kernel_rfl) ?_); (repeat (go_big_quiet_step (fail))); with_reducible refine wpQuiet_nil ?_; intro wc hbc
  go_wp2
  go_ret
  exact ⟨rfl, hbc⟩

theorem take_empty (base rb : Nat) (most : Int) (v : Value) (w : World) (h : IRow w base rb most v []) :
    Calls Try.prog 11 #[.pointer (some ⟨rb, 0, none⟩)] w fun e w' => e = .returned (.tuple #[.int .i64 0, .int .i64 2]) ∧ w = w' := by
  obtain ⟨a, c, rfl, hc⟩ := h.row.slice
  have c1 := h.c1
  clear h
  go_enter Try.func11, Try.ntmps11
  go_wp2
  go_ret2
  exact ⟨rfl, rfl⟩

/-- Behind a store into the items' front. -/
theorem OwnsOff.front {w : World} {base : Nat} {e : TypeId} {v0 z : Value} {n : Nat} {xs : List Value} {g off cap : Nat} (h : OwnsOff w base e 1 (.slice (some ⟨g, off, none⟩) (n + 1) cap) (n + 1) (v0 :: xs)) :
    OwnsOff (w.setCell ⟨g, off, none⟩ z) base e 1 (.slice (some ⟨g, off, none⟩) (n + 1) cap) (n + 1) (z :: xs) := by
  obtain ⟨h1, ⟨h2, _⟩ | ⟨g', off', cap', cur, hv, hb, hg, hnc, hcm, hcs, htk⟩⟩ := h
  · cases h2
  · cases hv
    have hlt : off < cur.size := by omega
    refine ⟨by simpa using h1, .inr ⟨g, off, cap, cur.setIfInBounds off z, rfl, hb, ?_, hnc, hcm, by simpa using hcs, ?_⟩⟩
    · simp [World.setCell, Array.getElem?_modify, hg]
    · have h3 : cur.toList.drop off = cur.toList[off]'(by simpa using hlt) :: cur.toList.drop (off + 1) := List.drop_eq_getElem_cons _
      rw [h3, Nat.mul_one, List.take_succ_cons] at htk
      injection htk with _ h4
      rw [Array.toList_setIfInBounds, List.drop_set, if_neg (Nat.lt_irrefl _), Nat.sub_self, h3, List.set_cons_zero, Nat.mul_one, List.take_succ_cons, h4]

set_option maxHeartbeats 800000 in
theorem take_in (base rb : Nat) (most : Int) (v : Value) (x : Int) (xs : List Int) (w : World) (h : IRow w base rb most v (x :: xs)) (hl : xs.length ≤ 1000000) :
    Calls Try.prog 11 #[.pointer (some ⟨rb, 0, none⟩)] w (GoesRow w base rb most v (.tuple #[.int .i64 x, .int .i64 0]) xs) := by
  obtain ⟨i0, hi, hz0, hz1, hz2⟩ := info_parts Try.infoI
  obtain ⟨g, off, cap, rfl, hbg, hgl, hnc, hcm, hfz, hcell⟩ := OwnsOff.lies h.row (by simp)
  have c1 := h.c1
  have c2 := hcell 0 _ rfl
  have f2 := hfz off
  rw [Nat.add_zero] at c2
  have hne : g ≠ rb := h.apart (by decide) g rfl
  have h1 : IRow (w.setCell ⟨g, off, none⟩ (.int .i64 0)) base rb most (.slice (some ⟨g, off, none⟩) (xs.length + 1) cap) (0 :: xs) := by
    refine ⟨h.le, ?_, ?_⟩
    · rw [Below.heap_setCell _ _ _ _ (by simpa using hne.symm)]; exact h.head
    · have h2 := h.row
      exact OwnsOff.front (z := .int .i64 0) h2
  have hon : Only (fun k => k = rb ∨ (Value.slice (some ⟨g, off, none⟩) (xs.length + 1) cap).ownBlock = some k) w (w.setCell ⟨g, off, none⟩ (.int .i64 0)) := (Only.setCell w ⟨g, off, none⟩ _).mono (fun k _ hk => .inr (by rw [hk]; rfl))
  obtain ⟨wx, hwx⟩ : ∃ wx, Hid (wx = w.setCell ⟨g, off, none⟩ (.int .i64 0)) := ⟨_, rfl⟩
  rw [← hwx.out] at h1 hon
  have d1 := h1.c1
  have e1 := h1.free 1
  have hrow := h1.row
  have HH := Lib.hid h1; have HO := Lib.hid hon
  clear h hcell hfz hne h1 hon
  simp only [List.length_cons] at d1 hrow c1 hnc
  go_enter Try.func11, Try.ntmps11
  go_wp2_with (first | (rw [← hwx.out]) | (refine wpList_tail_off _ rfl _ _ rfl base 3 i0 1 Try.underlying22 hi hz1 _ _ _ rfl hrow ?_))
  · intro v' hown' hb'
    obtain ⟨a', c', rfl, _⟩ := hown'.slice
    have h3 := RowAt.store (v' := .slice a' xs.length c') HH.out (m := xs.length) (ys := xs.map (Value.int .i64)) (by simpa using hown') (by decide)
    have h4 : Moved rb (.slice (some ⟨g, off, none⟩) (xs.length + 1) cap) (.slice a' xs.length c') w (wx.setCell ⟨rb, 1, none⟩ (.slice a' xs.length c')) :=
      ⟨HO.out.trans ((Only.setCell _ _ _).mono (fun k _ hk => .inl hk)), fun g' hg' => .inl (by rw [← hb']; exact hg')⟩
    have H3 := Lib.hid h3; have H4 := Lib.hid h4
    clear h3 h4 hown' hb'
    go_wp2
    go_ret2
    exact ⟨_, rfl, H3.out, H4.out⟩
/-- Behind a call that turned a row. -/
def GoesDoc (w : World) (base rb : Nat) (most : Int) (v : Value) (r : Value) (ys : List Int) (e : Ending) (w' : World) : Prop :=
  ∃ v', e = .returned r ∧ DRow w' base rb most v' ys ∧ Moved rb v v' w w'
set_option maxHeartbeats 800000 in
theorem rput_in (base rb : Nat) (most : Int) (v : Value) (xs : List Int) (x : Int) (w : World) (h : DRow w base rb most v xs) (hl : (xs.length : Int) < most) (hm : most ≤ 1000000) :
    Calls Try.prog 10 #[.pointer (some ⟨rb, 0, none⟩), .int .i64 x] w (GoesDoc w base rb most v (.bool true) (xs ++ [x])) := by
  obtain ⟨i0, hi, hz0, hz1, hz2⟩ := info_parts Try.infoI
  obtain ⟨a, c, hv, hc⟩ := h.row.slice
  have hrow := h.row
  have hh := Lib.hid h
  have c0 : ∀ p : Regrown, (grow (redrawn w p.d) p.os).cell? ⟨rb, 0, none⟩ = some (.int .i64 most) := fun p => cell_regrown h.c0 p.d p.os
  have c1 : ∀ p : Regrown, (grow (redrawn w p.d) p.os).cell? ⟨rb, 1, none⟩ = some v := fun p => cell_regrown h.c1 p.d p.os
  subst hv
  have hbc := Below.refl w.heap.size w
  have hd : ¬ most ≤ (xs.length : Int) := by omega
  have hd2 : decide (most ≤ (xs.length : Int)) = false := by simpa using hd
  clear h
  go_enter Try.func10, Try.ntmps10
  go_wp2_with fail
  (with_reducible refine wp_on hbc (by kernel_rfl) (by kernel_rfl) ?_); (repeat (go_big_quiet_step (fail))); with_reducible refine wpQuiet_nil ?_; intro wc hbc
  have h1 := RowAt.keptB hh.out hbc
  have hrow := h1.row
  have d1 := h1.c1
  have f1 := h1.free 1
  have hlt := h1.lt
  have hle := h1.le
  have hh := Lib.hid h1
  clear c0 c1 h1
  go_wp2_with (at_builtin; refine wpList_append_off _ rfl _ _ 22 rfl base 3 i0 (.int .i64 0) 1 8 Try.underlying22 hi hz0 hz1 hz2 rfl (by decide) _ _ _ rfl (hrow.keptB ((Below.refl _ _).alloc (Nat.le_refl _) _)) ⟨wc.heap.size, 0, none⟩ 1 1 [.int .i64 x] rfl rfl (cell_one_new _ _ _) (by simp [Value.oneCell']) (by unfold maxLen; omega) (by omega) (by simp; omega) ?_)
  · intro v' w2 hown' hgrow hfr
    obtain ⟨e1, e2, h3, h4⟩ := hh.out.appended (by decide) hgrow hown' hfr
    obtain ⟨a', c', rfl, _⟩ := hown'.slice
    have h5 := h4.ahead hbc
    have h6 : DRow (w2.setCell ⟨rb, 1, none⟩ (.slice a' (xs.length + 1) c')) base rb most (.slice a' (xs.length + 1) c') (xs ++ [x]) := by unfold DRow; simpa using h3
    have H5 := Lib.hid h5; have H6 := Lib.hid h6
    clear hown' hgrow hfr d1 f1 h3 h4 h5 h6
    go_wp2
    go_ret
    exact ⟨_, rfl, H6.out, H5.out⟩

theorem rput_full (base rb : Nat) (most : Int) (v : Value) (xs : List Int) (x : Int) (w : World) (h : DRow w base rb most v xs) (hl : most = (xs.length : Int)) :
    Calls Try.prog 10 #[.pointer (some ⟨rb, 0, none⟩), .int .i64 x] w fun e w' => e = .returned ((.bool false)) ∧ Below w.heap.size w w' := by
  obtain ⟨a, c, rfl, hc⟩ := h.row.slice
  subst hl
  have c0 : ∀ p : Regrown, (grow (redrawn w p.d) p.os).cell? ⟨rb, 0, none⟩ = some (.int .i64 xs.length) := fun p => cell_regrown h.c0 p.d p.os
  have c1 : ∀ p : Regrown, (grow (redrawn w p.d) p.os).cell? ⟨rb, 1, none⟩ = some (.slice a xs.length c) := fun p => cell_regrown h.c1 p.d p.os
  have hbc := Below.refl w.heap.size w
  have hd : ((xs.length : Int) ≤ (xs.length : Int)) := by omega
  have hd2 : decide ((xs.length : Int) ≤ (xs.length : Int)) = true := by simp
  clear h
  go_enter Try.func10, Try.ntmps10
  go_wp2_with fail
  (with_reducible refine wp_on hbc (by kernel_rfl) (by kernel_rfl) ?_); (repeat (go_big_quiet_step (fail))); with_reducible refine wpQuiet_nil ?_; intro wc hbc
  go_wp2
  go_ret
  exact ⟨rfl, hbc⟩

theorem rtake_empty (base rb : Nat) (most : Int) (v : Value) (w : World) (h : DRow w base rb most v []) :
    Calls Try.prog 12 #[.pointer (some ⟨rb, 0, none⟩)] w fun e w' => e = .returned (.tuple #[.int .i64 0, .bool false]) ∧ w = w' := by
  obtain ⟨a, c, rfl, hc⟩ := h.row.slice
  have c1 := h.c1
  clear h
  go_enter Try.func12, Try.ntmps12
  go_wp2
  go_ret2
  exact ⟨rfl, rfl⟩

set_option maxHeartbeats 800000 in
theorem rtake_in (base rb : Nat) (most : Int) (v : Value) (x : Int) (xs : List Int) (w : World) (h : DRow w base rb most v (x :: xs)) (hl : xs.length ≤ 1000000) :
    Calls Try.prog 12 #[.pointer (some ⟨rb, 0, none⟩)] w (GoesDoc w base rb most v (.tuple #[.int .i64 x, .bool true]) xs) := by
  obtain ⟨i0, hi, hz0, hz1, hz2⟩ := info_parts Try.infoI
  obtain ⟨g, off, cap, rfl, hbg, hgl, hnc, hcm, hfz, hcell⟩ := OwnsOff.lies h.row (by simp)
  have c1 := h.c1
  have c2 := hcell 0 _ rfl
  rw [Nat.add_zero] at c2
  have hrow := h.row
  have HH := Lib.hid h
  clear h hcell hfz
  simp only [List.length_cons] at hrow c1 hnc
  go_enter Try.func12, Try.ntmps12
  go_wp2_with (refine wpList_tail_off _ rfl _ _ rfl base 3 i0 1 Try.underlying22 hi hz1 _ _ _ rfl hrow ?_)
  · intro v' hown' hb'
    obtain ⟨a', c', rfl, _⟩ := hown'.slice
    have h3 := RowAt.store (v' := .slice a' xs.length c') HH.out (m := xs.length) (ys := xs.map (Value.int .i64)) (by simpa using hown') (by decide)
    have f3 := HH.out.free 1
    have h4 : Moved rb (.slice (some ⟨g, off, none⟩) (xs.length + 1) cap) (.slice a' xs.length c') w (w.setCell ⟨rb, 1, none⟩ (.slice a' xs.length c')) :=
      ⟨(Only.setCell _ _ _).mono (fun k _ hk => .inl hk), fun g' hg' => .inl (by rw [← hb']; exact hg')⟩
    have H3 := Lib.hid h3; have H4 := Lib.hid h4
    clear h3 h4 hown' hb'
    go_wp2
    go_ret2
    exact ⟨_, rfl, H3.out, H4.out⟩
end Go.Proofs.Ytdoepdoeafpgkaa
