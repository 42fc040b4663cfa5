/- A row of pairs: the functions of package fifo at [2]int as contracts. No condition but those in the statements. -/
import Derived.Test.YtdoepdoeafpgkaaFifo
import Derived.Test.YtdoepdoeafpgkaaOffB
namespace Go.Proofs.Ytdoepdoeafpgkaa
open Go.RowKit Go.Sort
set_option linter.unusedVariables false

/-- Pairs as cells. -/
def pcells (ps : List (Int × Int)) : List Value := ps.flatMap fun p => [.int .i64 p.1, .int .i64 p.2]
theorem pcells_len (ps : List (Int × Int)) : (pcells ps).length = ps.length * 2 := by
  unfold pcells
  induction ps with
  | nil => rfl
  | cons p ps ih => simp [List.flatMap_cons] at ih ⊢; omega
theorem pcells_snoc (ps : List (Int × Int)) (p : Int × Int) : pcells (ps ++ [p]) = pcells ps ++ [.int .i64 p.1, .int .i64 p.2] := by simp [pcells]
theorem pcells_cons (p : Int × Int) (ps : List (Int × Int)) : pcells (p :: ps) = .int .i64 p.1 :: .int .i64 p.2 :: pcells ps := by simp [pcells]
/-- A row of pairs. -/
def PRow (w : World) (base rb : Nat) (most : Int) (v : Value) (ps : List (Int × Int)) : Prop := RowAt 57 45 2 w base rb most v ps.length (pcells ps)

theorem Try.infoP : (Try.prog.info? 45).map (fun i => (i.zero, i.size, i.bytes)) = some (some (.agg #[.int .i64 0, .int .i64 0]), 2, 16) := by kernel_rfl

/-- A new row. -/
def GivesPRow (w : World) (most : Int) (e : Ending) (w' : World) : Prop :=
  ∃ rb, e = .returned (.tuple #[.pointer (some ⟨rb, 0, none⟩), .int .i64 0]) ∧ PRow w' w.heap.size rb most (.slice none 0 0) [] ∧ Below w.heap.size w w'
theorem pnew_in (n : Int) (w : World) (h1 : 1 ≤ n) (h2 : n ≤ 4096) : Calls Try.prog 16 #[.int .i64 n] w (GivesPRow w n) := by
  have h3 : ¬ n < 1 := by omega
  have h4 : ¬ 4096 < n := by omega
  go_enter Try.func16, Try.ntmps16
  go_wp2
  go_ret2
  exact ⟨w.heap.size, rfl, ⟨Nat.le_refl _, heap_alloc_new w _, OwnsOff.nil _ _ _ _⟩, (Below.refl _ _).alloc (Nat.le_refl _) _⟩

theorem plen_b (base rb : Nat) (most : Int) (v : Value) (xs : List (Int × Int)) (w : World) (h : PRow w base rb most v xs) :
    Calls Try.prog 19 #[.pointer (some ⟨rb, 0, none⟩)] w fun e w' => e = .returned (.int .i64 xs.length) ∧ w = w' := by
  obtain ⟨a, c, rfl, _⟩ := h.row.slice
  have c1 := h.c1
  clear h
  go_enter Try.func19, Try.ntmps19
  go_wp2
  go_ret
  exact ⟨rfl, rfl⟩

/-- Behind a call that turned a row. -/
def GoesPRow (w : World) (base rb : Nat) (most : Int) (v : Value) (r : Value) (ys : List (Int × Int)) (e : Ending) (w' : World) : Prop :=
  ∃ v', e = .returned r ∧ PRow w' base rb most v' ys ∧ Moved rb v v' w w'

theorem grown_undrew {w w' : World} {row : Option Nat} (h : w.drew.grownBy w' row) : w.grownBy w' row := ⟨h.os, h.tape, h.output, h.size, h.block⟩

theorem fresh_undrew {w : World} {o : Obj} {p : Prop} {g : Nat} (h : p ∨ (w.alloc o).drew.heap.size ≤ g) : p ∨ w.heap.size + 1 ≤ g := h.imp id (fun h => by simpa using h)

set_option maxHeartbeats 1600000 in
theorem pput_in (base rb : Nat) (most : Int) (v : Value) (xs : List (Int × Int)) (x y : Int) (w : World) (h : PRow w base rb most v xs) (hl : (xs.length : Int) < most) (hm : most ≤ 1000000) :
    Calls Try.prog 17 #[.pointer (some ⟨rb, 0, none⟩), .agg #[.int .i64 x, .int .i64 y]] w (GoesPRow w base rb most v (.int .i64 0) (xs ++ [(x, y)])) := by
  obtain ⟨i0, hi, hz0, hz1, hz2⟩ := info_parts Try.infoP
  obtain ⟨a, c, rfl, hc⟩ := h.row.slice
  obtain ⟨W, hW, hbW, hlW, x0, x1⟩ := one_box w (.int .i64 x) (.int .i64 y) 45
  have h0 := h.keptB hbW
  have c0 : ∀ p : Regrown, (grow (redrawn W p.d) p.os).cell? ⟨rb, 0, none⟩ = some (.int .i64 most) := fun p => cell_regrown h0.c0 p.d p.os
  have c1 : ∀ p : Regrown, (grow (redrawn W p.d) p.os).cell? ⟨rb, 1, none⟩ = some (.slice a xs.length c) := fun p => cell_regrown h0.c1 p.d p.os
  have hbc := Below.refl W.heap.size W
  have hd : ((xs.length : Int) == most) = false := by simp; omega
  have hh := Lib.hid h0
  have HBW := Lib.hid hbW
  clear h h0 hbW
  go_enter Try.func17, Try.ntmps17
  go_wp2_with fail
  rw [← hW.out]
  go_wp2_with fail
  (with_reducible refine wp_on hbc (by kernel_rfl) (by kernel_rfl) ?_); (repeat (go_big_quiet_step (fail))); with_reducible refine wpQuiet_nil ?_; intro wc hbc
  have hx0 := cell_of (cell_on x0 hbc)
  have hx1 := cell_of (cell_on x1 hbc)
  have h1 := hh.out.keptB hbc
  have d1 := h1.c1
  have f1 := h1.free 1
  have hlt := h1.lt
  have hle := h1.le
  have HH := Lib.hid h1
  have HBC := Lib.hid (HBW.out.trans (hbc.mono HBW.out.size))
  clear c0 c1 h1 hh x0 x1 hbc
  go_wp2_with fail
  go_region_law (refine step_append_off rfl (.tmp 19) (.tmp 21) 55 rfl base 45 i0 _ 2 16 Try.underlying55 hi hz0 hz1 hz2 rfl (by decide) (.slice a xs.length c) xs.length (pcells xs) (by simp [Act.eval]) (HH.out.row.keptB ((Below.refl _ _).alloc (Nat.le_refl _) _).drew) ⟨wc.heap.size, 0, none⟩ 1 1 [.int .i64 x, .int .i64 y] (by simp [Act.eval]) rfl (news_block (w := wc.alloc (.cells #[.int .i64 x, .int .i64 y] 45)) (cs := #[.int .i64 x, .int .i64 y]) (heap_alloc_new wc _)) (by simp [Value.oneCell']) (by unfold maxLen; omega) (by omega) (by simp; omega) ?_; intro v' w2 hown' hgrow hfr; obtain ⟨e1, e2, h3, h4⟩ := HH.out.appended (v' := v') (by decide) (grown_undrew hgrow) hown' (fun g hg => fresh_undrew (hfr g hg)); obtain ⟨a', c', rfl, _⟩ := hown'.slice; have H3 := Lib.hid h3; have H4 := Lib.hid h4; clear h3 h4 hown' hgrow hfr)
  all_goals
    have h5 : PRow (w2.setCell ⟨rb, 1, none⟩ (.slice a' (xs.length + 1) c')) base rb most (.slice a' (xs.length + 1) c') (xs ++ [(x, y)]) := by unfold PRow; rw [pcells_snoc]; simpa using H3.out
    have H5 := Lib.hid h5
    clear h5
    go_wp2
    go_ret
    exact ⟨_, rfl, H5.out, H4.out.ahead HBC.out⟩

theorem pput_full (base rb : Nat) (most : Int) (v : Value) (xs : List (Int × Int)) (x y : Int) (w : World) (h : PRow w base rb most v xs) (hl : most = (xs.length : Int)) :
    Calls Try.prog 17 #[.pointer (some ⟨rb, 0, none⟩), .agg #[.int .i64 x, .int .i64 y]] w fun e w' => e = .returned (.int .i64 2) ∧ Below w.heap.size w w' := by
  obtain ⟨a, c, rfl, hc⟩ := h.row.slice
  subst hl
  obtain ⟨W, hW, hbW, hlW, x0, x1⟩ := one_box w (.int .i64 x) (.int .i64 y) 45
  have h0 := h.keptB hbW
  have c0 : ∀ p : Regrown, (grow (redrawn W p.d) p.os).cell? ⟨rb, 0, none⟩ = some (.int .i64 xs.length) := fun p => cell_regrown h0.c0 p.d p.os
  have c1 : ∀ p : Regrown, (grow (redrawn W p.d) p.os).cell? ⟨rb, 1, none⟩ = some (.slice a xs.length c) := fun p => cell_regrown h0.c1 p.d p.os
  have hbc := Below.refl W.heap.size W
  have hd : ((xs.length : Int) == (xs.length : Int)) = true := by simp
  have HBW := Lib.hid hbW
  clear h h0 hbW x0 x1
  go_enter Try.func17, Try.ntmps17
  go_wp2_with fail
  rw [← hW.out]
  go_wp2_with fail
  (with_reducible refine wp_on hbc (by kernel_rfl) (by kernel_rfl) ?_); (repeat (go_big_quiet_step (fail))); with_reducible refine wpQuiet_nil ?_; intro wc hbc
  go_wp2
  go_ret
  exact ⟨rfl, HBW.out.trans (hbc.mono HBW.out.size)⟩

/-- A store into one of the elements' cells. -/
theorem OwnsOff.set {w : World} {base : Nat} {e : TypeId} {size n g off cap : Nat} {xs : List Value} (h : OwnsOff w base e size (.slice (some ⟨g, off, none⟩) n cap) n xs) (j : Nat) (hj : j < n * size) (z : Value) :
    OwnsOff (w.setCell ⟨g, off + j, none⟩ z) base e size (.slice (some ⟨g, off, none⟩) n cap) n (xs.set j z) := by
  obtain ⟨h1, ⟨h2, _⟩ | ⟨g', off', cap', cur, hv, hb, hg, hnc, hcm, hcs, htk⟩⟩ := h
  · cases h2
  · cases hv
    refine ⟨by simpa using h1, .inr ⟨g, off, cap, cur.setIfInBounds (off + j) z, rfl, hb, ?_, hnc, hcm, by simpa using hcs, ?_⟩⟩
    · simp [World.setCell, Array.getElem?_modify, hg]
    · rw [Array.toList_setIfInBounds, List.drop_set, if_neg (by omega), Nat.add_sub_cancel_left, List.take_set, htk]

set_option maxHeartbeats 1600000 in
theorem ptake_in (base rb : Nat) (most : Int) (v : Value) (x y : Int) (xs : List (Int × Int)) (w : World) (h : PRow w base rb most v ((x, y) :: xs)) (hl : xs.length ≤ 1000000) :
    Calls Try.prog 18 #[.pointer (some ⟨rb, 0, none⟩)] w (GoesPRow w base rb most v (.tuple #[.agg #[.int .i64 x, .int .i64 y], .int .i64 0]) xs) := by
  obtain ⟨i0, hi, hz0, hz1, hz2⟩ := info_parts Try.infoP
  obtain ⟨g, off, cap, rfl, hbg, hgl, hnc, hcm, hfz, hcell⟩ := OwnsOff.lies h.row (by simp)
  have c1 := h.c1
  have c2 := hcell 0 _ rfl
  have c3 := hcell 1 _ rfl
  rw [Nat.add_zero] at c2
  have z2 := hfz off
  have z3 := hfz (off + 1)
  clear hfz hcell
  have hrl := h.lt
  simp only [List.length_cons] at c1 hnc
  go_enter Try.func18, Try.ntmps18
  go_wp2_with fail
  obtain ⟨W3, hW3, h3, hb3, hz3, B0, B1, B2⟩ : ∃ W3, Hid (W3 = ((w.alloc (.cells #[.int .i64 0, .int .i64 0] 45)).alloc (.cells #[.int .i64 0, .int .i64 0] 45)).alloc (.cells #[.int .i64 x, .int .i64 y] 45)) ∧ PRow W3 base rb most (.slice (some ⟨g, off, none⟩) ((x, y) :: xs).length cap) ((x, y) :: xs) ∧
      Below w.heap.size w W3 ∧ W3.heap.size = w.heap.size + 3 ∧ W3.heap[w.heap.size]? = some (.cells #[.int .i64 0, .int .i64 0] 45 (0, 0)) ∧ W3.heap[w.heap.size + 1]? = some (.cells #[.int .i64 0, .int .i64 0] 45 (0, 0)) ∧ W3.heap[w.heap.size + 2]? = some (.cells #[.int .i64 x, .int .i64 y] 45 (0, 0)) := by
    have hb : Below w.heap.size w (((w.alloc (.cells #[.int .i64 0, .int .i64 0] 45)).alloc (.cells #[.int .i64 0, .int .i64 0] 45)).alloc (.cells #[.int .i64 x, .int .i64 y] 45)) := (((Below.refl _ _).alloc (Nat.le_refl _) _).alloc (by simp) _).alloc (by simp; omega) _
    refine ⟨_, Lib.hid rfl, h.keptB hb, hb, by simp, ?_, ?_, ?_⟩
    · rw [Below.heap_alloc _ _ _ (by simp; omega), Below.heap_alloc _ _ _ (by simp)]; exact heap_alloc_new w _
    · rw [Below.heap_alloc _ _ _ (by simp)]; have := heap_alloc_new (w.alloc (.cells #[.int .i64 0, .int .i64 0] 45)) (.cells #[.int .i64 0, .int .i64 0] 45); simpa using this
    · have := heap_alloc_new ((w.alloc (.cells #[.int .i64 0, .int .i64 0] 45)).alloc (.cells #[.int .i64 0, .int .i64 0] 45)) (.cells #[.int .i64 x, .int .i64 y] 45); simpa using this
  rw [← hW3.out]
  have e1 := h3.c1
  have z0 : W3.cell? ⟨w.heap.size + 1, 0, none⟩ = some (.int .i64 0) := by simp [World.cell?, B1]
  have z1 : W3.cell? ⟨w.heap.size + 1, 1, none⟩ = some (.int .i64 0) := by simp [World.cell?, B1]
  have g0 : W3.cell? ⟨g, off, none⟩ = some (.int .i64 x) := (hb3.cell hgl).trans c2
  have g1 : W3.cell? ⟨g, off + 1, none⟩ = some (.int .i64 y) := (hb3.cell hgl).trans c3
  have f0 : W3.frozen? ⟨g, off, none⟩ = false := (hb3.frozen hgl).trans z2
  have f1 : W3.frozen? ⟨g, off + 1, none⟩ = false := (hb3.frozen hgl).trans z3
  simp only [List.length_cons] at e1
  have HH := Lib.hid h3; have HB := Lib.hid hb3; have HZ := Lib.hid hz3; have H0 := Lib.hid B0; have H2 := Lib.hid B2
  clear h c1 c2 c3 z2 z3 h3 hb3 hz3 B0 B1 B2
  go_region
  obtain ⟨W4, hW4, h4, hO4, B0, B2⟩ : ∃ W4, Hid (W4 = ((W3.setCell ⟨g, off, none⟩ (.int .i64 0)).setCell ⟨g, off + 1, none⟩ (.int .i64 0)).drew) ∧ PRow W4 base rb most (.slice (some ⟨g, off, none⟩) ((0, 0) :: xs).length cap) ((0, 0) :: xs) ∧
      Only (fun k => k = rb ∨ (Value.slice (some ⟨g, off, none⟩) ((x, y) :: xs).length cap).ownBlock = some k) w W4 ∧ W4.heap[w.heap.size]? = some (.cells #[.int .i64 0, .int .i64 0] 45 (0, 0)) ∧ W4.heap[w.heap.size + 2]? = some (.cells #[.int .i64 x, .int .i64 y] 45 (0, 0)) := by
    have hrow := HH.out.row
    have k1 := (hrow.set 0 (by simp) (.int .i64 0)).set 1 (by simp; omega) (.int .i64 0)
    have ho : Only (fun k => k = rb ∨ (Value.slice (some ⟨g, off, none⟩) ((x, y) :: xs).length cap).ownBlock = some k) w ((W3.setCell ⟨g, off, none⟩ (.int .i64 0)).setCell ⟨g, off + 1, none⟩ (.int .i64 0)) :=
      ((Only.of_below HB.out).trans ((Only.setCell W3 ⟨g, off, none⟩ _).mono (fun k _ hk => .inr (by rw [hk]; rfl)))).trans ((Only.setCell _ ⟨g, off + 1, none⟩ _).mono (fun k _ hk => .inr (by rw [hk]; rfl)))
    have hne : rb ≠ g := fun e => HH.out.apart (by decide) g rfl e.symm
    refine ⟨_, Lib.hid rfl, ⟨HH.out.le, ?_, ?_⟩, ⟨ho.os, ho.tape, ho.output, ho.size, ho.block⟩, ?_, ?_⟩
    · exact (Below.heap_setCell _ _ _ _ (by simpa using hne)).trans ((Below.heap_setCell _ _ _ _ (by simpa using hne)).trans HH.out.head)
    · have : OwnsOff ((W3.setCell ⟨g, off, none⟩ (.int .i64 0)).setCell ⟨g, off + 1, none⟩ (.int .i64 0)) base 45 2 (.slice (some ⟨g, off, none⟩) ((x, y) :: xs).length cap) ((x, y) :: xs).length (((pcells ((x, y) :: xs)).set 0 (.int .i64 0)).set 1 (.int .i64 0)) := by simpa using k1
      rw [pcells_cons] at this
      rw [pcells_cons]
      exact this
    · exact (Below.heap_setCell _ _ _ _ (by simp; omega)).trans ((Below.heap_setCell _ _ _ _ (by simp; omega)).trans H0.out)
    · exact (Below.heap_setCell _ _ _ _ (by simp; omega)).trans ((Below.heap_setCell _ _ _ _ (by simp; omega)).trans H2.out)
  rw [← hW4.out]
  have e1 := h4.c1
  have f1 := h4.free 1
  have hrow := h4.row
  simp only [List.length_cons] at e1 hrow
  have HH4 := Lib.hid h4; have HO4 := Lib.hid hO4; have H04 := Lib.hid B0; have H24 := Lib.hid B2
  clear h4 hO4 B0 B2 f0 g0 g1 z0 z1
  go_wp2_with (refine wpList_tail_off _ rfl _ _ rfl base 45 i0 2 Try.underlying55 hi hz1 _ _ _ rfl hrow ?_)
  intro v' hown' hb'
  obtain ⟨a', c', rfl, _⟩ := hown'.slice
  have h5 := RowAt.store (v' := .slice a' xs.length c') HH4.out (m := xs.length) (ys := pcells xs) (by rw [pcells_cons] at hown'; simpa using hown') (by decide)
  have hO5 : Only (fun k => k = rb ∨ (Value.slice (some ⟨g, off, none⟩) ((x, y) :: xs).length cap).ownBlock = some k) w (W4.setCell ⟨rb, 1, none⟩ (.slice a' xs.length c')) := HO4.out.trans ((Only.setCell _ _ _).mono (fun k _ hk => .inl hk))
  have hfr : ∀ g', (Value.slice a' xs.length c').ownBlock = some g' → (Value.slice (some ⟨g, off, none⟩) ((x, y) :: xs).length cap).ownBlock = some g' ∨ w.heap.size ≤ g' := fun g' hg' => .inl (by rw [hb'] at hg'; exact hg')
  have hgg : ∀ k, (Value.slice a' xs.length c').ownBlock = some k → k = g := fun k hk => by rw [hb'] at hk; cases hk; rfl
  have HG := Lib.hid hgg
  clear hgg
  obtain ⟨W5, hW5⟩ : ∃ W5, Hid (W5 = W4.setCell ⟨rb, 1, none⟩ (.slice a' xs.length c')) := ⟨_, Lib.hid rfl⟩
  rw [← hW5.out] at h5 hO5
  have B0 : W5.heap[w.heap.size]? = some (.cells #[.int .i64 0, .int .i64 0] 45 (0, 0)) := by rw [hW5.out]; exact (Below.heap_setCell _ _ _ _ (by simp; omega)).trans H04.out
  have B2 : W5.heap[w.heap.size + 2]? = some (.cells #[.int .i64 x, .int .i64 y] 45 (0, 0)) := by rw [hW5.out]; exact (Below.heap_setCell _ _ _ _ (by simp; omega)).trans H24.out
  have k0 : W5.cell? ⟨w.heap.size, 0, none⟩ = some (.int .i64 0) := by simp [World.cell?, B0]
  have k1 : W5.cell? ⟨w.heap.size, 1, none⟩ = some (.int .i64 0) := by simp [World.cell?, B0]
  have k2 : W5.frozen? ⟨w.heap.size, 0, none⟩ = false := by simp [World.frozen?, B0]
  have k3 : W5.frozen? ⟨w.heap.size, 1, none⟩ = false := by simp [World.frozen?, B0]
  have k4 : W5.cell? ⟨w.heap.size + 1 + 1, 0, none⟩ = some (.int .i64 x) := by simp [World.cell?, B2]
  have k5 : W5.cell? ⟨w.heap.size + 1 + 1, 1, none⟩ = some (.int .i64 y) := by simp [World.cell?, B2]
  have HF := Lib.hid hfr; have H5 := Lib.hid h5; have HO5 := Lib.hid hO5; have HB0 := Lib.hid B0
  clear h5 hO5 hfr hown' hb' hrow B0 B2
  go_wp2_with (rw [← hW5.out])
  have hS6 : Only (fun k => k = w.heap.size) W5 ((W5.setCell ⟨w.heap.size, 0, none⟩ (.int .i64 x)).setCell ⟨w.heap.size, 1, none⟩ (.int .i64 y)) := (Only.setCell W5 ⟨w.heap.size, 0, none⟩ _).trans (Only.setCell _ ⟨w.heap.size, 1, none⟩ _)
  refine bodyPost_ret (v := .tuple #[.agg #[.int .i64 x, .int .i64 y], .int .i64 0]) (by simp [results, Try.results18, go_sem, k0, k1]) rfl ⟨_, rfl, H5.out.kept hS6 (by omega) (fun k hk e => by have := HG.out k hk; omega), ⟨?_, fun g' hg' => HF.out g' hg'⟩⟩
  have h6 := hS6
  exact ⟨h6.os.trans HO5.out.os, h6.tape.trans HO5.out.tape, h6.output.trans HO5.out.output, Nat.le_trans HO5.out.size h6.size, fun k hk hs => (h6.block k (Nat.lt_of_lt_of_le hk HO5.out.size) (by omega)).trans (HO5.out.block k hk hs)⟩

set_option maxHeartbeats 800000 in
theorem ptake_empty (base rb : Nat) (most : Int) (v : Value) (w : World) (h : PRow w base rb most v []) :
    Calls Try.prog 18 #[.pointer (some ⟨rb, 0, none⟩)] w fun e w' => e = .returned (.tuple #[.agg #[.int .i64 0, .int .i64 0], .int .i64 2]) ∧ Below w.heap.size w w' := by
  obtain ⟨a, c, rfl, hc⟩ := h.row.slice
  have c1 := h.c1
  have hrl := h.lt
  clear h
  go_enter Try.func18, Try.ntmps18
  go_wp2
  refine bodyPost_ret (v := .tuple #[.agg #[.int .i64 0, .int .i64 0], .int .i64 2]) (by simp [results, Try.results18, go_sem]) rfl ⟨rfl, ?_⟩
  exact ((Below.refl _ _).alloc (Nat.le_refl _) _).alloc (by simp) _
end Go.Proofs.Ytdoepdoeafpgkaa
