/- FifoPlays. No condition but those in the statements. -/
import Derived.Test.YtdoepdoeafpgkaaLStops
namespace Go.Proofs.Ytdoepdoeafpgkaa
open Go.RowKit Go.Sort

/-- Two slices lie in two blocks. -/
def Apart2 (v u : Value) : Prop := ∀ g, v.ownBlock = some g → u.ownBlock ≠ some g
theorem Apart2.symm {v u : Value} (h : Apart2 v u) : Apart2 u v := fun g h1 h2 => h g h2 h1
/-- What a call that turned one row leaves of another one. -/
theorem RowAt.other {TR TR' TE : TypeId} {size : Nat} {w w' : World} {base base' rb rb' : Nat} {most most' : Int} {v v' u : Value} {n m : Nat} {xs ys : List Value} (h : RowAt TR TE size w base rb most v n xs) (h' : RowAt TR' TE size w base' rb' most' u m ys)
    (hd : Apart2 v u) (hm : Moved rb v v' w w') (e1 : TR ≠ TR') (e2 : TR ≠ TE) (e3 : TR' ≠ TE) : RowAt TR' TE size w' base' rb' most' u m ys ∧ Apart2 v' u := by
  refine ⟨h'.kept hm.1 ?_ ?_, fun g hg hu => ?_⟩
  · rintro (rfl | hk)
    · have := h.head.symm.trans h'.head
      injection this with this; injection this with _ this
      exact e1 this
    · obtain ⟨cs, hc⟩ := h.row.typed rb' hk
      rw [h'.head] at hc
      injection hc with hc; injection hc with _ hc
      exact e3 hc
  · rintro k hk (rfl | hk')
    · obtain ⟨cs, hc⟩ := h'.row.typed k hk
      rw [h.head] at hc
      injection hc with hc; injection hc with _ hc
      exact e2 hc
    · exact hd k hk' hk
  · rcases hm.2 g hg with e | e
    · exact hd g e hu
    · have := (h'.row.lt g hu).2; omega

/-- The two rows beside each other: the program's, the document's. -/
def Twins (w : World) (base rb xb : Nat) (most : Int) (v u : Value) (xs : List Int) : Prop := IRow w base rb most v xs ∧ DRow w base xb most u xs ∧ Apart2 v u
theorem dgrow_below {base rb : Nat} {most : Int} {v v' : Value} {xs : List Int} {w0 w w' : World} {B : Nat} (hb : Below B w0 w) (hR : DRow w base rb most v xs) (hM : Moved rb v v' w w') (hB : B ≤ base) : Below B w0 w' :=
  hb.trans ((hM.below hR).mono hB)

theorem len_q (base rb : Nat) (most : Int) (v : Value) (xs : List Int) (w : World) (h : IRow w base rb most v xs) :
    Calls Try.prog 13 #[.pointer (some ⟨rb, 0, none⟩)] w fun e w' => e = .returned (.int .i64 xs.length) ∧ Below w.heap.size w w' :=
  (len_b base rb most v xs w h).mono fun _ _ ⟨h1, h2⟩ => ⟨h1, h2 ▸ Below.refl _ _⟩

theorem held_next {wr w1 w2 : World} {a : Addr} {v : Value} (h : Below wr.heap.size wr w1 ∧ w1.cell? a = some v) (hb : Below w1.heap.size w1 w2) : Below wr.heap.size wr w2 ∧ w2.cell? a = some v :=
  ⟨h.1.trans (hb.mono h.1.size), cell_later hb h.2⟩

set_option maxRecDepth 100000 in
set_option maxHeartbeats 6400000 in
theorem plays_in (n : Int) (l : List Int) (A : Option Addr) (c : Nat) (w : World) (h1 : 1 ≤ n) (h2 : n ≤ 4096) (hl : l.length ≤ 300) (hrow : IntRowK .i64 w w.heap.size A l) :
    Calls Try.prog 3 #[.int .i64 n, .slice A l.length c] w fun e w' => e = .returned (.bool true) ∧ Below w.heap.size w w' := by
  have h3 : ¬ n < 1 := by omega
  have h4 : ¬ 4096 < n := by omega
  go_enter Try.func3, Try.ntmps3
  go_wp2_with fail
  refine (wakes_b _).mono ?_
  rintro e w0 ⟨rfl, hb0⟩
  go_wp2_with fail
  refine (new_in n _ h1 h2).mono ?_
  rintro e w1 ⟨rb, rfl, hR, hB⟩
  have hb1 := hb0.trans (hB.mono hb0.size)
  have hbase : w.heap.size ≤ w0.heap.size := hb0.size
  have hle : w0.heap.size ≤ w1.heap.size := hB.size
  have hbx : Below w1.heap.size w1 (w1.alloc (.cells #[.int .i64 n, .slice none 0 0] 30)) := (Below.refl _ _).alloc (Nat.le_refl _) _
  have hX : DRow (w1.alloc (.cells #[.int .i64 n, .slice none 0 0] 30)) w0.heap.size w1.heap.size n (.slice none 0 0) [] := ⟨hle, heap_alloc_new w1 _, OwnsOff.nil _ _ _ _⟩
  have hT0 : Twins (w1.alloc (.cells #[.int .i64 n, .slice none 0 0] 30)) w0.heap.size rb w1.heap.size n (.slice none 0 0) (.slice none 0 0) [] := ⟨hR.keptB hbx, hX, fun g hg => by cases hg⟩
  have hb2 := hb1.trans (hbx.mono hb1.size)
  clear hB hb0 hbx hX hR hb1
  go_wp2_with fail
  obtain ⟨xb, hxb⟩ : ∃ xb, xb = w1.heap.size := ⟨_, rfl⟩
  obtain ⟨w2, hw2⟩ : ∃ w2, Hid (w2 = w1.alloc (.cells #[.int .i64 n, .slice none 0 0] 30)) := ⟨_, rfl⟩
  rw [← hw2.out, ← hxb] at hT0
  rw [← hw2.out] at hb2
  rw [← hw2.out, ← hxb]
  clear hw2 hxb hle
  go_loopw [56] (fun i wr => ∃ k : Nat, k ≤ l.length ∧ i = .int .i64 k ∧ (∃ v u xs, Twins wr w0.heap.size rb xb n v u xs ∧ (xs.length : Int) ≤ n) ∧ Below w.heap.size w wr) (fun i _ => l.length - (intOf i).toNat)
  case atStart => exact ⟨0, Nat.zero_le _, rfl, ⟨_, _, _, hT0, by simp; omega⟩, hb2⟩
  case round =>
    clear hT0 hb2
    obtain ⟨k, hk, rfl, ⟨v, u, xs, ⟨hR, hX, hD⟩, hxl⟩, hb⟩ := hrel
    by_cases hlt : k < l.length
    · obtain ⟨b, o, rfl, hbo, hcs⟩ := hrow.at_ hlt
      have c0 := hcs wr hb
      obtain ⟨x, hx⟩ : ∃ x, l.getD k 0 = x := ⟨_, rfl⟩
      rw [hx] at c0
      clear hx hcs
      by_cases h0 : 0 ≤ x
      · by_cases hfull : (xs.length : Int) = n
        · go_wp2_with fail
          refine (put_full _ rb _ v xs x _ hR hfull.symm).mono ?_
          rintro e w3 ⟨rfl, hb3⟩
          have hR3 := hR.keptB hb3
          have hX3 := hX.keptB hb3
          have hbb3 := hb.trans (hb3.mono hb.size)
          clear hR hX hb3 hb c0
          go_wp2_with fail
          refine (rput_full _ xb _ u xs x _ hX3 hfull.symm).mono ?_
          rintro e w4 ⟨rfl, hb4⟩
          have hR4 := hR3.keptB hb4
          have hX4 := hX3.keptB hb4
          have hbb4 := hbb3.trans (hb4.mono hbb3.size)
          have HFU := Lib.hid hfull
          clear hR3 hX3 hb4 hbb3 hfull
          obtain ⟨ua, uc, rfl, _⟩ := (hX4).row.slice
          have cx : ∀ p : Regrown, (grow (redrawn w4 p.d) p.os).cell? ⟨xb, 1, none⟩ = some (.slice ua (xs).length uc) := fun p => cell_regrown (hX4).c1 p.d p.os
          have hbc := Below.refl (w4).heap.size w4
          have qq : (((xs).length : Int) != ((xs).length : Int)) = false := by simp
          go_wp2_with fail
          (with_reducible refine wp_on hbc (by kernel_rfl) (by kernel_rfl) ?_); (repeat (go_big_quiet_step (first | exact Calls.regrown_of (len_q _ rb _ v (xs) _ ((hR4).keptB (below_regrown _ _ _)))))); with_reducible refine wpQuiet_nil ?_; intro wc hbc
          go_wp2
          go_roundw
          case rel => exact ⟨k + 1, by omega, by go_num, ⟨_, _, _, ⟨(hR4).keptB hbc, (hX4).keptB hbc, hD⟩, hxl⟩, (hbb4).trans (hbc.mono (hbb4).size)⟩
          case measure => simp [intOf]; omega
        · have hlt2 : (xs.length : Int) < n := by omega
          go_wp2_with fail
          refine (put_in _ rb _ v xs x _ hR hlt2 (by omega)).mono ?_
          rintro e w3 ⟨v3, rfl, hR3, hM3⟩
          obtain ⟨hX3, hD3⟩ := RowAt.other hR hX hD hM3 (by decide) (by decide) (by decide)
          have hbb3 := grow_below hb hR hM3 hbase
          clear hR hX hM3 hb c0 hD
          go_wp2_with fail
          refine (rput_in _ xb _ u xs x _ hX3 hlt2 (by omega)).mono ?_
          rintro e w4 ⟨u4, rfl, hX4, hM4⟩
          obtain ⟨hR4, hD4⟩ := RowAt.other hX3 hR3 hD3.symm hM4 (by decide) (by decide) (by decide)
          have hbb4 := dgrow_below hbb3 hX3 hM4 hbase
          obtain ⟨ys, hys⟩ : ∃ ys, ys = xs ++ [x] := ⟨_, rfl⟩
          have hyl : (ys.length : Int) ≤ n := by rw [hys]; simp; omega
          have hR5 : IRow w4 w0.heap.size rb n v3 ys := by rw [hys]; unfold IRow; simpa using hR4
          rw [← hys] at hX4
          have hD5 := hD4.symm
          clear hR3 hX3 hM4 hbb3 hfull hlt2 hys hR4 hD4 hD3 hxl
          obtain ⟨ua, uc, rfl, _⟩ := (hX4).row.slice
          have cx : ∀ p : Regrown, (grow (redrawn w4 p.d) p.os).cell? ⟨xb, 1, none⟩ = some (.slice ua (ys).length uc) := fun p => cell_regrown (hX4).c1 p.d p.os
          have hbc := Below.refl (w4).heap.size w4
          have qq : (((ys).length : Int) != ((ys).length : Int)) = false := by simp
          go_wp2_with fail
          (with_reducible refine wp_on hbc (by kernel_rfl) (by kernel_rfl) ?_); (repeat (go_big_quiet_step (first | exact Calls.regrown_of (len_q _ rb _ v3 (ys) _ ((hR5).keptB (below_regrown _ _ _)))))); with_reducible refine wpQuiet_nil ?_; intro wc hbc
          go_wp2
          go_roundw
          case rel => exact ⟨k + 1, by omega, by go_num, ⟨_, _, _, ⟨(hR5).keptB hbc, (hX4).keptB hbc, hD5⟩, hyl⟩, (hbb4).trans (hbc.mono (hbb4).size)⟩
          case measure => simp [intOf]; omega
      · have h0' : x < 0 := by omega
        clear h0
        cases xs with
        | nil =>
          go_wp2_with fail
          refine (take_empty _ rb _ v _ hR).mono ?_
          rintro e w3 ⟨rfl, rfl⟩
          go_wp2_with fail
          refine (rtake_empty _ xb _ u _ hX).mono ?_
          rintro e w4 ⟨rfl, rfl⟩
          clear c0
          obtain ⟨ua, uc, rfl, _⟩ := (hX).row.slice
          have cx : ∀ p : Regrown, (grow (redrawn wr p.d) p.os).cell? ⟨xb, 1, none⟩ = some (.slice ua (([] : List Int)).length uc) := fun p => cell_regrown (hX).c1 p.d p.os
          have hbc := Below.refl (wr).heap.size wr
          have qq : (((([] : List Int)).length : Int) != ((([] : List Int)).length : Int)) = false := by simp
          go_wp2_with fail
          (with_reducible refine wp_on hbc (by kernel_rfl) (by kernel_rfl) ?_); (repeat (go_big_quiet_step (first | exact Calls.regrown_of (len_q _ rb _ v (([] : List Int)) _ ((hR).keptB (below_regrown _ _ _)))))); with_reducible refine wpQuiet_nil ?_; intro wc hbc
          go_wp2
          go_roundw
          case rel => exact ⟨k + 1, by omega, by go_num, ⟨_, _, _, ⟨(hR).keptB hbc, (hX).keptB hbc, hD⟩, hxl⟩, (hb).trans (hbc.mono (hb).size)⟩
          case measure => simp [intOf]; omega
        | cons y ys =>
          have hyl : (ys.length : Int) ≤ n := by simp at hxl; omega
          go_wp2_with fail
          refine (take_in _ rb _ v y ys _ hR (by omega)).mono ?_
          rintro e w3 ⟨v3, rfl, hR3, hM3⟩
          obtain ⟨hX3, hD3⟩ := RowAt.other hR hX hD hM3 (by decide) (by decide) (by decide)
          have hbb3 := grow_below hb hR hM3 hbase
          clear hR hX hM3 hb c0 hD hxl
          go_wp2_with fail
          refine (rtake_in _ xb _ u y ys _ hX3 (by omega)).mono ?_
          rintro e w4 ⟨u4, rfl, hX4, hM4⟩
          obtain ⟨hR4, hD4⟩ := RowAt.other hX3 hR3 hD3.symm hM4 (by decide) (by decide) (by decide)
          have hbb4 := dgrow_below hbb3 hX3 hM4 hbase
          have hR5 : IRow w4 w0.heap.size rb n v3 ys := hR4
          have hD5 := hD4.symm
          have qy : (y != y) = false := by simp
          clear hR3 hX3 hM4 hbb3 hR4 hD4 hD3
          obtain ⟨ua, uc, rfl, _⟩ := (hX4).row.slice
          have cx : ∀ p : Regrown, (grow (redrawn w4 p.d) p.os).cell? ⟨xb, 1, none⟩ = some (.slice ua (ys).length uc) := fun p => cell_regrown (hX4).c1 p.d p.os
          have hbc := Below.refl (w4).heap.size w4
          have qq : (((ys).length : Int) != ((ys).length : Int)) = false := by simp
          go_wp2_with fail
          (with_reducible refine wp_on hbc (by kernel_rfl) (by kernel_rfl) ?_); (repeat (go_big_quiet_step (first | exact Calls.regrown_of (len_q _ rb _ v3 (ys) _ ((hR5).keptB (below_regrown _ _ _)))))); with_reducible refine wpQuiet_nil ?_; intro wc hbc
          go_wp2
          go_roundw
          case rel => exact ⟨k + 1, by omega, by go_num, ⟨_, _, _, ⟨(hR5).keptB hbc, (hX4).keptB hbc, hD5⟩, hyl⟩, (hbb4).trans (hbc.mono (hbb4).size)⟩
          case measure => simp [intOf]; omega
    · obtain ⟨ua, uc, rfl, _, _, hir⟩ := OwnsOff.intRow hX.row
      have cx : wr.cell? ⟨xb, 1, none⟩ = some (.slice ua xs.length uc) := hX.c1
      have HB := Lib.hid hb
      clear hrow hb
      go_wp2_with fail
      go_region_held3 (fun W' => Below wr.heap.size wr W' ∧ W'.cell? ⟨xb, 1, none⟩ = some (.slice ua xs.length uc)) ((first | exact ⟨(Below.refl _ _).drew, cx⟩ | assumption | exact held_next (by assumption) (by assumption)))
        (first | (go_at_call 15; refine (toldAll_b _ rb _ v xs 5000 _ (by omega) (by omega) (hR.keptB (And.left (by assumption)))).mono ?_; intro e w2 hg; obtain ⟨A2, c2, rfl, _, _, hrow2, hbel⟩ := hg.row) | (go_at_call 14; refine (same_yes _ xs A2 ua c2 uc _ rfl hrow2 ((hir.below (And.left (by assumption))).more (Below.size (And.left (by assumption)))) (by omega)).mono ?_; rintro e w3 ⟨rfl, hbel⟩))
      have hS : Below wr.heap.size wr w3 := And.left (by assumption)
      have HF := Lib.hid (HB.out.trans (hS.mono HB.out.size))
      go_wp2
      go_ret
      exact ⟨by simp, HF.out⟩

set_option maxRecDepth 100000 in
set_option maxHeartbeats 1600000 in
theorem plays_all (n : Int) (l : List Int) (A : Option Addr) (c : Nat) (w : World) (hc : l.length ≤ c) (hm : c ≤ maxLen) (hrow : IntRowK .i64 w w.heap.size A l) :
    Calls Try.prog 3 #[.int .i64 n, .slice A l.length c] w fun e w' => e = .returned (.bool true) ∧ Below w.heap.size w w' := by
  have hl : l.length ≤ 9223372036854775807 := by unfold maxLen at hm; omega
  clear hc hm
  by_cases h1 : n < 1
  · have h2 : ¬ 4096 < n := by omega
    go_enter Try.func3, Try.ntmps3
    go_wp2_with fail
    refine (wakes_b _).mono ?_
    rintro e w0 ⟨rfl, hb0⟩
    go_wp2_with fail
    refine (new_out n _ (.inl h1)).mono ?_
    rintro e w1 ⟨rfl, rfl⟩
    go_wp2
    go_ret
    exact ⟨by simp, hb0⟩
  by_cases h2 : 4096 < n
  · go_enter Try.func3, Try.ntmps3
    go_wp2_with fail
    refine (wakes_b _).mono ?_
    rintro e w0 ⟨rfl, hb0⟩
    go_wp2_with fail
    refine (new_out n _ (.inr h2)).mono ?_
    rintro e w1 ⟨rfl, rfl⟩
    go_wp2
    go_ret
    exact ⟨by simp, hb0⟩
  by_cases hbig : 300 < l.length
  · have hbig2 : (300 : Int) < (l.length : Int) := by omega
    go_enter Try.func3, Try.ntmps3
    go_wp2_with fail
    refine (wakes_b _).mono ?_
    rintro e w0 ⟨rfl, hb0⟩
    go_wp2_with fail
    refine (new_in n _ (by omega) (by omega)).mono ?_
    rintro e w1 ⟨rb, rfl, hR, hB⟩
    have HB := Lib.hid (hb0.trans (hB.mono hb0.size))
    clear hR hB hb0
    go_wp2
    go_ret
    exact ⟨by simp, HB.out⟩
  · exact plays_in n l A c w (by omega) (by omega) (by omega) hrow
end Go.Proofs.Ytdoepdoeafpgkaa
