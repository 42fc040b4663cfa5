/- WitOnce: the counts' memory. No condition but those in the statements. -/
import Derived.Test.YtmonneeikkgllaaWLa
import Derived.Test.YtmonneeikkgllaaWTo
import Derived.BigQuiet
import Derived.IntWalk
import Derived.BigRegion
import Derived.OpenShut
import Derived.Deep.MidRow
import Derived.Lib.Hide
import Derived.Deep.Slices
import Derived.Lib.SmallJoins
import Derived.OwnWalk
import Derived.Deep.RegionHeld3
import Derived.Deep.OwnRows
import Derived.Laws.StructEq
namespace Go.Proofs.Ytmonneeikkgllaa
open WtP Go.RowKit Go.Sort Go.Deep Go.ChangeShapes Go.WideShapes Go.Joins
set_option linter.unusedVariables false
set_option linter.unusedSimpArgs false


structure Lock (T : Prop) : Prop where
  get : T
theorem cut2 {T G : Prop} (six : T) (body : Lock T → G) : G := body ⟨six⟩
/-- Blocks that have been made since w. -/
def Made (w V : World) (f : List (Nat × Obj)) : Prop := Below w.heap.size w V ∧ (∀ x ∈ f, w.heap.size ≤ x.1 ∧ V.heap[x.1]? = some x.2) ∧ f.Pairwise fun x y => x.1 ≠ y.1
theorem Made.start (w : World) : Made w w [] := ⟨Below.refl _ _, fun x h => (nomatch h), List.Pairwise.nil⟩
theorem Made.drew {w V : World} {f : List (Nat × Obj)} (h : Made w V f) : Made w V.drew f := ⟨h.1.drew, h.2.1, h.2.2⟩
theorem Made.alloc {w V : World} {f : List (Nat × Obj)} {q : Nat} {o : Obj} (h : Made w V f) (hq : q = V.heap.size) : Made w (V.alloc o) ((q, o) :: f) := by
  subst hq
  refine ⟨h.1.alloc h.1.size _, fun x hx => ?_, List.pairwise_cons.2 ⟨fun y hy e => ?_, h.2.2⟩⟩
  · rcases List.mem_cons.1 hx with rfl | hx
    · exact ⟨h.1.size, World.alloc_heap_new V o⟩
    · obtain ⟨h1, h2⟩ := h.2.1 x hx
      exact ⟨h1, (Below.heap_alloc _ _ _ (Array.getElem?_eq_some_iff.1 h2).1).trans h2⟩
  · have e' : V.heap.size = y.1 := e
    have := (Array.getElem?_eq_some_iff.1 (h.2.1 y hy).2).1
    omega
def icell (s : List Int) : Array Value := (s.map (Value.int .i64)).toArray
theorem made_zeros (n : Nat) : madeCells #[Value.int .i64 0] n = icell (List.replicate n 0) := by
  unfold icell
  apply Array.ext
  · simp [size_madeCells]
  · intro i h1 h2
    simp [madeCells, Nat.mod_one]
/-- The counts in memory: the four of them in block b6, the rows in m1, m2, m3. -/
structure Seen (w W : World) (b6 m1 m2 m3 : Nat) (s1 s2 s3 : List Int) : Prop where
  bx : W.heap[b6]? = some (.cells #[.slice none 0 0, .slice (some ⟨m1, 0, none⟩) s1.length s1.length, .slice (some ⟨m2, 0, none⟩) s2.length s2.length, .slice (some ⟨m3, 0, none⟩) s3.length s3.length] 42 (0, 0))
  r1 : W.heap[m1]? = some (.cells (icell s1) 3 (0, 0))
  r2 : W.heap[m2]? = some (.cells (icell s2) 3 (0, 0))
  r3 : W.heap[m3]? = some (.cells (icell s3) 3 (0, 0))
  ne : b6 ≠ m1 ∧ b6 ≠ m2 ∧ b6 ≠ m3 ∧ m1 ≠ m2 ∧ m1 ≠ m3 ∧ m2 ≠ m3
  ge : w.heap.size ≤ b6 ∧ w.heap.size ≤ m1 ∧ w.heap.size ≤ m2 ∧ w.heap.size ≤ m3
  bel : Below w.heap.size w W
theorem seen_start {w V : World} {b6 m1 m2 m3 n k : Nat} (hb : Below w.heap.size w V) (h6 : w.heap.size ≤ b6 ∧ V.heap[b6]? = some (.cells #[.slice none 0 0, .slice none 0 0, .slice none 0 0, .slice none 0 0] 42)) (h1 : w.heap.size ≤ m1 ∧ V.heap[m1]? = some (.cells (madeCells #[.int .i64 0] n) 3)) (h2 : w.heap.size ≤ m2 ∧ V.heap[m2]? = some (.cells (madeCells #[.int .i64 0] n) 3)) (h3 : w.heap.size ≤ m3 ∧ V.heap[m3]? = some (.cells (madeCells #[.int .i64 0] k) 3))
    (hne : b6 ≠ m1 ∧ b6 ≠ m2 ∧ b6 ≠ m3 ∧ m1 ≠ m2 ∧ m1 ≠ m3 ∧ m2 ≠ m3) :
    Seen w (V.setCells b6 0 (#[.slice none 0 0, .slice (some ⟨m1, 0, none⟩) n n, .slice (some ⟨m2, 0, none⟩) n n, .slice (some ⟨m3, 0, none⟩) k k] : Array Value).toList) b6 m1 m2 m3 (cntL [] 1 n) (cntL [] 2 n) (cntL [] 3 k) := by
  have oth : ∀ (q : Nat) (o : Obj), q ≠ b6 → V.heap[q]? = some o → (V.setCells b6 0 (#[.slice none 0 0, .slice (some ⟨m1, 0, none⟩) n n, .slice (some ⟨m2, 0, none⟩) n n, .slice (some ⟨m3, 0, none⟩) k k] : Array Value).toList).heap[q]? = some o := fun q o hq h => by
    simp only [List.toList_toArray, World.setCells]
    rw [Below.heap_setCell _ _ _ _ (by simpa using hq), Below.heap_setCell _ _ _ _ (by simpa using hq), Below.heap_setCell _ _ _ _ (by simpa using hq), Below.heap_setCell _ _ _ _ (by simpa using hq)]
    exact h
  refine ⟨?_, oth m1 _ (by omega) (by rw [cntL_zero, ← made_zeros]; exact h1.2), oth m2 _ (by omega) (by rw [cntL_zero, ← made_zeros]; exact h2.2), oth m3 _ (by omega) (by rw [cntL_zero, ← made_zeros]; exact h3.2), hne, ⟨h6.1, h1.1, h2.1, h3.1⟩, below_setCells _ _ _ hb h6.1⟩
  simp [World.setCells, World.setCell, Array.getElem?_modify, h6.2, cntL_len]
theorem Seen.later {w W W' : World} {b6 m1 m2 m3 : Nat} {s1 s2 s3 : List Int} (h : Seen w W b6 m1 m2 m3 s1 s2 s3) (hb : Below W.heap.size W W') : Seen w W' b6 m1 m2 m3 s1 s2 s3 := by
  have k : ∀ (q : Nat) (o : Obj), W.heap[q]? = some o → W'.heap[q]? = some o := fun q o h => (hb.block q (Array.getElem?_eq_some_iff.1 h).1).trans h
  exact ⟨k _ _ h.bx, k _ _ h.r1, k _ _ h.r2, k _ _ h.r3, h.ne, h.ge, h.bel.trans (hb.mono h.bel.size)⟩
theorem icell_set (s : List Int) (j : Nat) (z : Int) : (icell s).setIfInBounds j (.int .i64 z) = icell (s.set j z) := by
  unfold icell
  rw [List.map_set]
  simp
theorem icell_at {s : List Int} {j : Nat} {z : Int} (h : s[j]? = some z) : (icell s)[j]? = some (.int .i64 z) := by
  unfold icell
  simp [h]
theorem put_row {W : World} {m j : Nat} {s : List Int} (h : W.heap[m]? = some (.cells (icell s) 3 (0, 0))) (z : Int) : (W.setCell ⟨m, j, none⟩ (.int .i64 z)).heap[m]? = some (.cells (icell (s.set j z)) 3 (0, 0)) := by
  simp [World.setCell, Array.getElem?_modify, h, icell_set]
theorem Seen.put1 {w W : World} {b6 m1 m2 m3 : Nat} {s1 s2 s3 : List Int} (h : Seen w W b6 m1 m2 m3 s1 s2 s3) {j : Nat} {z : Int} (hj : j < s1.length) : Seen w (W.setCell ⟨m1, j, none⟩ (.int .i64 z)) b6 m1 m2 m3 (s1.set j z) s2 s3 := by
  have oth : ∀ q, q ≠ m1 → (W.setCell ⟨m1, j, none⟩ (.int .i64 z)).heap[q]? = W.heap[q]? := fun q hq => Below.heap_setCell _ _ _ _ (by simpa using hq)
  refine ⟨?_, put_row h.r1 z, (oth _ (by have := h.ne; omega)).trans h.r2, (oth _ (by have := h.ne; omega)).trans h.r3, h.ne, h.ge, h.bel.setCell (p := ⟨m1, j, none⟩) h.ge.2.1 _⟩
  rw [List.length_set]
  exact (oth _ (by have := h.ne; omega)).trans h.bx
theorem Seen.put2 {w W : World} {b6 m1 m2 m3 : Nat} {s1 s2 s3 : List Int} (h : Seen w W b6 m1 m2 m3 s1 s2 s3) {j : Nat} {z : Int} (hj : j < s2.length) : Seen w (W.setCell ⟨m2, j, none⟩ (.int .i64 z)) b6 m1 m2 m3 s1 (s2.set j z) s3 := by
  have oth : ∀ q, q ≠ m2 → (W.setCell ⟨m2, j, none⟩ (.int .i64 z)).heap[q]? = W.heap[q]? := fun q hq => Below.heap_setCell _ _ _ _ (by simpa using hq)
  refine ⟨?_, (oth _ (by have := h.ne; omega)).trans h.r1, put_row h.r2 z, (oth _ (by have := h.ne; omega)).trans h.r3, h.ne, h.ge, h.bel.setCell (p := ⟨m2, j, none⟩) h.ge.2.2.1 _⟩
  rw [List.length_set]
  exact (oth _ (by have := h.ne; omega)).trans h.bx
theorem Seen.put3 {w W : World} {b6 m1 m2 m3 : Nat} {s1 s2 s3 : List Int} (h : Seen w W b6 m1 m2 m3 s1 s2 s3) {j : Nat} {z : Int} (hj : j < s3.length) : Seen w (W.setCell ⟨m3, j, none⟩ (.int .i64 z)) b6 m1 m2 m3 s1 s2 (s3.set j z) := by
  have oth : ∀ q, q ≠ m3 → (W.setCell ⟨m3, j, none⟩ (.int .i64 z)).heap[q]? = W.heap[q]? := fun q hq => Below.heap_setCell _ _ _ _ (by simpa using hq)
  refine ⟨?_, (oth _ (by have := h.ne; omega)).trans h.r1, (oth _ (by have := h.ne; omega)).trans h.r2, put_row h.r3 z, h.ne, h.ge, h.bel.setCell (p := ⟨m3, j, none⟩) h.ge.2.2.2 _⟩
  rw [List.length_set]
  exact (oth _ (by have := h.ne; omega)).trans h.bx
theorem Try.infoN19 : (Try.prog.info? 3).map (fun i => (i.zero, i.size, i.bytes)) = some (some (.int .i64 0), 1, 8) := by kernel_rfl
set_option maxRecDepth 100000 in
set_option maxHeartbeats 32000000 in
theorem lonce_b (l : List CV) (A : Option Addr) (c : Nat) (b : List BV) (B : Option Addr) (d : Nat) (w : World) (hr : CRow w w.heap.size A l) (hrb : BRow w w.heap.size B b) : Calls Try.prog 5 #[.slice A l.length c, .slice B b.length d] w fun e w' => e = .returned (.bool true) ∧ Below w.heap.size w w' := by
  have HI42 := Lib.hid (show (Try.prog.info? 42).map (·.size) = some 4 by kernel_rfl)
  have hmk : ∀ (n : Nat) (hn : n ≤ 60) (w : World), (Instr.makeSlice 41 (.int .i64 (n : Int)) (.int .i64 (n : Int))).run Try.prog w = .ok (.slice (some ⟨w.heap.size, 0, none⟩) n n) (w.alloc (.cells (madeCells #[.int .i64 0] n) 3)) := fun n hn w => by
    obtain ⟨i0, hi0, hz0, hz1, hz2⟩ := info_parts Try.infoN19
    exact run_make_row 41 3 i0 (.int .i64 0) Try.underlying41 hi0 hz0 hz1 rfl .i64 .i64 n (by rw [hz2]; omega) (by omega) w
  have HMK := Lib.hid hmk
  clear hmk
  have HR := Lib.hid hr; have HRB := Lib.hid hrb
  clear hr hrb
  go_enter Try.func5, Try.ntmps5
  go_wp2_with fail
  refine (wakes19_b _).mono ?_
  rintro e w1 ⟨rfl, hb1⟩
  have HB1 := Lib.hid hb1
  clear hb1
  by_cases hl : (60 : Int) < (l.length : Int)
  · go_wp2
    go_ret
    exact ⟨rfl, HB1.out⟩
  have hld : decide ((60 : Int) < (l.length : Int)) = false := decide_eq_false hl
  have hl60 : l.length ≤ 60 := by omega
  by_cases hbl : (60 : Int) < (b.length : Int)
  · go_wp2
    go_ret
    exact ⟨rfl, HB1.out⟩
  have hbld : decide ((60 : Int) < (b.length : Int)) = false := decide_eq_false hbl
  have hb60 : b.length ≤ 60 := by omega
  cases hso : soundB l with
  | false =>
    have HSO := Lib.hid hso
    clear hso
    go_wp2_with fail
    refine (rsound_q A l c false _ (HR.out.later HB1.out) hl60 HSO.out).mono ?_
    rintro e w2 ⟨rfl, hb2⟩
    have HB2 := Lib.hid (HB1.out.trans (hb2.mono HB1.out.size))
    clear hb2
    go_wp2
    go_ret
    exact ⟨rfl, HB2.out⟩
  | true =>
    have HSO := Lib.hid hso
    clear hso
    go_wp2_with fail
    refine (rsound_q A l c true _ (HR.out.later HB1.out) hl60 HSO.out).mono ?_
    rintro e w2 ⟨rfl, hb2⟩
    have HB2 := Lib.hid (HB1.out.trans (hb2.mono HB1.out.size))
    have HL60 := Lib.hid hl60; have HB60 := Lib.hid hb60
    clear hb2 hl hbl hld hbld
    go_wp2_with fail
    refine (order19_b l A c b B d _ (HR.out.later HB2.out) (HRB.out.later HB2.out) HL60.out HB60.out).mono ?_
    rintro e w3 ⟨v3, rfl, hown3, hb3⟩
    obtain ⟨L, hL⟩ : ∃ L, witS l b = L := ⟨_, rfl⟩
    have hLL := witS_len l b HL60.out HB60.out
    have HDIS := Lib.hid (show Dis L by rw [← hL]; exact dis_ord)
    have HCS := Lib.hid (show ∀ x ∈ L, ∃ j : Nat, x.idx = (j : Int) ∧ ((x.kind = 1 ∧ j < l.length) ∨ (x.kind = 2 ∧ j < l.length) ∨ (x.kind = 3 ∧ j < b.length)) by rw [← hL]; exact fun x hx => ord_cases hx)
    have HC1 := Lib.hid (show ∀ j, j < l.length → cnt L 1 j = if (spL l j).2.2 = true then 1 else 0 by rw [← hL]; exact fun j hj => cnt_eff hj)
    have HC2 := Lib.hid (show ∀ j, j < l.length → cnt L 2 j = if 0 ≤ rgL l j then 1 else 0 by rw [← hL]; exact fun j hj => cnt_rng hj)
    have HC3 := Lib.hid (show ∀ j, j < b.length → cnt L 3 j = 1 by rw [← hL]; exact fun j hj => cnt_del hj)
    rw [hL] at hown3 hLL
    obtain ⟨A5, c5, rfl, -, -, hi3⟩ := own_irow hown3 rfl
    have HLL := Lib.hid hLL
    have HB3 := Lib.hid (HB2.out.trans (hb3.mono HB2.out.size))
    have HI3 := Lib.hid hi3
    have hmk1 := HMK.out l.length HL60.out
    have hmk2 := HMK.out b.length HB60.out
    have hlw := IntWalk.i64_in (l.length : Int) (by have := HL60.out; omega)
    have hbw := IntWalk.i64_in (b.length : Int) (by have := HB60.out; omega)
    clear hown3 hb3 hi3 hL hLL
    go_wp2_with fail
    refine wp_region_held_drew (S := fun _ => True) (by kernel_rfl) (trivial) (fun hHeld => ?_)
    first
      | (refine wpAnyH_take (i := 0) rfl (by kernel_rfl) (by kernel_rfl) (by kernel_rfl) (fun _ _ _ h => h) (Or.inl ⟨by rfl, by intro w hSw; (go_simp <;> with_reducible rfl)⟩) (by assumption) ?_)
      | (refine wpAnyH_take (i := 0) rfl (by kernel_rfl) (by kernel_rfl) (by kernel_rfl) (fun _ _ _ h => h) (Or.inr ⟨by rfl, rfl⟩) (by assumption) ?_)
    (try simp only [Act.put, List.setIfInBounds_toArray, List.set_cons_zero, List.set_cons_succ, List.getElem_toArray, List.getElem_cons_zero, List.getElem_cons_succ])
    first
      | (refine wpAnyH_take (i := 1) rfl (by kernel_rfl) (by kernel_rfl) (by kernel_rfl) (fun _ _ _ h => h) (Or.inl ⟨by rfl, by intro w hSw; (go_simp <;> with_reducible rfl)⟩) (by assumption) ?_)
      | (refine wpAnyH_take (i := 1) rfl (by kernel_rfl) (by kernel_rfl) (by kernel_rfl) (fun _ _ _ h => h) (Or.inr ⟨by rfl, rfl⟩) (by assumption) ?_)
    (try simp only [Act.put, List.setIfInBounds_toArray, List.set_cons_zero, List.set_cons_succ, List.getElem_toArray, List.getElem_cons_zero, List.getElem_cons_succ])
    first
      | (refine wpAnyH_take (i := 3) rfl (by kernel_rfl) (by kernel_rfl) (by kernel_rfl) (fun _ _ _ h => h) (Or.inl ⟨by rfl, by intro w hSw; (go_simp <;> with_reducible rfl)⟩) (by assumption) ?_)
      | (refine wpAnyH_take (i := 3) rfl (by kernel_rfl) (by kernel_rfl) (by kernel_rfl) (fun _ _ _ h => h) (Or.inr ⟨by rfl, rfl⟩) (by assumption) ?_)
    (try simp only [Act.put, List.setIfInBounds_toArray, List.set_cons_zero, List.set_cons_succ, List.getElem_toArray, List.getElem_cons_zero, List.getElem_cons_succ])
    first
      | (refine wpAnyH_take (i := 4) rfl (by kernel_rfl) (by kernel_rfl) (by kernel_rfl) (fun _ _ _ h => h) (Or.inl ⟨by rfl, by intro w hSw; (go_simp <;> with_reducible rfl)⟩) (by assumption) ?_)
      | (refine wpAnyH_take (i := 4) rfl (by kernel_rfl) (by kernel_rfl) (by kernel_rfl) (fun _ _ _ h => h) (Or.inr ⟨by rfl, rfl⟩) (by assumption) ?_)
    (try simp only [Act.put, List.setIfInBounds_toArray, List.set_cons_zero, List.set_cons_succ, List.getElem_toArray, List.getElem_cons_zero, List.getElem_cons_succ])
    first
      | (refine wpAnyH_take (i := 6) rfl (by kernel_rfl) (by kernel_rfl) (by kernel_rfl) (fun _ _ _ h => h) (Or.inl ⟨by rfl, by intro w hSw; (go_simp <;> with_reducible rfl)⟩) (by assumption) ?_)
      | (refine wpAnyH_take (i := 6) rfl (by kernel_rfl) (by kernel_rfl) (by kernel_rfl) (fun _ _ _ h => h) (Or.inr ⟨by rfl, rfl⟩) (by assumption) ?_)
    (try simp only [Act.put, List.setIfInBounds_toArray, List.set_cons_zero, List.set_cons_succ, List.getElem_toArray, List.getElem_cons_zero, List.getElem_cons_succ])
    first
      | (refine wpAnyH_take (i := 7) rfl (by kernel_rfl) (by kernel_rfl) (by kernel_rfl) (fun _ _ _ h => h) (Or.inl ⟨by rfl, by intro w hSw; (go_simp <;> with_reducible rfl)⟩) (by assumption) ?_)
      | (refine wpAnyH_take (i := 7) rfl (by kernel_rfl) (by kernel_rfl) (by kernel_rfl) (fun _ _ _ h => h) (Or.inr ⟨by rfl, rfl⟩) (by assumption) ?_)
    (try simp only [Act.put, List.setIfInBounds_toArray, List.set_cons_zero, List.set_cons_succ, List.getElem_toArray, List.getElem_cons_zero, List.getElem_cons_succ])
    apply cut2
    rotate_left
    · intro key
      refine wpAnyH_ready (rs := [2, 5, 8, 10]) (by kernel_rfl) (by simp) (AllReadyH.cons rfl (fun K hK => ?_) (AllReadyH.cons rfl (fun K hK => ?_) (AllReadyH.cons rfl (fun K hK => ?_) (AllReadyH.cons rfl (fun K hK => ?_) AllReadyH.nil))))
      · obtain ⟨v1, HV1⟩ : ∃ u, Hid (u = (w3.alloc (.cells (madeCells #[.int .i64 0] l.length) 3)).drew) := ⟨_, rfl⟩
        obtain ⟨m1, HQ⟩ : ∃ q, Hid (q = w3.heap.size) := ⟨_, rfl⟩
        have HM1 := Lib.hid (show Made w3 v1 ((m1, (.cells (madeCells #[.int .i64 0] l.length) 3)) :: []) by rw [HV1.out]; exact (Made.alloc (Made.start w3) HQ.out).drew)
        go_simp
        rw [← HV1.out, ← HQ.out]
        refine hK.out _ _ trivial (fun hHeld => ?_)
        clear hK K HQ
        (try simp only [Act.put, List.setIfInBounds_toArray, List.set_cons_zero, List.set_cons_succ, List.getElem_toArray, List.getElem_cons_zero, List.getElem_cons_succ])
        refine wpAnyH_ready (rs := [5, 8, 10]) (by kernel_rfl) (by simp) (AllReadyH.cons rfl (fun K hK => ?_) (AllReadyH.cons rfl (fun K hK => ?_) (AllReadyH.cons rfl (fun K hK => ?_) AllReadyH.nil)))
        · obtain ⟨v2, HV2⟩ : ∃ u, Hid (u = (v1.alloc (.cells (madeCells #[.int .i64 0] l.length) 3))) := ⟨_, rfl⟩
          obtain ⟨m2, HQ⟩ : ∃ q, Hid (q = v1.heap.size) := ⟨_, rfl⟩
          have HM2 := Lib.hid (show Made w3 v2 ((m2, (.cells (madeCells #[.int .i64 0] l.length) 3)) :: [(m1, (.cells (madeCells #[.int .i64 0] l.length) 3))]) by rw [HV2.out]; exact Made.alloc HM1.out HQ.out)
          go_simp
          rw [← HV2.out, ← HQ.out]
          refine hK.out _ _ trivial (fun hHeld => ?_)
          clear hK K HQ
          (try simp only [Act.put, List.setIfInBounds_toArray, List.set_cons_zero, List.set_cons_succ, List.getElem_toArray, List.getElem_cons_zero, List.getElem_cons_succ])
          refine wpAnyH_ready (rs := [8, 10]) (by kernel_rfl) (by simp) (AllReadyH.cons rfl (fun K hK => ?_) (AllReadyH.cons rfl (fun K hK => ?_) AllReadyH.nil))
          · obtain ⟨v3, HV3⟩ : ∃ u, Hid (u = (v2.alloc (.cells (madeCells #[.int .i64 0] b.length) 3))) := ⟨_, rfl⟩
            obtain ⟨m3, HQ⟩ : ∃ q, Hid (q = v2.heap.size) := ⟨_, rfl⟩
            have HM3 := Lib.hid (show Made w3 v3 ((m3, (.cells (madeCells #[.int .i64 0] b.length) 3)) :: [(m2, (.cells (madeCells #[.int .i64 0] l.length) 3)), (m1, (.cells (madeCells #[.int .i64 0] l.length) 3))]) by rw [HV3.out]; exact Made.alloc HM2.out HQ.out)
            go_simp
            rw [← HV3.out, ← HQ.out]
            refine hK.out _ _ trivial (fun hHeld => ?_)
            clear hK K HQ
            (try simp only [Act.put, List.setIfInBounds_toArray, List.set_cons_zero, List.set_cons_succ, List.getElem_toArray, List.getElem_cons_zero, List.getElem_cons_succ])
            first
              | (refine wpAnyH_take (i := 9) rfl (by kernel_rfl) (by kernel_rfl) (by kernel_rfl) (fun _ _ _ h => h) (Or.inl ⟨by rfl, by intro w hSw; (go_simp <;> with_reducible rfl)⟩) (by assumption) ?_)
              | (refine wpAnyH_take (i := 9) rfl (by kernel_rfl) (by kernel_rfl) (by kernel_rfl) (fun _ _ _ h => h) (Or.inr ⟨by rfl, rfl⟩) (by assumption) ?_)
            (try simp only [Act.put, List.setIfInBounds_toArray, List.set_cons_zero, List.set_cons_succ, List.getElem_toArray, List.getElem_cons_zero, List.getElem_cons_succ])
            refine wpAnyH_ready (rs := [10]) (by kernel_rfl) (by simp) (AllReadyH.cons rfl (fun K hK => ?_) AllReadyH.nil)
            obtain ⟨v4, HV4⟩ : ∃ u, Hid (u = (v3.alloc (.cells #[.slice none 0 0, .slice none 0 0, .slice none 0 0, .slice none 0 0] 42))) := ⟨_, rfl⟩
            obtain ⟨b6, HQ⟩ : ∃ q, Hid (q = v3.heap.size) := ⟨_, rfl⟩
            have HM4 := Lib.hid (show Made w3 v4 ((b6, (.cells #[.slice none 0 0, .slice none 0 0, .slice none 0 0, .slice none 0 0] 42)) :: [(m3, (.cells (madeCells #[.int .i64 0] b.length) 3)), (m2, (.cells (madeCells #[.int .i64 0] l.length) 3)), (m1, (.cells (madeCells #[.int .i64 0] l.length) 3))]) by rw [HV4.out]; exact Made.alloc HM3.out HQ.out)
            go_simp
            rw [← HV4.out, ← HQ.out]
            refine hK.out _ _ trivial (fun hHeld => ?_)
            clear hK K HQ
            (try simp only [Act.put, List.setIfInBounds_toArray, List.set_cons_zero, List.set_cons_succ, List.getElem_toArray, List.getElem_cons_zero, List.getElem_cons_succ])
            obtain ⟨Y, HY⟩ : ∃ u, Hid (u = v4.setCells b6 0 (#[.slice none 0 0, .slice (some ⟨m1, 0, none⟩) l.length l.length, .slice (some ⟨m2, 0, none⟩) l.length l.length, .slice (some ⟨m3, 0, none⟩) b.length b.length] : Array Value).toList) := ⟨_, rfl⟩
            have h6 := (HM4.out.2.1 (b6, (.cells #[.slice none 0 0, .slice none 0 0, .slice none 0 0, .slice none 0 0] 42)) (by simp))
            have HTH6 : Hid (v4.there b6 0 (#[.slice none 0 0, .slice (some ⟨m1, 0, none⟩) l.length l.length, .slice (some ⟨m2, 0, none⟩) l.length l.length, .slice (some ⟨m3, 0, none⟩) b.length b.length] : Array Value).size) := Lib.hid (there_at h6.2 rfl)
            have HSEEN : Hid (Seen w3 Y b6 m1 m2 m3 (cntL [] 1 l.length) (cntL [] 2 l.length) (cntL [] 3 b.length)) := Lib.hid (by
              rw [HY.out]
              exact seen_start HM4.out.1 h6 (HM4.out.2.1 (m1, (.cells (madeCells #[.int .i64 0] l.length) 3)) (by simp)) (HM4.out.2.1 (m2, (.cells (madeCells #[.int .i64 0] l.length) 3)) (by simp)) (HM4.out.2.1 (m3, (.cells (madeCells #[.int .i64 0] b.length) 3)) (by simp)) (by have := HM4.out.2.2; simp at this; omega))
            refine wpAnyH_ready (rs := [11]) (by kernel_rfl) (by simp) (AllReadyH.cons rfl (fun K hK => ?_) AllReadyH.nil)
            refine wp_store_mid 42 _ _ rfl b6 0 #[.slice none 0 0, .slice (some ⟨m1, 0, none⟩) l.length l.length, .slice (some ⟨m2, 0, none⟩) l.length l.length, .slice (some ⟨m3, 0, none⟩) b.length b.length] (by kernel_rfl) (by kernel_rfl) HTH6.out HI42.out (by simp [Value.oneCell']) ?_
            (try simp only [List.toList_toArray])
            rw [← HY.out]
            refine hK.out _ _ trivial (fun hHeld => ?_)
            clear hK K
            (try simp only [Act.put, List.setIfInBounds_toArray, List.set_cons_zero, List.set_cons_succ, List.getElem_toArray, List.getElem_cons_zero, List.getElem_cons_succ])
            refine wpAnyH_done (by kernel_rfl) ?_ _
            clear hHeld
            clear h6 HTH6 HY HM4 HM3 HM2 HM1 HV4 HV3 HV2 HV1
            revert HSEEN
            clear v4 v3 v2 v1
            revert Y
            revert b6
            revert m3
            revert m2
            revert m1
            exact key.get
          · obtain ⟨v3, HV3⟩ : ∃ u, Hid (u = (v2.alloc (.cells #[.slice none 0 0, .slice none 0 0, .slice none 0 0, .slice none 0 0] 42))) := ⟨_, rfl⟩
            obtain ⟨b6, HQ⟩ : ∃ q, Hid (q = v2.heap.size) := ⟨_, rfl⟩
            have HM3 := Lib.hid (show Made w3 v3 ((b6, (.cells #[.slice none 0 0, .slice none 0 0, .slice none 0 0, .slice none 0 0] 42)) :: [(m2, (.cells (madeCells #[.int .i64 0] l.length) 3)), (m1, (.cells (madeCells #[.int .i64 0] l.length) 3))]) by rw [HV3.out]; exact Made.alloc HM2.out HQ.out)
            go_simp
            rw [← HV3.out, ← HQ.out]
            refine hK.out _ _ trivial (fun hHeld => ?_)
            clear hK K HQ
            (try simp only [Act.put, List.setIfInBounds_toArray, List.set_cons_zero, List.set_cons_succ, List.getElem_toArray, List.getElem_cons_zero, List.getElem_cons_succ])
            refine wpAnyH_ready (rs := [8]) (by kernel_rfl) (by simp) (AllReadyH.cons rfl (fun K hK => ?_) AllReadyH.nil)
            obtain ⟨v4, HV4⟩ : ∃ u, Hid (u = (v3.alloc (.cells (madeCells #[.int .i64 0] b.length) 3))) := ⟨_, rfl⟩
            obtain ⟨m3, HQ⟩ : ∃ q, Hid (q = v3.heap.size) := ⟨_, rfl⟩
            have HM4 := Lib.hid (show Made w3 v4 ((m3, (.cells (madeCells #[.int .i64 0] b.length) 3)) :: [(b6, (.cells #[.slice none 0 0, .slice none 0 0, .slice none 0 0, .slice none 0 0] 42)), (m2, (.cells (madeCells #[.int .i64 0] l.length) 3)), (m1, (.cells (madeCells #[.int .i64 0] l.length) 3))]) by rw [HV4.out]; exact Made.alloc HM3.out HQ.out)
            go_simp
            rw [← HV4.out, ← HQ.out]
            refine hK.out _ _ trivial (fun hHeld => ?_)
            clear hK K HQ
            (try simp only [Act.put, List.setIfInBounds_toArray, List.set_cons_zero, List.set_cons_succ, List.getElem_toArray, List.getElem_cons_zero, List.getElem_cons_succ])
            first
              | (refine wpAnyH_take (i := 9) rfl (by kernel_rfl) (by kernel_rfl) (by kernel_rfl) (fun _ _ _ h => h) (Or.inl ⟨by rfl, by intro w hSw; (go_simp <;> with_reducible rfl)⟩) (by assumption) ?_)
              | (refine wpAnyH_take (i := 9) rfl (by kernel_rfl) (by kernel_rfl) (by kernel_rfl) (fun _ _ _ h => h) (Or.inr ⟨by rfl, rfl⟩) (by assumption) ?_)
            (try simp only [Act.put, List.setIfInBounds_toArray, List.set_cons_zero, List.set_cons_succ, List.getElem_toArray, List.getElem_cons_zero, List.getElem_cons_succ])
            obtain ⟨Y, HY⟩ : ∃ u, Hid (u = v4.setCells b6 0 (#[.slice none 0 0, .slice (some ⟨m1, 0, none⟩) l.length l.length, .slice (some ⟨m2, 0, none⟩) l.length l.length, .slice (some ⟨m3, 0, none⟩) b.length b.length] : Array Value).toList) := ⟨_, rfl⟩
            have h6 := (HM4.out.2.1 (b6, (.cells #[.slice none 0 0, .slice none 0 0, .slice none 0 0, .slice none 0 0] 42)) (by simp))
            have HTH6 : Hid (v4.there b6 0 (#[.slice none 0 0, .slice (some ⟨m1, 0, none⟩) l.length l.length, .slice (some ⟨m2, 0, none⟩) l.length l.length, .slice (some ⟨m3, 0, none⟩) b.length b.length] : Array Value).size) := Lib.hid (there_at h6.2 rfl)
            have HSEEN : Hid (Seen w3 Y b6 m1 m2 m3 (cntL [] 1 l.length) (cntL [] 2 l.length) (cntL [] 3 b.length)) := Lib.hid (by
              rw [HY.out]
              exact seen_start HM4.out.1 h6 (HM4.out.2.1 (m1, (.cells (madeCells #[.int .i64 0] l.length) 3)) (by simp)) (HM4.out.2.1 (m2, (.cells (madeCells #[.int .i64 0] l.length) 3)) (by simp)) (HM4.out.2.1 (m3, (.cells (madeCells #[.int .i64 0] b.length) 3)) (by simp)) (by have := HM4.out.2.2; simp at this; omega))
            refine wpAnyH_ready (rs := [11]) (by kernel_rfl) (by simp) (AllReadyH.cons rfl (fun K hK => ?_) AllReadyH.nil)
            refine wp_store_mid 42 _ _ rfl b6 0 #[.slice none 0 0, .slice (some ⟨m1, 0, none⟩) l.length l.length, .slice (some ⟨m2, 0, none⟩) l.length l.length, .slice (some ⟨m3, 0, none⟩) b.length b.length] (by kernel_rfl) (by kernel_rfl) HTH6.out HI42.out (by simp [Value.oneCell']) ?_
            (try simp only [List.toList_toArray])
            rw [← HY.out]
            refine hK.out _ _ trivial (fun hHeld => ?_)
            clear hK K
            (try simp only [Act.put, List.setIfInBounds_toArray, List.set_cons_zero, List.set_cons_succ, List.getElem_toArray, List.getElem_cons_zero, List.getElem_cons_succ])
            refine wpAnyH_done (by kernel_rfl) ?_ _
            clear hHeld
            clear h6 HTH6 HY HM4 HM3 HM2 HM1 HV4 HV3 HV2 HV1
            revert HSEEN
            clear v4 v3 v2 v1
            revert Y
            revert b6
            revert m3
            revert m2
            revert m1
            exact key.get
        · obtain ⟨v2, HV2⟩ : ∃ u, Hid (u = (v1.alloc (.cells (madeCells #[.int .i64 0] b.length) 3))) := ⟨_, rfl⟩
          obtain ⟨m3, HQ⟩ : ∃ q, Hid (q = v1.heap.size) := ⟨_, rfl⟩
          have HM2 := Lib.hid (show Made w3 v2 ((m3, (.cells (madeCells #[.int .i64 0] b.length) 3)) :: [(m1, (.cells (madeCells #[.int .i64 0] l.length) 3))]) by rw [HV2.out]; exact Made.alloc HM1.out HQ.out)
          go_simp
          rw [← HV2.out, ← HQ.out]
          refine hK.out _ _ trivial (fun hHeld => ?_)
          clear hK K HQ
          (try simp only [Act.put, List.setIfInBounds_toArray, List.set_cons_zero, List.set_cons_succ, List.getElem_toArray, List.getElem_cons_zero, List.getElem_cons_succ])
          refine wpAnyH_ready (rs := [5, 10]) (by kernel_rfl) (by simp) (AllReadyH.cons rfl (fun K hK => ?_) (AllReadyH.cons rfl (fun K hK => ?_) AllReadyH.nil))
          · obtain ⟨v3, HV3⟩ : ∃ u, Hid (u = (v2.alloc (.cells (madeCells #[.int .i64 0] l.length) 3))) := ⟨_, rfl⟩
            obtain ⟨m2, HQ⟩ : ∃ q, Hid (q = v2.heap.size) := ⟨_, rfl⟩
            have HM3 := Lib.hid (show Made w3 v3 ((m2, (.cells (madeCells #[.int .i64 0] l.length) 3)) :: [(m3, (.cells (madeCells #[.int .i64 0] b.length) 3)), (m1, (.cells (madeCells #[.int .i64 0] l.length) 3))]) by rw [HV3.out]; exact Made.alloc HM2.out HQ.out)
            go_simp
            rw [← HV3.out, ← HQ.out]
            refine hK.out _ _ trivial (fun hHeld => ?_)
            clear hK K HQ
            (try simp only [Act.put, List.setIfInBounds_toArray, List.set_cons_zero, List.set_cons_succ, List.getElem_toArray, List.getElem_cons_zero, List.getElem_cons_succ])
            first
              | (refine wpAnyH_take (i := 9) rfl (by kernel_rfl) (by kernel_rfl) (by kernel_rfl) (fun _ _ _ h => h) (Or.inl ⟨by rfl, by intro w hSw; (go_simp <;> with_reducible rfl)⟩) (by assumption) ?_)
              | (refine wpAnyH_take (i := 9) rfl (by kernel_rfl) (by kernel_rfl) (by kernel_rfl) (fun _ _ _ h => h) (Or.inr ⟨by rfl, rfl⟩) (by assumption) ?_)
            (try simp only [Act.put, List.setIfInBounds_toArray, List.set_cons_zero, List.set_cons_succ, List.getElem_toArray, List.getElem_cons_zero, List.getElem_cons_succ])
            refine wpAnyH_ready (rs := [10]) (by kernel_rfl) (by simp) (AllReadyH.cons rfl (fun K hK => ?_) AllReadyH.nil)
            obtain ⟨v4, HV4⟩ : ∃ u, Hid (u = (v3.alloc (.cells #[.slice none 0 0, .slice none 0 0, .slice none 0 0, .slice none 0 0] 42))) := ⟨_, rfl⟩
            obtain ⟨b6, HQ⟩ : ∃ q, Hid (q = v3.heap.size) := ⟨_, rfl⟩
            have HM4 := Lib.hid (show Made w3 v4 ((b6, (.cells #[.slice none 0 0, .slice none 0 0, .slice none 0 0, .slice none 0 0] 42)) :: [(m2, (.cells (madeCells #[.int .i64 0] l.length) 3)), (m3, (.cells (madeCells #[.int .i64 0] b.length) 3)), (m1, (.cells (madeCells #[.int .i64 0] l.length) 3))]) by rw [HV4.out]; exact Made.alloc HM3.out HQ.out)
            go_simp
            rw [← HV4.out, ← HQ.out]
            refine hK.out _ _ trivial (fun hHeld => ?_)
            clear hK K HQ
            (try simp only [Act.put, List.setIfInBounds_toArray, List.set_cons_zero, List.set_cons_succ, List.getElem_toArray, List.getElem_cons_zero, List.getElem_cons_succ])
            obtain ⟨Y, HY⟩ : ∃ u, Hid (u = v4.setCells b6 0 (#[.slice none 0 0, .slice (some ⟨m1, 0, none⟩) l.length l.length, .slice (some ⟨m2, 0, none⟩) l.length l.length, .slice (some ⟨m3, 0, none⟩) b.length b.length] : Array Value).toList) := ⟨_, rfl⟩
            have h6 := (HM4.out.2.1 (b6, (.cells #[.slice none 0 0, .slice none 0 0, .slice none 0 0, .slice none 0 0] 42)) (by simp))
            have HTH6 : Hid (v4.there b6 0 (#[.slice none 0 0, .slice (some ⟨m1, 0, none⟩) l.length l.length, .slice (some ⟨m2, 0, none⟩) l.length l.length, .slice (some ⟨m3, 0, none⟩) b.length b.length] : Array Value).size) := Lib.hid (there_at h6.2 rfl)
            have HSEEN : Hid (Seen w3 Y b6 m1 m2 m3 (cntL [] 1 l.length) (cntL [] 2 l.length) (cntL [] 3 b.length)) := Lib.hid (by
              rw [HY.out]
              exact seen_start HM4.out.1 h6 (HM4.out.2.1 (m1, (.cells (madeCells #[.int .i64 0] l.length) 3)) (by simp)) (HM4.out.2.1 (m2, (.cells (madeCells #[.int .i64 0] l.length) 3)) (by simp)) (HM4.out.2.1 (m3, (.cells (madeCells #[.int .i64 0] b.length) 3)) (by simp)) (by have := HM4.out.2.2; simp at this; omega))
            refine wpAnyH_ready (rs := [11]) (by kernel_rfl) (by simp) (AllReadyH.cons rfl (fun K hK => ?_) AllReadyH.nil)
            refine wp_store_mid 42 _ _ rfl b6 0 #[.slice none 0 0, .slice (some ⟨m1, 0, none⟩) l.length l.length, .slice (some ⟨m2, 0, none⟩) l.length l.length, .slice (some ⟨m3, 0, none⟩) b.length b.length] (by kernel_rfl) (by kernel_rfl) HTH6.out HI42.out (by simp [Value.oneCell']) ?_
            (try simp only [List.toList_toArray])
            rw [← HY.out]
            refine hK.out _ _ trivial (fun hHeld => ?_)
            clear hK K
            (try simp only [Act.put, List.setIfInBounds_toArray, List.set_cons_zero, List.set_cons_succ, List.getElem_toArray, List.getElem_cons_zero, List.getElem_cons_succ])
            refine wpAnyH_done (by kernel_rfl) ?_ _
            clear hHeld
            clear h6 HTH6 HY HM4 HM3 HM2 HM1 HV4 HV3 HV2 HV1
            revert HSEEN
            clear v4 v3 v2 v1
            revert Y
            revert b6
            revert m3
            revert m2
            revert m1
            exact key.get
          · obtain ⟨v3, HV3⟩ : ∃ u, Hid (u = (v2.alloc (.cells #[.slice none 0 0, .slice none 0 0, .slice none 0 0, .slice none 0 0] 42))) := ⟨_, rfl⟩
            obtain ⟨b6, HQ⟩ : ∃ q, Hid (q = v2.heap.size) := ⟨_, rfl⟩
            have HM3 := Lib.hid (show Made w3 v3 ((b6, (.cells #[.slice none 0 0, .slice none 0 0, .slice none 0 0, .slice none 0 0] 42)) :: [(m3, (.cells (madeCells #[.int .i64 0] b.length) 3)), (m1, (.cells (madeCells #[.int .i64 0] l.length) 3))]) by rw [HV3.out]; exact Made.alloc HM2.out HQ.out)
            go_simp
            rw [← HV3.out, ← HQ.out]
            refine hK.out _ _ trivial (fun hHeld => ?_)
            clear hK K HQ
            (try simp only [Act.put, List.setIfInBounds_toArray, List.set_cons_zero, List.set_cons_succ, List.getElem_toArray, List.getElem_cons_zero, List.getElem_cons_succ])
            refine wpAnyH_ready (rs := [5]) (by kernel_rfl) (by simp) (AllReadyH.cons rfl (fun K hK => ?_) AllReadyH.nil)
            obtain ⟨v4, HV4⟩ : ∃ u, Hid (u = (v3.alloc (.cells (madeCells #[.int .i64 0] l.length) 3))) := ⟨_, rfl⟩
            obtain ⟨m2, HQ⟩ : ∃ q, Hid (q = v3.heap.size) := ⟨_, rfl⟩
            have HM4 := Lib.hid (show Made w3 v4 ((m2, (.cells (madeCells #[.int .i64 0] l.length) 3)) :: [(b6, (.cells #[.slice none 0 0, .slice none 0 0, .slice none 0 0, .slice none 0 0] 42)), (m3, (.cells (madeCells #[.int .i64 0] b.length) 3)), (m1, (.cells (madeCells #[.int .i64 0] l.length) 3))]) by rw [HV4.out]; exact Made.alloc HM3.out HQ.out)
            go_simp
            rw [← HV4.out, ← HQ.out]
            refine hK.out _ _ trivial (fun hHeld => ?_)
            clear hK K HQ
            (try simp only [Act.put, List.setIfInBounds_toArray, List.set_cons_zero, List.set_cons_succ, List.getElem_toArray, List.getElem_cons_zero, List.getElem_cons_succ])
            first
              | (refine wpAnyH_take (i := 9) rfl (by kernel_rfl) (by kernel_rfl) (by kernel_rfl) (fun _ _ _ h => h) (Or.inl ⟨by rfl, by intro w hSw; (go_simp <;> with_reducible rfl)⟩) (by assumption) ?_)
              | (refine wpAnyH_take (i := 9) rfl (by kernel_rfl) (by kernel_rfl) (by kernel_rfl) (fun _ _ _ h => h) (Or.inr ⟨by rfl, rfl⟩) (by assumption) ?_)
            (try simp only [Act.put, List.setIfInBounds_toArray, List.set_cons_zero, List.set_cons_succ, List.getElem_toArray, List.getElem_cons_zero, List.getElem_cons_succ])
            obtain ⟨Y, HY⟩ : ∃ u, Hid (u = v4.setCells b6 0 (#[.slice none 0 0, .slice (some ⟨m1, 0, none⟩) l.length l.length, .slice (some ⟨m2, 0, none⟩) l.length l.length, .slice (some ⟨m3, 0, none⟩) b.length b.length] : Array Value).toList) := ⟨_, rfl⟩
            have h6 := (HM4.out.2.1 (b6, (.cells #[.slice none 0 0, .slice none 0 0, .slice none 0 0, .slice none 0 0] 42)) (by simp))
            have HTH6 : Hid (v4.there b6 0 (#[.slice none 0 0, .slice (some ⟨m1, 0, none⟩) l.length l.length, .slice (some ⟨m2, 0, none⟩) l.length l.length, .slice (some ⟨m3, 0, none⟩) b.length b.length] : Array Value).size) := Lib.hid (there_at h6.2 rfl)
            have HSEEN : Hid (Seen w3 Y b6 m1 m2 m3 (cntL [] 1 l.length) (cntL [] 2 l.length) (cntL [] 3 b.length)) := Lib.hid (by
              rw [HY.out]
              exact seen_start HM4.out.1 h6 (HM4.out.2.1 (m1, (.cells (madeCells #[.int .i64 0] l.length) 3)) (by simp)) (HM4.out.2.1 (m2, (.cells (madeCells #[.int .i64 0] l.length) 3)) (by simp)) (HM4.out.2.1 (m3, (.cells (madeCells #[.int .i64 0] b.length) 3)) (by simp)) (by have := HM4.out.2.2; simp at this; omega))
            refine wpAnyH_ready (rs := [11]) (by kernel_rfl) (by simp) (AllReadyH.cons rfl (fun K hK => ?_) AllReadyH.nil)
            refine wp_store_mid 42 _ _ rfl b6 0 #[.slice none 0 0, .slice (some ⟨m1, 0, none⟩) l.length l.length, .slice (some ⟨m2, 0, none⟩) l.length l.length, .slice (some ⟨m3, 0, none⟩) b.length b.length] (by kernel_rfl) (by kernel_rfl) HTH6.out HI42.out (by simp [Value.oneCell']) ?_
            (try simp only [List.toList_toArray])
            rw [← HY.out]
            refine hK.out _ _ trivial (fun hHeld => ?_)
            clear hK K
            (try simp only [Act.put, List.setIfInBounds_toArray, List.set_cons_zero, List.set_cons_succ, List.getElem_toArray, List.getElem_cons_zero, List.getElem_cons_succ])
            refine wpAnyH_done (by kernel_rfl) ?_ _
            clear hHeld
            clear h6 HTH6 HY HM4 HM3 HM2 HM1 HV4 HV3 HV2 HV1
            revert HSEEN
            clear v4 v3 v2 v1
            revert Y
            revert b6
            revert m3
            revert m2
            revert m1
            exact key.get
        · obtain ⟨v2, HV2⟩ : ∃ u, Hid (u = (v1.alloc (.cells #[.slice none 0 0, .slice none 0 0, .slice none 0 0, .slice none 0 0] 42))) := ⟨_, rfl⟩
          obtain ⟨b6, HQ⟩ : ∃ q, Hid (q = v1.heap.size) := ⟨_, rfl⟩
          have HM2 := Lib.hid (show Made w3 v2 ((b6, (.cells #[.slice none 0 0, .slice none 0 0, .slice none 0 0, .slice none 0 0] 42)) :: [(m1, (.cells (madeCells #[.int .i64 0] l.length) 3))]) by rw [HV2.out]; exact Made.alloc HM1.out HQ.out)
          go_simp
          rw [← HV2.out, ← HQ.out]
          refine hK.out _ _ trivial (fun hHeld => ?_)
          clear hK K HQ
          (try simp only [Act.put, List.setIfInBounds_toArray, List.set_cons_zero, List.set_cons_succ, List.getElem_toArray, List.getElem_cons_zero, List.getElem_cons_succ])
          refine wpAnyH_ready (rs := [5, 8]) (by kernel_rfl) (by simp) (AllReadyH.cons rfl (fun K hK => ?_) (AllReadyH.cons rfl (fun K hK => ?_) AllReadyH.nil))
          · obtain ⟨v3, HV3⟩ : ∃ u, Hid (u = (v2.alloc (.cells (madeCells #[.int .i64 0] l.length) 3))) := ⟨_, rfl⟩
            obtain ⟨m2, HQ⟩ : ∃ q, Hid (q = v2.heap.size) := ⟨_, rfl⟩
            have HM3 := Lib.hid (show Made w3 v3 ((m2, (.cells (madeCells #[.int .i64 0] l.length) 3)) :: [(b6, (.cells #[.slice none 0 0, .slice none 0 0, .slice none 0 0, .slice none 0 0] 42)), (m1, (.cells (madeCells #[.int .i64 0] l.length) 3))]) by rw [HV3.out]; exact Made.alloc HM2.out HQ.out)
            go_simp
            rw [← HV3.out, ← HQ.out]
            refine hK.out _ _ trivial (fun hHeld => ?_)
            clear hK K HQ
            (try simp only [Act.put, List.setIfInBounds_toArray, List.set_cons_zero, List.set_cons_succ, List.getElem_toArray, List.getElem_cons_zero, List.getElem_cons_succ])
            refine wpAnyH_ready (rs := [8]) (by kernel_rfl) (by simp) (AllReadyH.cons rfl (fun K hK => ?_) AllReadyH.nil)
            obtain ⟨v4, HV4⟩ : ∃ u, Hid (u = (v3.alloc (.cells (madeCells #[.int .i64 0] b.length) 3))) := ⟨_, rfl⟩
            obtain ⟨m3, HQ⟩ : ∃ q, Hid (q = v3.heap.size) := ⟨_, rfl⟩
            have HM4 := Lib.hid (show Made w3 v4 ((m3, (.cells (madeCells #[.int .i64 0] b.length) 3)) :: [(m2, (.cells (madeCells #[.int .i64 0] l.length) 3)), (b6, (.cells #[.slice none 0 0, .slice none 0 0, .slice none 0 0, .slice none 0 0] 42)), (m1, (.cells (madeCells #[.int .i64 0] l.length) 3))]) by rw [HV4.out]; exact Made.alloc HM3.out HQ.out)
            go_simp
            rw [← HV4.out, ← HQ.out]
            refine hK.out _ _ trivial (fun hHeld => ?_)
            clear hK K HQ
            (try simp only [Act.put, List.setIfInBounds_toArray, List.set_cons_zero, List.set_cons_succ, List.getElem_toArray, List.getElem_cons_zero, List.getElem_cons_succ])
            first
              | (refine wpAnyH_take (i := 9) rfl (by kernel_rfl) (by kernel_rfl) (by kernel_rfl) (fun _ _ _ h => h) (Or.inl ⟨by rfl, by intro w hSw; (go_simp <;> with_reducible rfl)⟩) (by assumption) ?_)
              | (refine wpAnyH_take (i := 9) rfl (by kernel_rfl) (by kernel_rfl) (by kernel_rfl) (fun _ _ _ h => h) (Or.inr ⟨by rfl, rfl⟩) (by assumption) ?_)
            (try simp only [Act.put, List.setIfInBounds_toArray, List.set_cons_zero, List.set_cons_succ, List.getElem_toArray, List.getElem_cons_zero, List.getElem_cons_succ])
            obtain ⟨Y, HY⟩ : ∃ u, Hid (u = v4.setCells b6 0 (#[.slice none 0 0, .slice (some ⟨m1, 0, none⟩) l.length l.length, .slice (some ⟨m2, 0, none⟩) l.length l.length, .slice (some ⟨m3, 0, none⟩) b.length b.length] : Array Value).toList) := ⟨_, rfl⟩
            have h6 := (HM4.out.2.1 (b6, (.cells #[.slice none 0 0, .slice none 0 0, .slice none 0 0, .slice none 0 0] 42)) (by simp))
            have HTH6 : Hid (v4.there b6 0 (#[.slice none 0 0, .slice (some ⟨m1, 0, none⟩) l.length l.length, .slice (some ⟨m2, 0, none⟩) l.length l.length, .slice (some ⟨m3, 0, none⟩) b.length b.length] : Array Value).size) := Lib.hid (there_at h6.2 rfl)
            have HSEEN : Hid (Seen w3 Y b6 m1 m2 m3 (cntL [] 1 l.length) (cntL [] 2 l.length) (cntL [] 3 b.length)) := Lib.hid (by
              rw [HY.out]
              exact seen_start HM4.out.1 h6 (HM4.out.2.1 (m1, (.cells (madeCells #[.int .i64 0] l.length) 3)) (by simp)) (HM4.out.2.1 (m2, (.cells (madeCells #[.int .i64 0] l.length) 3)) (by simp)) (HM4.out.2.1 (m3, (.cells (madeCells #[.int .i64 0] b.length) 3)) (by simp)) (by have := HM4.out.2.2; simp at this; omega))
            refine wpAnyH_ready (rs := [11]) (by kernel_rfl) (by simp) (AllReadyH.cons rfl (fun K hK => ?_) AllReadyH.nil)
            refine wp_store_mid 42 _ _ rfl b6 0 #[.slice none 0 0, .slice (some ⟨m1, 0, none⟩) l.length l.length, .slice (some ⟨m2, 0, none⟩) l.length l.length, .slice (some ⟨m3, 0, none⟩) b.length b.length] (by kernel_rfl) (by kernel_rfl) HTH6.out HI42.out (by simp [Value.oneCell']) ?_
            (try simp only [List.toList_toArray])
            rw [← HY.out]
            refine hK.out _ _ trivial (fun hHeld => ?_)
            clear hK K
            (try simp only [Act.put, List.setIfInBounds_toArray, List.set_cons_zero, List.set_cons_succ, List.getElem_toArray, List.getElem_cons_zero, List.getElem_cons_succ])
            refine wpAnyH_done (by kernel_rfl) ?_ _
            clear hHeld
            clear h6 HTH6 HY HM4 HM3 HM2 HM1 HV4 HV3 HV2 HV1
            revert HSEEN
            clear v4 v3 v2 v1
            revert Y
            revert b6
            revert m3
            revert m2
            revert m1
            exact key.get
          · obtain ⟨v3, HV3⟩ : ∃ u, Hid (u = (v2.alloc (.cells (madeCells #[.int .i64 0] b.length) 3))) := ⟨_, rfl⟩
            obtain ⟨m3, HQ⟩ : ∃ q, Hid (q = v2.heap.size) := ⟨_, rfl⟩
            have HM3 := Lib.hid (show Made w3 v3 ((m3, (.cells (madeCells #[.int .i64 0] b.length) 3)) :: [(b6, (.cells #[.slice none 0 0, .slice none 0 0, .slice none 0 0, .slice none 0 0] 42)), (m1, (.cells (madeCells #[.int .i64 0] l.length) 3))]) by rw [HV3.out]; exact Made.alloc HM2.out HQ.out)
            go_simp
            rw [← HV3.out, ← HQ.out]
            refine hK.out _ _ trivial (fun hHeld => ?_)
            clear hK K HQ
            (try simp only [Act.put, List.setIfInBounds_toArray, List.set_cons_zero, List.set_cons_succ, List.getElem_toArray, List.getElem_cons_zero, List.getElem_cons_succ])
            refine wpAnyH_ready (rs := [5]) (by kernel_rfl) (by simp) (AllReadyH.cons rfl (fun K hK => ?_) AllReadyH.nil)
            obtain ⟨v4, HV4⟩ : ∃ u, Hid (u = (v3.alloc (.cells (madeCells #[.int .i64 0] l.length) 3))) := ⟨_, rfl⟩
            obtain ⟨m2, HQ⟩ : ∃ q, Hid (q = v3.heap.size) := ⟨_, rfl⟩
            have HM4 := Lib.hid (show Made w3 v4 ((m2, (.cells (madeCells #[.int .i64 0] l.length) 3)) :: [(m3, (.cells (madeCells #[.int .i64 0] b.length) 3)), (b6, (.cells #[.slice none 0 0, .slice none 0 0, .slice none 0 0, .slice none 0 0] 42)), (m1, (.cells (madeCells #[.int .i64 0] l.length) 3))]) by rw [HV4.out]; exact Made.alloc HM3.out HQ.out)
            go_simp
            rw [← HV4.out, ← HQ.out]
            refine hK.out _ _ trivial (fun hHeld => ?_)
            clear hK K HQ
            (try simp only [Act.put, List.setIfInBounds_toArray, List.set_cons_zero, List.set_cons_succ, List.getElem_toArray, List.getElem_cons_zero, List.getElem_cons_succ])
            first
              | (refine wpAnyH_take (i := 9) rfl (by kernel_rfl) (by kernel_rfl) (by kernel_rfl) (fun _ _ _ h => h) (Or.inl ⟨by rfl, by intro w hSw; (go_simp <;> with_reducible rfl)⟩) (by assumption) ?_)
              | (refine wpAnyH_take (i := 9) rfl (by kernel_rfl) (by kernel_rfl) (by kernel_rfl) (fun _ _ _ h => h) (Or.inr ⟨by rfl, rfl⟩) (by assumption) ?_)
            (try simp only [Act.put, List.setIfInBounds_toArray, List.set_cons_zero, List.set_cons_succ, List.getElem_toArray, List.getElem_cons_zero, List.getElem_cons_succ])
            obtain ⟨Y, HY⟩ : ∃ u, Hid (u = v4.setCells b6 0 (#[.slice none 0 0, .slice (some ⟨m1, 0, none⟩) l.length l.length, .slice (some ⟨m2, 0, none⟩) l.length l.length, .slice (some ⟨m3, 0, none⟩) b.length b.length] : Array Value).toList) := ⟨_, rfl⟩
            have h6 := (HM4.out.2.1 (b6, (.cells #[.slice none 0 0, .slice none 0 0, .slice none 0 0, .slice none 0 0] 42)) (by simp))
            have HTH6 : Hid (v4.there b6 0 (#[.slice none 0 0, .slice (some ⟨m1, 0, none⟩) l.length l.length, .slice (some ⟨m2, 0, none⟩) l.length l.length, .slice (some ⟨m3, 0, none⟩) b.length b.length] : Array Value).size) := Lib.hid (there_at h6.2 rfl)
            have HSEEN : Hid (Seen w3 Y b6 m1 m2 m3 (cntL [] 1 l.length) (cntL [] 2 l.length) (cntL [] 3 b.length)) := Lib.hid (by
              rw [HY.out]
              exact seen_start HM4.out.1 h6 (HM4.out.2.1 (m1, (.cells (madeCells #[.int .i64 0] l.length) 3)) (by simp)) (HM4.out.2.1 (m2, (.cells (madeCells #[.int .i64 0] l.length) 3)) (by simp)) (HM4.out.2.1 (m3, (.cells (madeCells #[.int .i64 0] b.length) 3)) (by simp)) (by have := HM4.out.2.2; simp at this; omega))
            refine wpAnyH_ready (rs := [11]) (by kernel_rfl) (by simp) (AllReadyH.cons rfl (fun K hK => ?_) AllReadyH.nil)
            refine wp_store_mid 42 _ _ rfl b6 0 #[.slice none 0 0, .slice (some ⟨m1, 0, none⟩) l.length l.length, .slice (some ⟨m2, 0, none⟩) l.length l.length, .slice (some ⟨m3, 0, none⟩) b.length b.length] (by kernel_rfl) (by kernel_rfl) HTH6.out HI42.out (by simp [Value.oneCell']) ?_
            (try simp only [List.toList_toArray])
            rw [← HY.out]
            refine hK.out _ _ trivial (fun hHeld => ?_)
            clear hK K
            (try simp only [Act.put, List.setIfInBounds_toArray, List.set_cons_zero, List.set_cons_succ, List.getElem_toArray, List.getElem_cons_zero, List.getElem_cons_succ])
            refine wpAnyH_done (by kernel_rfl) ?_ _
            clear hHeld
            clear h6 HTH6 HY HM4 HM3 HM2 HM1 HV4 HV3 HV2 HV1
            revert HSEEN
            clear v4 v3 v2 v1
            revert Y
            revert b6
            revert m3
            revert m2
            revert m1
            exact key.get
      · obtain ⟨v1, HV1⟩ : ∃ u, Hid (u = (w3.alloc (.cells (madeCells #[.int .i64 0] l.length) 3)).drew) := ⟨_, rfl⟩
        obtain ⟨m2, HQ⟩ : ∃ q, Hid (q = w3.heap.size) := ⟨_, rfl⟩
        have HM1 := Lib.hid (show Made w3 v1 ((m2, (.cells (madeCells #[.int .i64 0] l.length) 3)) :: []) by rw [HV1.out]; exact (Made.alloc (Made.start w3) HQ.out).drew)
        go_simp
        rw [← HV1.out, ← HQ.out]
        refine hK.out _ _ trivial (fun hHeld => ?_)
        clear hK K HQ
        (try simp only [Act.put, List.setIfInBounds_toArray, List.set_cons_zero, List.set_cons_succ, List.getElem_toArray, List.getElem_cons_zero, List.getElem_cons_succ])
        refine wpAnyH_ready (rs := [2, 8, 10]) (by kernel_rfl) (by simp) (AllReadyH.cons rfl (fun K hK => ?_) (AllReadyH.cons rfl (fun K hK => ?_) (AllReadyH.cons rfl (fun K hK => ?_) AllReadyH.nil)))
        · obtain ⟨v2, HV2⟩ : ∃ u, Hid (u = (v1.alloc (.cells (madeCells #[.int .i64 0] l.length) 3))) := ⟨_, rfl⟩
          obtain ⟨m1, HQ⟩ : ∃ q, Hid (q = v1.heap.size) := ⟨_, rfl⟩
          have HM2 := Lib.hid (show Made w3 v2 ((m1, (.cells (madeCells #[.int .i64 0] l.length) 3)) :: [(m2, (.cells (madeCells #[.int .i64 0] l.length) 3))]) by rw [HV2.out]; exact Made.alloc HM1.out HQ.out)
          go_simp
          rw [← HV2.out, ← HQ.out]
          refine hK.out _ _ trivial (fun hHeld => ?_)
          clear hK K HQ
          (try simp only [Act.put, List.setIfInBounds_toArray, List.set_cons_zero, List.set_cons_succ, List.getElem_toArray, List.getElem_cons_zero, List.getElem_cons_succ])
          refine wpAnyH_ready (rs := [8, 10]) (by kernel_rfl) (by simp) (AllReadyH.cons rfl (fun K hK => ?_) (AllReadyH.cons rfl (fun K hK => ?_) AllReadyH.nil))
          · obtain ⟨v3, HV3⟩ : ∃ u, Hid (u = (v2.alloc (.cells (madeCells #[.int .i64 0] b.length) 3))) := ⟨_, rfl⟩
            obtain ⟨m3, HQ⟩ : ∃ q, Hid (q = v2.heap.size) := ⟨_, rfl⟩
            have HM3 := Lib.hid (show Made w3 v3 ((m3, (.cells (madeCells #[.int .i64 0] b.length) 3)) :: [(m1, (.cells (madeCells #[.int .i64 0] l.length) 3)), (m2, (.cells (madeCells #[.int .i64 0] l.length) 3))]) by rw [HV3.out]; exact Made.alloc HM2.out HQ.out)
            go_simp
            rw [← HV3.out, ← HQ.out]
            refine hK.out _ _ trivial (fun hHeld => ?_)
            clear hK K HQ
            (try simp only [Act.put, List.setIfInBounds_toArray, List.set_cons_zero, List.set_cons_succ, List.getElem_toArray, List.getElem_cons_zero, List.getElem_cons_succ])
            first
              | (refine wpAnyH_take (i := 9) rfl (by kernel_rfl) (by kernel_rfl) (by kernel_rfl) (fun _ _ _ h => h) (Or.inl ⟨by rfl, by intro w hSw; (go_simp <;> with_reducible rfl)⟩) (by assumption) ?_)
              | (refine wpAnyH_take (i := 9) rfl (by kernel_rfl) (by kernel_rfl) (by kernel_rfl) (fun _ _ _ h => h) (Or.inr ⟨by rfl, rfl⟩) (by assumption) ?_)
            (try simp only [Act.put, List.setIfInBounds_toArray, List.set_cons_zero, List.set_cons_succ, List.getElem_toArray, List.getElem_cons_zero, List.getElem_cons_succ])
            refine wpAnyH_ready (rs := [10]) (by kernel_rfl) (by simp) (AllReadyH.cons rfl (fun K hK => ?_) AllReadyH.nil)
            obtain ⟨v4, HV4⟩ : ∃ u, Hid (u = (v3.alloc (.cells #[.slice none 0 0, .slice none 0 0, .slice none 0 0, .slice none 0 0] 42))) := ⟨_, rfl⟩
            obtain ⟨b6, HQ⟩ : ∃ q, Hid (q = v3.heap.size) := ⟨_, rfl⟩
            have HM4 := Lib.hid (show Made w3 v4 ((b6, (.cells #[.slice none 0 0, .slice none 0 0, .slice none 0 0, .slice none 0 0] 42)) :: [(m3, (.cells (madeCells #[.int .i64 0] b.length) 3)), (m1, (.cells (madeCells #[.int .i64 0] l.length) 3)), (m2, (.cells (madeCells #[.int .i64 0] l.length) 3))]) by rw [HV4.out]; exact Made.alloc HM3.out HQ.out)
            go_simp
            rw [← HV4.out, ← HQ.out]
            refine hK.out _ _ trivial (fun hHeld => ?_)
            clear hK K HQ
            (try simp only [Act.put, List.setIfInBounds_toArray, List.set_cons_zero, List.set_cons_succ, List.getElem_toArray, List.getElem_cons_zero, List.getElem_cons_succ])
            obtain ⟨Y, HY⟩ : ∃ u, Hid (u = v4.setCells b6 0 (#[.slice none 0 0, .slice (some ⟨m1, 0, none⟩) l.length l.length, .slice (some ⟨m2, 0, none⟩) l.length l.length, .slice (some ⟨m3, 0, none⟩) b.length b.length] : Array Value).toList) := ⟨_, rfl⟩
            have h6 := (HM4.out.2.1 (b6, (.cells #[.slice none 0 0, .slice none 0 0, .slice none 0 0, .slice none 0 0] 42)) (by simp))
            have HTH6 : Hid (v4.there b6 0 (#[.slice none 0 0, .slice (some ⟨m1, 0, none⟩) l.length l.length, .slice (some ⟨m2, 0, none⟩) l.length l.length, .slice (some ⟨m3, 0, none⟩) b.length b.length] : Array Value).size) := Lib.hid (there_at h6.2 rfl)
            have HSEEN : Hid (Seen w3 Y b6 m1 m2 m3 (cntL [] 1 l.length) (cntL [] 2 l.length) (cntL [] 3 b.length)) := Lib.hid (by
              rw [HY.out]
              exact seen_start HM4.out.1 h6 (HM4.out.2.1 (m1, (.cells (madeCells #[.int .i64 0] l.length) 3)) (by simp)) (HM4.out.2.1 (m2, (.cells (madeCells #[.int .i64 0] l.length) 3)) (by simp)) (HM4.out.2.1 (m3, (.cells (madeCells #[.int .i64 0] b.length) 3)) (by simp)) (by have := HM4.out.2.2; simp at this; omega))
            refine wpAnyH_ready (rs := [11]) (by kernel_rfl) (by simp) (AllReadyH.cons rfl (fun K hK => ?_) AllReadyH.nil)
            refine wp_store_mid 42 _ _ rfl b6 0 #[.slice none 0 0, .slice (some ⟨m1, 0, none⟩) l.length l.length, .slice (some ⟨m2, 0, none⟩) l.length l.length, .slice (some ⟨m3, 0, none⟩) b.length b.length] (by kernel_rfl) (by kernel_rfl) HTH6.out HI42.out (by simp [Value.oneCell']) ?_
            (try simp only [List.toList_toArray])
            rw [← HY.out]
            refine hK.out _ _ trivial (fun hHeld => ?_)
            clear hK K
            (try simp only [Act.put, List.setIfInBounds_toArray, List.set_cons_zero, List.set_cons_succ, List.getElem_toArray, List.getElem_cons_zero, List.getElem_cons_succ])
            refine wpAnyH_done (by kernel_rfl) ?_ _
            clear hHeld
            clear h6 HTH6 HY HM4 HM3 HM2 HM1 HV4 HV3 HV2 HV1
            revert HSEEN
            clear v4 v3 v2 v1
            revert Y
            revert b6
            revert m3
            revert m2
            revert m1
            exact key.get
          · obtain ⟨v3, HV3⟩ : ∃ u, Hid (u = (v2.alloc (.cells #[.slice none 0 0, .slice none 0 0, .slice none 0 0, .slice none 0 0] 42))) := ⟨_, rfl⟩
            obtain ⟨b6, HQ⟩ : ∃ q, Hid (q = v2.heap.size) := ⟨_, rfl⟩
            have HM3 := Lib.hid (show Made w3 v3 ((b6, (.cells #[.slice none 0 0, .slice none 0 0, .slice none 0 0, .slice none 0 0] 42)) :: [(m1, (.cells (madeCells #[.int .i64 0] l.length) 3)), (m2, (.cells (madeCells #[.int .i64 0] l.length) 3))]) by rw [HV3.out]; exact Made.alloc HM2.out HQ.out)
            go_simp
            rw [← HV3.out, ← HQ.out]
            refine hK.out _ _ trivial (fun hHeld => ?_)
            clear hK K HQ
            (try simp only [Act.put, List.setIfInBounds_toArray, List.set_cons_zero, List.set_cons_succ, List.getElem_toArray, List.getElem_cons_zero, List.getElem_cons_succ])
            refine wpAnyH_ready (rs := [8]) (by kernel_rfl) (by simp) (AllReadyH.cons rfl (fun K hK => ?_) AllReadyH.nil)
            obtain ⟨v4, HV4⟩ : ∃ u, Hid (u = (v3.alloc (.cells (madeCells #[.int .i64 0] b.length) 3))) := ⟨_, rfl⟩
            obtain ⟨m3, HQ⟩ : ∃ q, Hid (q = v3.heap.size) := ⟨_, rfl⟩
            have HM4 := Lib.hid (show Made w3 v4 ((m3, (.cells (madeCells #[.int .i64 0] b.length) 3)) :: [(b6, (.cells #[.slice none 0 0, .slice none 0 0, .slice none 0 0, .slice none 0 0] 42)), (m1, (.cells (madeCells #[.int .i64 0] l.length) 3)), (m2, (.cells (madeCells #[.int .i64 0] l.length) 3))]) by rw [HV4.out]; exact Made.alloc HM3.out HQ.out)
            go_simp
            rw [← HV4.out, ← HQ.out]
            refine hK.out _ _ trivial (fun hHeld => ?_)
            clear hK K HQ
            (try simp only [Act.put, List.setIfInBounds_toArray, List.set_cons_zero, List.set_cons_succ, List.getElem_toArray, List.getElem_cons_zero, List.getElem_cons_succ])
            first
              | (refine wpAnyH_take (i := 9) rfl (by kernel_rfl) (by kernel_rfl) (by kernel_rfl) (fun _ _ _ h => h) (Or.inl ⟨by rfl, by intro w hSw; (go_simp <;> with_reducible rfl)⟩) (by assumption) ?_)
              | (refine wpAnyH_take (i := 9) rfl (by kernel_rfl) (by kernel_rfl) (by kernel_rfl) (fun _ _ _ h => h) (Or.inr ⟨by rfl, rfl⟩) (by assumption) ?_)
            (try simp only [Act.put, List.setIfInBounds_toArray, List.set_cons_zero, List.set_cons_succ, List.getElem_toArray, List.getElem_cons_zero, List.getElem_cons_succ])
            obtain ⟨Y, HY⟩ : ∃ u, Hid (u = v4.setCells b6 0 (#[.slice none 0 0, .slice (some ⟨m1, 0, none⟩) l.length l.length, .slice (some ⟨m2, 0, none⟩) l.length l.length, .slice (some ⟨m3, 0, none⟩) b.length b.length] : Array Value).toList) := ⟨_, rfl⟩
            have h6 := (HM4.out.2.1 (b6, (.cells #[.slice none 0 0, .slice none 0 0, .slice none 0 0, .slice none 0 0] 42)) (by simp))
            have HTH6 : Hid (v4.there b6 0 (#[.slice none 0 0, .slice (some ⟨m1, 0, none⟩) l.length l.length, .slice (some ⟨m2, 0, none⟩) l.length l.length, .slice (some ⟨m3, 0, none⟩) b.length b.length] : Array Value).size) := Lib.hid (there_at h6.2 rfl)
            have HSEEN : Hid (Seen w3 Y b6 m1 m2 m3 (cntL [] 1 l.length) (cntL [] 2 l.length) (cntL [] 3 b.length)) := Lib.hid (by
              rw [HY.out]
              exact seen_start HM4.out.1 h6 (HM4.out.2.1 (m1, (.cells (madeCells #[.int .i64 0] l.length) 3)) (by simp)) (HM4.out.2.1 (m2, (.cells (madeCells #[.int .i64 0] l.length) 3)) (by simp)) (HM4.out.2.1 (m3, (.cells (madeCells #[.int .i64 0] b.length) 3)) (by simp)) (by have := HM4.out.2.2; simp at this; omega))
            refine wpAnyH_ready (rs := [11]) (by kernel_rfl) (by simp) (AllReadyH.cons rfl (fun K hK => ?_) AllReadyH.nil)
            refine wp_store_mid 42 _ _ rfl b6 0 #[.slice none 0 0, .slice (some ⟨m1, 0, none⟩) l.length l.length, .slice (some ⟨m2, 0, none⟩) l.length l.length, .slice (some ⟨m3, 0, none⟩) b.length b.length] (by kernel_rfl) (by kernel_rfl) HTH6.out HI42.out (by simp [Value.oneCell']) ?_
            (try simp only [List.toList_toArray])
            rw [← HY.out]
            refine hK.out _ _ trivial (fun hHeld => ?_)
            clear hK K
            (try simp only [Act.put, List.setIfInBounds_toArray, List.set_cons_zero, List.set_cons_succ, List.getElem_toArray, List.getElem_cons_zero, List.getElem_cons_succ])
            refine wpAnyH_done (by kernel_rfl) ?_ _
            clear hHeld
            clear h6 HTH6 HY HM4 HM3 HM2 HM1 HV4 HV3 HV2 HV1
            revert HSEEN
            clear v4 v3 v2 v1
            revert Y
            revert b6
            revert m3
            revert m2
            revert m1
            exact key.get
        · obtain ⟨v2, HV2⟩ : ∃ u, Hid (u = (v1.alloc (.cells (madeCells #[.int .i64 0] b.length) 3))) := ⟨_, rfl⟩
          obtain ⟨m3, HQ⟩ : ∃ q, Hid (q = v1.heap.size) := ⟨_, rfl⟩
          have HM2 := Lib.hid (show Made w3 v2 ((m3, (.cells (madeCells #[.int .i64 0] b.length) 3)) :: [(m2, (.cells (madeCells #[.int .i64 0] l.length) 3))]) by rw [HV2.out]; exact Made.alloc HM1.out HQ.out)
          go_simp
          rw [← HV2.out, ← HQ.out]
          refine hK.out _ _ trivial (fun hHeld => ?_)
          clear hK K HQ
          (try simp only [Act.put, List.setIfInBounds_toArray, List.set_cons_zero, List.set_cons_succ, List.getElem_toArray, List.getElem_cons_zero, List.getElem_cons_succ])
          refine wpAnyH_ready (rs := [2, 10]) (by kernel_rfl) (by simp) (AllReadyH.cons rfl (fun K hK => ?_) (AllReadyH.cons rfl (fun K hK => ?_) AllReadyH.nil))
          · obtain ⟨v3, HV3⟩ : ∃ u, Hid (u = (v2.alloc (.cells (madeCells #[.int .i64 0] l.length) 3))) := ⟨_, rfl⟩
            obtain ⟨m1, HQ⟩ : ∃ q, Hid (q = v2.heap.size) := ⟨_, rfl⟩
            have HM3 := Lib.hid (show Made w3 v3 ((m1, (.cells (madeCells #[.int .i64 0] l.length) 3)) :: [(m3, (.cells (madeCells #[.int .i64 0] b.length) 3)), (m2, (.cells (madeCells #[.int .i64 0] l.length) 3))]) by rw [HV3.out]; exact Made.alloc HM2.out HQ.out)
            go_simp
            rw [← HV3.out, ← HQ.out]
            refine hK.out _ _ trivial (fun hHeld => ?_)
            clear hK K HQ
            (try simp only [Act.put, List.setIfInBounds_toArray, List.set_cons_zero, List.set_cons_succ, List.getElem_toArray, List.getElem_cons_zero, List.getElem_cons_succ])
            first
              | (refine wpAnyH_take (i := 9) rfl (by kernel_rfl) (by kernel_rfl) (by kernel_rfl) (fun _ _ _ h => h) (Or.inl ⟨by rfl, by intro w hSw; (go_simp <;> with_reducible rfl)⟩) (by assumption) ?_)
              | (refine wpAnyH_take (i := 9) rfl (by kernel_rfl) (by kernel_rfl) (by kernel_rfl) (fun _ _ _ h => h) (Or.inr ⟨by rfl, rfl⟩) (by assumption) ?_)
            (try simp only [Act.put, List.setIfInBounds_toArray, List.set_cons_zero, List.set_cons_succ, List.getElem_toArray, List.getElem_cons_zero, List.getElem_cons_succ])
            refine wpAnyH_ready (rs := [10]) (by kernel_rfl) (by simp) (AllReadyH.cons rfl (fun K hK => ?_) AllReadyH.nil)
            obtain ⟨v4, HV4⟩ : ∃ u, Hid (u = (v3.alloc (.cells #[.slice none 0 0, .slice none 0 0, .slice none 0 0, .slice none 0 0] 42))) := ⟨_, rfl⟩
            obtain ⟨b6, HQ⟩ : ∃ q, Hid (q = v3.heap.size) := ⟨_, rfl⟩
            have HM4 := Lib.hid (show Made w3 v4 ((b6, (.cells #[.slice none 0 0, .slice none 0 0, .slice none 0 0, .slice none 0 0] 42)) :: [(m1, (.cells (madeCells #[.int .i64 0] l.length) 3)), (m3, (.cells (madeCells #[.int .i64 0] b.length) 3)), (m2, (.cells (madeCells #[.int .i64 0] l.length) 3))]) by rw [HV4.out]; exact Made.alloc HM3.out HQ.out)
            go_simp
            rw [← HV4.out, ← HQ.out]
            refine hK.out _ _ trivial (fun hHeld => ?_)
            clear hK K HQ
            (try simp only [Act.put, List.setIfInBounds_toArray, List.set_cons_zero, List.set_cons_succ, List.getElem_toArray, List.getElem_cons_zero, List.getElem_cons_succ])
            obtain ⟨Y, HY⟩ : ∃ u, Hid (u = v4.setCells b6 0 (#[.slice none 0 0, .slice (some ⟨m1, 0, none⟩) l.length l.length, .slice (some ⟨m2, 0, none⟩) l.length l.length, .slice (some ⟨m3, 0, none⟩) b.length b.length] : Array Value).toList) := ⟨_, rfl⟩
            have h6 := (HM4.out.2.1 (b6, (.cells #[.slice none 0 0, .slice none 0 0, .slice none 0 0, .slice none 0 0] 42)) (by simp))
            have HTH6 : Hid (v4.there b6 0 (#[.slice none 0 0, .slice (some ⟨m1, 0, none⟩) l.length l.length, .slice (some ⟨m2, 0, none⟩) l.length l.length, .slice (some ⟨m3, 0, none⟩) b.length b.length] : Array Value).size) := Lib.hid (there_at h6.2 rfl)
            have HSEEN : Hid (Seen w3 Y b6 m1 m2 m3 (cntL [] 1 l.length) (cntL [] 2 l.length) (cntL [] 3 b.length)) := Lib.hid (by
              rw [HY.out]
              exact seen_start HM4.out.1 h6 (HM4.out.2.1 (m1, (.cells (madeCells #[.int .i64 0] l.length) 3)) (by simp)) (HM4.out.2.1 (m2, (.cells (madeCells #[.int .i64 0] l.length) 3)) (by simp)) (HM4.out.2.1 (m3, (.cells (madeCells #[.int .i64 0] b.length) 3)) (by simp)) (by have := HM4.out.2.2; simp at this; omega))
            refine wpAnyH_ready (rs := [11]) (by kernel_rfl) (by simp) (AllReadyH.cons rfl (fun K hK => ?_) AllReadyH.nil)
            refine wp_store_mid 42 _ _ rfl b6 0 #[.slice none 0 0, .slice (some ⟨m1, 0, none⟩) l.length l.length, .slice (some ⟨m2, 0, none⟩) l.length l.length, .slice (some ⟨m3, 0, none⟩) b.length b.length] (by kernel_rfl) (by kernel_rfl) HTH6.out HI42.out (by simp [Value.oneCell']) ?_
            (try simp only [List.toList_toArray])
            rw [← HY.out]
            refine hK.out _ _ trivial (fun hHeld => ?_)
            clear hK K
            (try simp only [Act.put, List.setIfInBounds_toArray, List.set_cons_zero, List.set_cons_succ, List.getElem_toArray, List.getElem_cons_zero, List.getElem_cons_succ])
            refine wpAnyH_done (by kernel_rfl) ?_ _
            clear hHeld
            clear h6 HTH6 HY HM4 HM3 HM2 HM1 HV4 HV3 HV2 HV1
            revert HSEEN
            clear v4 v3 v2 v1
            revert Y
            revert b6
            revert m3
            revert m2
            revert m1
            exact key.get
          · obtain ⟨v3, HV3⟩ : ∃ u, Hid (u = (v2.alloc (.cells #[.slice none 0 0, .slice none 0 0, .slice none 0 0, .slice none 0 0] 42))) := ⟨_, rfl⟩
            obtain ⟨b6, HQ⟩ : ∃ q, Hid (q = v2.heap.size) := ⟨_, rfl⟩
            have HM3 := Lib.hid (show Made w3 v3 ((b6, (.cells #[.slice none 0 0, .slice none 0 0, .slice none 0 0, .slice none 0 0] 42)) :: [(m3, (.cells (madeCells #[.int .i64 0] b.length) 3)), (m2, (.cells (madeCells #[.int .i64 0] l.length) 3))]) by rw [HV3.out]; exact Made.alloc HM2.out HQ.out)
            go_simp
            rw [← HV3.out, ← HQ.out]
            refine hK.out _ _ trivial (fun hHeld => ?_)
            clear hK K HQ
            (try simp only [Act.put, List.setIfInBounds_toArray, List.set_cons_zero, List.set_cons_succ, List.getElem_toArray, List.getElem_cons_zero, List.getElem_cons_succ])
            refine wpAnyH_ready (rs := [2]) (by kernel_rfl) (by simp) (AllReadyH.cons rfl (fun K hK => ?_) AllReadyH.nil)
            obtain ⟨v4, HV4⟩ : ∃ u, Hid (u = (v3.alloc (.cells (madeCells #[.int .i64 0] l.length) 3))) := ⟨_, rfl⟩
            obtain ⟨m1, HQ⟩ : ∃ q, Hid (q = v3.heap.size) := ⟨_, rfl⟩
            have HM4 := Lib.hid (show Made w3 v4 ((m1, (.cells (madeCells #[.int .i64 0] l.length) 3)) :: [(b6, (.cells #[.slice none 0 0, .slice none 0 0, .slice none 0 0, .slice none 0 0] 42)), (m3, (.cells (madeCells #[.int .i64 0] b.length) 3)), (m2, (.cells (madeCells #[.int .i64 0] l.length) 3))]) by rw [HV4.out]; exact Made.alloc HM3.out HQ.out)
            go_simp
            rw [← HV4.out, ← HQ.out]
            refine hK.out _ _ trivial (fun hHeld => ?_)
            clear hK K HQ
            (try simp only [Act.put, List.setIfInBounds_toArray, List.set_cons_zero, List.set_cons_succ, List.getElem_toArray, List.getElem_cons_zero, List.getElem_cons_succ])
            first
              | (refine wpAnyH_take (i := 9) rfl (by kernel_rfl) (by kernel_rfl) (by kernel_rfl) (fun _ _ _ h => h) (Or.inl ⟨by rfl, by intro w hSw; (go_simp <;> with_reducible rfl)⟩) (by assumption) ?_)
              | (refine wpAnyH_take (i := 9) rfl (by kernel_rfl) (by kernel_rfl) (by kernel_rfl) (fun _ _ _ h => h) (Or.inr ⟨by rfl, rfl⟩) (by assumption) ?_)
            (try simp only [Act.put, List.setIfInBounds_toArray, List.set_cons_zero, List.set_cons_succ, List.getElem_toArray, List.getElem_cons_zero, List.getElem_cons_succ])
            obtain ⟨Y, HY⟩ : ∃ u, Hid (u = v4.setCells b6 0 (#[.slice none 0 0, .slice (some ⟨m1, 0, none⟩) l.length l.length, .slice (some ⟨m2, 0, none⟩) l.length l.length, .slice (some ⟨m3, 0, none⟩) b.length b.length] : Array Value).toList) := ⟨_, rfl⟩
            have h6 := (HM4.out.2.1 (b6, (.cells #[.slice none 0 0, .slice none 0 0, .slice none 0 0, .slice none 0 0] 42)) (by simp))
            have HTH6 : Hid (v4.there b6 0 (#[.slice none 0 0, .slice (some ⟨m1, 0, none⟩) l.length l.length, .slice (some ⟨m2, 0, none⟩) l.length l.length, .slice (some ⟨m3, 0, none⟩) b.length b.length] : Array Value).size) := Lib.hid (there_at h6.2 rfl)
            have HSEEN : Hid (Seen w3 Y b6 m1 m2 m3 (cntL [] 1 l.length) (cntL [] 2 l.length) (cntL [] 3 b.length)) := Lib.hid (by
              rw [HY.out]
              exact seen_start HM4.out.1 h6 (HM4.out.2.1 (m1, (.cells (madeCells #[.int .i64 0] l.length) 3)) (by simp)) (HM4.out.2.1 (m2, (.cells (madeCells #[.int .i64 0] l.length) 3)) (by simp)) (HM4.out.2.1 (m3, (.cells (madeCells #[.int .i64 0] b.length) 3)) (by simp)) (by have := HM4.out.2.2; simp at this; omega))
            refine wpAnyH_ready (rs := [11]) (by kernel_rfl) (by simp) (AllReadyH.cons rfl (fun K hK => ?_) AllReadyH.nil)
            refine wp_store_mid 42 _ _ rfl b6 0 #[.slice none 0 0, .slice (some ⟨m1, 0, none⟩) l.length l.length, .slice (some ⟨m2, 0, none⟩) l.length l.length, .slice (some ⟨m3, 0, none⟩) b.length b.length] (by kernel_rfl) (by kernel_rfl) HTH6.out HI42.out (by simp [Value.oneCell']) ?_
            (try simp only [List.toList_toArray])
            rw [← HY.out]
            refine hK.out _ _ trivial (fun hHeld => ?_)
            clear hK K
            (try simp only [Act.put, List.setIfInBounds_toArray, List.set_cons_zero, List.set_cons_succ, List.getElem_toArray, List.getElem_cons_zero, List.getElem_cons_succ])
            refine wpAnyH_done (by kernel_rfl) ?_ _
            clear hHeld
            clear h6 HTH6 HY HM4 HM3 HM2 HM1 HV4 HV3 HV2 HV1
            revert HSEEN
            clear v4 v3 v2 v1
            revert Y
            revert b6
            revert m3
            revert m2
            revert m1
            exact key.get
        · obtain ⟨v2, HV2⟩ : ∃ u, Hid (u = (v1.alloc (.cells #[.slice none 0 0, .slice none 0 0, .slice none 0 0, .slice none 0 0] 42))) := ⟨_, rfl⟩
          obtain ⟨b6, HQ⟩ : ∃ q, Hid (q = v1.heap.size) := ⟨_, rfl⟩
          have HM2 := Lib.hid (show Made w3 v2 ((b6, (.cells #[.slice none 0 0, .slice none 0 0, .slice none 0 0, .slice none 0 0] 42)) :: [(m2, (.cells (madeCells #[.int .i64 0] l.length) 3))]) by rw [HV2.out]; exact Made.alloc HM1.out HQ.out)
          go_simp
          rw [← HV2.out, ← HQ.out]
          refine hK.out _ _ trivial (fun hHeld => ?_)
          clear hK K HQ
          (try simp only [Act.put, List.setIfInBounds_toArray, List.set_cons_zero, List.set_cons_succ, List.getElem_toArray, List.getElem_cons_zero, List.getElem_cons_succ])
          refine wpAnyH_ready (rs := [2, 8]) (by kernel_rfl) (by simp) (AllReadyH.cons rfl (fun K hK => ?_) (AllReadyH.cons rfl (fun K hK => ?_) AllReadyH.nil))
          · obtain ⟨v3, HV3⟩ : ∃ u, Hid (u = (v2.alloc (.cells (madeCells #[.int .i64 0] l.length) 3))) := ⟨_, rfl⟩
            obtain ⟨m1, HQ⟩ : ∃ q, Hid (q = v2.heap.size) := ⟨_, rfl⟩
            have HM3 := Lib.hid (show Made w3 v3 ((m1, (.cells (madeCells #[.int .i64 0] l.length) 3)) :: [(b6, (.cells #[.slice none 0 0, .slice none 0 0, .slice none 0 0, .slice none 0 0] 42)), (m2, (.cells (madeCells #[.int .i64 0] l.length) 3))]) by rw [HV3.out]; exact Made.alloc HM2.out HQ.out)
            go_simp
            rw [← HV3.out, ← HQ.out]
            refine hK.out _ _ trivial (fun hHeld => ?_)
            clear hK K HQ
            (try simp only [Act.put, List.setIfInBounds_toArray, List.set_cons_zero, List.set_cons_succ, List.getElem_toArray, List.getElem_cons_zero, List.getElem_cons_succ])
            refine wpAnyH_ready (rs := [8]) (by kernel_rfl) (by simp) (AllReadyH.cons rfl (fun K hK => ?_) AllReadyH.nil)
            obtain ⟨v4, HV4⟩ : ∃ u, Hid (u = (v3.alloc (.cells (madeCells #[.int .i64 0] b.length) 3))) := ⟨_, rfl⟩
            obtain ⟨m3, HQ⟩ : ∃ q, Hid (q = v3.heap.size) := ⟨_, rfl⟩
            have HM4 := Lib.hid (show Made w3 v4 ((m3, (.cells (madeCells #[.int .i64 0] b.length) 3)) :: [(m1, (.cells (madeCells #[.int .i64 0] l.length) 3)), (b6, (.cells #[.slice none 0 0, .slice none 0 0, .slice none 0 0, .slice none 0 0] 42)), (m2, (.cells (madeCells #[.int .i64 0] l.length) 3))]) by rw [HV4.out]; exact Made.alloc HM3.out HQ.out)
            go_simp
            rw [← HV4.out, ← HQ.out]
            refine hK.out _ _ trivial (fun hHeld => ?_)
            clear hK K HQ
            (try simp only [Act.put, List.setIfInBounds_toArray, List.set_cons_zero, List.set_cons_succ, List.getElem_toArray, List.getElem_cons_zero, List.getElem_cons_succ])
            first
              | (refine wpAnyH_take (i := 9) rfl (by kernel_rfl) (by kernel_rfl) (by kernel_rfl) (fun _ _ _ h => h) (Or.inl ⟨by rfl, by intro w hSw; (go_simp <;> with_reducible rfl)⟩) (by assumption) ?_)
              | (refine wpAnyH_take (i := 9) rfl (by kernel_rfl) (by kernel_rfl) (by kernel_rfl) (fun _ _ _ h => h) (Or.inr ⟨by rfl, rfl⟩) (by assumption) ?_)
            (try simp only [Act.put, List.setIfInBounds_toArray, List.set_cons_zero, List.set_cons_succ, List.getElem_toArray, List.getElem_cons_zero, List.getElem_cons_succ])
            obtain ⟨Y, HY⟩ : ∃ u, Hid (u = v4.setCells b6 0 (#[.slice none 0 0, .slice (some ⟨m1, 0, none⟩) l.length l.length, .slice (some ⟨m2, 0, none⟩) l.length l.length, .slice (some ⟨m3, 0, none⟩) b.length b.length] : Array Value).toList) := ⟨_, rfl⟩
            have h6 := (HM4.out.2.1 (b6, (.cells #[.slice none 0 0, .slice none 0 0, .slice none 0 0, .slice none 0 0] 42)) (by simp))
            have HTH6 : Hid (v4.there b6 0 (#[.slice none 0 0, .slice (some ⟨m1, 0, none⟩) l.length l.length, .slice (some ⟨m2, 0, none⟩) l.length l.length, .slice (some ⟨m3, 0, none⟩) b.length b.length] : Array Value).size) := Lib.hid (there_at h6.2 rfl)
            have HSEEN : Hid (Seen w3 Y b6 m1 m2 m3 (cntL [] 1 l.length) (cntL [] 2 l.length) (cntL [] 3 b.length)) := Lib.hid (by
              rw [HY.out]
              exact seen_start HM4.out.1 h6 (HM4.out.2.1 (m1, (.cells (madeCells #[.int .i64 0] l.length) 3)) (by simp)) (HM4.out.2.1 (m2, (.cells (madeCells #[.int .i64 0] l.length) 3)) (by simp)) (HM4.out.2.1 (m3, (.cells (madeCells #[.int .i64 0] b.length) 3)) (by simp)) (by have := HM4.out.2.2; simp at this; omega))
            refine wpAnyH_ready (rs := [11]) (by kernel_rfl) (by simp) (AllReadyH.cons rfl (fun K hK => ?_) AllReadyH.nil)
            refine wp_store_mid 42 _ _ rfl b6 0 #[.slice none 0 0, .slice (some ⟨m1, 0, none⟩) l.length l.length, .slice (some ⟨m2, 0, none⟩) l.length l.length, .slice (some ⟨m3, 0, none⟩) b.length b.length] (by kernel_rfl) (by kernel_rfl) HTH6.out HI42.out (by simp [Value.oneCell']) ?_
            (try simp only [List.toList_toArray])
            rw [← HY.out]
            refine hK.out _ _ trivial (fun hHeld => ?_)
            clear hK K
            (try simp only [Act.put, List.setIfInBounds_toArray, List.set_cons_zero, List.set_cons_succ, List.getElem_toArray, List.getElem_cons_zero, List.getElem_cons_succ])
            refine wpAnyH_done (by kernel_rfl) ?_ _
            clear hHeld
            clear h6 HTH6 HY HM4 HM3 HM2 HM1 HV4 HV3 HV2 HV1
            revert HSEEN
            clear v4 v3 v2 v1
            revert Y
            revert b6
            revert m3
            revert m2
            revert m1
            exact key.get
          · obtain ⟨v3, HV3⟩ : ∃ u, Hid (u = (v2.alloc (.cells (madeCells #[.int .i64 0] b.length) 3))) := ⟨_, rfl⟩
            obtain ⟨m3, HQ⟩ : ∃ q, Hid (q = v2.heap.size) := ⟨_, rfl⟩
            have HM3 := Lib.hid (show Made w3 v3 ((m3, (.cells (madeCells #[.int .i64 0] b.length) 3)) :: [(b6, (.cells #[.slice none 0 0, .slice none 0 0, .slice none 0 0, .slice none 0 0] 42)), (m2, (.cells (madeCells #[.int .i64 0] l.length) 3))]) by rw [HV3.out]; exact Made.alloc HM2.out HQ.out)
            go_simp
            rw [← HV3.out, ← HQ.out]
            refine hK.out _ _ trivial (fun hHeld => ?_)
            clear hK K HQ
            (try simp only [Act.put, List.setIfInBounds_toArray, List.set_cons_zero, List.set_cons_succ, List.getElem_toArray, List.getElem_cons_zero, List.getElem_cons_succ])
            refine wpAnyH_ready (rs := [2]) (by kernel_rfl) (by simp) (AllReadyH.cons rfl (fun K hK => ?_) AllReadyH.nil)
            obtain ⟨v4, HV4⟩ : ∃ u, Hid (u = (v3.alloc (.cells (madeCells #[.int .i64 0] l.length) 3))) := ⟨_, rfl⟩
            obtain ⟨m1, HQ⟩ : ∃ q, Hid (q = v3.heap.size) := ⟨_, rfl⟩
            have HM4 := Lib.hid (show Made w3 v4 ((m1, (.cells (madeCells #[.int .i64 0] l.length) 3)) :: [(m3, (.cells (madeCells #[.int .i64 0] b.length) 3)), (b6, (.cells #[.slice none 0 0, .slice none 0 0, .slice none 0 0, .slice none 0 0] 42)), (m2, (.cells (madeCells #[.int .i64 0] l.length) 3))]) by rw [HV4.out]; exact Made.alloc HM3.out HQ.out)
            go_simp
            rw [← HV4.out, ← HQ.out]
            refine hK.out _ _ trivial (fun hHeld => ?_)
            clear hK K HQ
            (try simp only [Act.put, List.setIfInBounds_toArray, List.set_cons_zero, List.set_cons_succ, List.getElem_toArray, List.getElem_cons_zero, List.getElem_cons_succ])
            first
              | (refine wpAnyH_take (i := 9) rfl (by kernel_rfl) (by kernel_rfl) (by kernel_rfl) (fun _ _ _ h => h) (Or.inl ⟨by rfl, by intro w hSw; (go_simp <;> with_reducible rfl)⟩) (by assumption) ?_)
              | (refine wpAnyH_take (i := 9) rfl (by kernel_rfl) (by kernel_rfl) (by kernel_rfl) (fun _ _ _ h => h) (Or.inr ⟨by rfl, rfl⟩) (by assumption) ?_)
            (try simp only [Act.put, List.setIfInBounds_toArray, List.set_cons_zero, List.set_cons_succ, List.getElem_toArray, List.getElem_cons_zero, List.getElem_cons_succ])
            obtain ⟨Y, HY⟩ : ∃ u, Hid (u = v4.setCells b6 0 (#[.slice none 0 0, .slice (some ⟨m1, 0, none⟩) l.length l.length, .slice (some ⟨m2, 0, none⟩) l.length l.length, .slice (some ⟨m3, 0, none⟩) b.length b.length] : Array Value).toList) := ⟨_, rfl⟩
            have h6 := (HM4.out.2.1 (b6, (.cells #[.slice none 0 0, .slice none 0 0, .slice none 0 0, .slice none 0 0] 42)) (by simp))
            have HTH6 : Hid (v4.there b6 0 (#[.slice none 0 0, .slice (some ⟨m1, 0, none⟩) l.length l.length, .slice (some ⟨m2, 0, none⟩) l.length l.length, .slice (some ⟨m3, 0, none⟩) b.length b.length] : Array Value).size) := Lib.hid (there_at h6.2 rfl)
            have HSEEN : Hid (Seen w3 Y b6 m1 m2 m3 (cntL [] 1 l.length) (cntL [] 2 l.length) (cntL [] 3 b.length)) := Lib.hid (by
              rw [HY.out]
              exact seen_start HM4.out.1 h6 (HM4.out.2.1 (m1, (.cells (madeCells #[.int .i64 0] l.length) 3)) (by simp)) (HM4.out.2.1 (m2, (.cells (madeCells #[.int .i64 0] l.length) 3)) (by simp)) (HM4.out.2.1 (m3, (.cells (madeCells #[.int .i64 0] b.length) 3)) (by simp)) (by have := HM4.out.2.2; simp at this; omega))
            refine wpAnyH_ready (rs := [11]) (by kernel_rfl) (by simp) (AllReadyH.cons rfl (fun K hK => ?_) AllReadyH.nil)
            refine wp_store_mid 42 _ _ rfl b6 0 #[.slice none 0 0, .slice (some ⟨m1, 0, none⟩) l.length l.length, .slice (some ⟨m2, 0, none⟩) l.length l.length, .slice (some ⟨m3, 0, none⟩) b.length b.length] (by kernel_rfl) (by kernel_rfl) HTH6.out HI42.out (by simp [Value.oneCell']) ?_
            (try simp only [List.toList_toArray])
            rw [← HY.out]
            refine hK.out _ _ trivial (fun hHeld => ?_)
            clear hK K
            (try simp only [Act.put, List.setIfInBounds_toArray, List.set_cons_zero, List.set_cons_succ, List.getElem_toArray, List.getElem_cons_zero, List.getElem_cons_succ])
            refine wpAnyH_done (by kernel_rfl) ?_ _
            clear hHeld
            clear h6 HTH6 HY HM4 HM3 HM2 HM1 HV4 HV3 HV2 HV1
            revert HSEEN
            clear v4 v3 v2 v1
            revert Y
            revert b6
            revert m3
            revert m2
            revert m1
            exact key.get
      · obtain ⟨v1, HV1⟩ : ∃ u, Hid (u = (w3.alloc (.cells (madeCells #[.int .i64 0] b.length) 3)).drew) := ⟨_, rfl⟩
        obtain ⟨m3, HQ⟩ : ∃ q, Hid (q = w3.heap.size) := ⟨_, rfl⟩
        have HM1 := Lib.hid (show Made w3 v1 ((m3, (.cells (madeCells #[.int .i64 0] b.length) 3)) :: []) by rw [HV1.out]; exact (Made.alloc (Made.start w3) HQ.out).drew)
        go_simp
        rw [← HV1.out, ← HQ.out]
        refine hK.out _ _ trivial (fun hHeld => ?_)
        clear hK K HQ
        (try simp only [Act.put, List.setIfInBounds_toArray, List.set_cons_zero, List.set_cons_succ, List.getElem_toArray, List.getElem_cons_zero, List.getElem_cons_succ])
        refine wpAnyH_ready (rs := [2, 5, 10]) (by kernel_rfl) (by simp) (AllReadyH.cons rfl (fun K hK => ?_) (AllReadyH.cons rfl (fun K hK => ?_) (AllReadyH.cons rfl (fun K hK => ?_) AllReadyH.nil)))
        · obtain ⟨v2, HV2⟩ : ∃ u, Hid (u = (v1.alloc (.cells (madeCells #[.int .i64 0] l.length) 3))) := ⟨_, rfl⟩
          obtain ⟨m1, HQ⟩ : ∃ q, Hid (q = v1.heap.size) := ⟨_, rfl⟩
          have HM2 := Lib.hid (show Made w3 v2 ((m1, (.cells (madeCells #[.int .i64 0] l.length) 3)) :: [(m3, (.cells (madeCells #[.int .i64 0] b.length) 3))]) by rw [HV2.out]; exact Made.alloc HM1.out HQ.out)
          go_simp
          rw [← HV2.out, ← HQ.out]
          refine hK.out _ _ trivial (fun hHeld => ?_)
          clear hK K HQ
          (try simp only [Act.put, List.setIfInBounds_toArray, List.set_cons_zero, List.set_cons_succ, List.getElem_toArray, List.getElem_cons_zero, List.getElem_cons_succ])
          refine wpAnyH_ready (rs := [5, 10]) (by kernel_rfl) (by simp) (AllReadyH.cons rfl (fun K hK => ?_) (AllReadyH.cons rfl (fun K hK => ?_) AllReadyH.nil))
          · obtain ⟨v3, HV3⟩ : ∃ u, Hid (u = (v2.alloc (.cells (madeCells #[.int .i64 0] l.length) 3))) := ⟨_, rfl⟩
            obtain ⟨m2, HQ⟩ : ∃ q, Hid (q = v2.heap.size) := ⟨_, rfl⟩
            have HM3 := Lib.hid (show Made w3 v3 ((m2, (.cells (madeCells #[.int .i64 0] l.length) 3)) :: [(m1, (.cells (madeCells #[.int .i64 0] l.length) 3)), (m3, (.cells (madeCells #[.int .i64 0] b.length) 3))]) by rw [HV3.out]; exact Made.alloc HM2.out HQ.out)
            go_simp
            rw [← HV3.out, ← HQ.out]
            refine hK.out _ _ trivial (fun hHeld => ?_)
            clear hK K HQ
            (try simp only [Act.put, List.setIfInBounds_toArray, List.set_cons_zero, List.set_cons_succ, List.getElem_toArray, List.getElem_cons_zero, List.getElem_cons_succ])
            first
              | (refine wpAnyH_take (i := 9) rfl (by kernel_rfl) (by kernel_rfl) (by kernel_rfl) (fun _ _ _ h => h) (Or.inl ⟨by rfl, by intro w hSw; (go_simp <;> with_reducible rfl)⟩) (by assumption) ?_)
              | (refine wpAnyH_take (i := 9) rfl (by kernel_rfl) (by kernel_rfl) (by kernel_rfl) (fun _ _ _ h => h) (Or.inr ⟨by rfl, rfl⟩) (by assumption) ?_)
            (try simp only [Act.put, List.setIfInBounds_toArray, List.set_cons_zero, List.set_cons_succ, List.getElem_toArray, List.getElem_cons_zero, List.getElem_cons_succ])
            refine wpAnyH_ready (rs := [10]) (by kernel_rfl) (by simp) (AllReadyH.cons rfl (fun K hK => ?_) AllReadyH.nil)
            obtain ⟨v4, HV4⟩ : ∃ u, Hid (u = (v3.alloc (.cells #[.slice none 0 0, .slice none 0 0, .slice none 0 0, .slice none 0 0] 42))) := ⟨_, rfl⟩
            obtain ⟨b6, HQ⟩ : ∃ q, Hid (q = v3.heap.size) := ⟨_, rfl⟩
            have HM4 := Lib.hid (show Made w3 v4 ((b6, (.cells #[.slice none 0 0, .slice none 0 0, .slice none 0 0, .slice none 0 0] 42)) :: [(m2, (.cells (madeCells #[.int .i64 0] l.length) 3)), (m1, (.cells (madeCells #[.int .i64 0] l.length) 3)), (m3, (.cells (madeCells #[.int .i64 0] b.length) 3))]) by rw [HV4.out]; exact Made.alloc HM3.out HQ.out)
            go_simp
            rw [← HV4.out, ← HQ.out]
            refine hK.out _ _ trivial (fun hHeld => ?_)
            clear hK K HQ
            (try simp only [Act.put, List.setIfInBounds_toArray, List.set_cons_zero, List.set_cons_succ, List.getElem_toArray, List.getElem_cons_zero, List.getElem_cons_succ])
            obtain ⟨Y, HY⟩ : ∃ u, Hid (u = v4.setCells b6 0 (#[.slice none 0 0, .slice (some ⟨m1, 0, none⟩) l.length l.length, .slice (some ⟨m2, 0, none⟩) l.length l.length, .slice (some ⟨m3, 0, none⟩) b.length b.length] : Array Value).toList) := ⟨_, rfl⟩
            have h6 := (HM4.out.2.1 (b6, (.cells #[.slice none 0 0, .slice none 0 0, .slice none 0 0, .slice none 0 0] 42)) (by simp))
            have HTH6 : Hid (v4.there b6 0 (#[.slice none 0 0, .slice (some ⟨m1, 0, none⟩) l.length l.length, .slice (some ⟨m2, 0, none⟩) l.length l.length, .slice (some ⟨m3, 0, none⟩) b.length b.length] : Array Value).size) := Lib.hid (there_at h6.2 rfl)
            have HSEEN : Hid (Seen w3 Y b6 m1 m2 m3 (cntL [] 1 l.length) (cntL [] 2 l.length) (cntL [] 3 b.length)) := Lib.hid (by
              rw [HY.out]
              exact seen_start HM4.out.1 h6 (HM4.out.2.1 (m1, (.cells (madeCells #[.int .i64 0] l.length) 3)) (by simp)) (HM4.out.2.1 (m2, (.cells (madeCells #[.int .i64 0] l.length) 3)) (by simp)) (HM4.out.2.1 (m3, (.cells (madeCells #[.int .i64 0] b.length) 3)) (by simp)) (by have := HM4.out.2.2; simp at this; omega))
            refine wpAnyH_ready (rs := [11]) (by kernel_rfl) (by simp) (AllReadyH.cons rfl (fun K hK => ?_) AllReadyH.nil)
            refine wp_store_mid 42 _ _ rfl b6 0 #[.slice none 0 0, .slice (some ⟨m1, 0, none⟩) l.length l.length, .slice (some ⟨m2, 0, none⟩) l.length l.length, .slice (some ⟨m3, 0, none⟩) b.length b.length] (by kernel_rfl) (by kernel_rfl) HTH6.out HI42.out (by simp [Value.oneCell']) ?_
            (try simp only [List.toList_toArray])
            rw [← HY.out]
            refine hK.out _ _ trivial (fun hHeld => ?_)
            clear hK K
            (try simp only [Act.put, List.setIfInBounds_toArray, List.set_cons_zero, List.set_cons_succ, List.getElem_toArray, List.getElem_cons_zero, List.getElem_cons_succ])
            refine wpAnyH_done (by kernel_rfl) ?_ _
            clear hHeld
            clear h6 HTH6 HY HM4 HM3 HM2 HM1 HV4 HV3 HV2 HV1
            revert HSEEN
            clear v4 v3 v2 v1
            revert Y
            revert b6
            revert m3
            revert m2
            revert m1
            exact key.get
          · obtain ⟨v3, HV3⟩ : ∃ u, Hid (u = (v2.alloc (.cells #[.slice none 0 0, .slice none 0 0, .slice none 0 0, .slice none 0 0] 42))) := ⟨_, rfl⟩
            obtain ⟨b6, HQ⟩ : ∃ q, Hid (q = v2.heap.size) := ⟨_, rfl⟩
            have HM3 := Lib.hid (show Made w3 v3 ((b6, (.cells #[.slice none 0 0, .slice none 0 0, .slice none 0 0, .slice none 0 0] 42)) :: [(m1, (.cells (madeCells #[.int .i64 0] l.length) 3)), (m3, (.cells (madeCells #[.int .i64 0] b.length) 3))]) by rw [HV3.out]; exact Made.alloc HM2.out HQ.out)
            go_simp
            rw [← HV3.out, ← HQ.out]
            refine hK.out _ _ trivial (fun hHeld => ?_)
            clear hK K HQ
            (try simp only [Act.put, List.setIfInBounds_toArray, List.set_cons_zero, List.set_cons_succ, List.getElem_toArray, List.getElem_cons_zero, List.getElem_cons_succ])
            refine wpAnyH_ready (rs := [5]) (by kernel_rfl) (by simp) (AllReadyH.cons rfl (fun K hK => ?_) AllReadyH.nil)
            obtain ⟨v4, HV4⟩ : ∃ u, Hid (u = (v3.alloc (.cells (madeCells #[.int .i64 0] l.length) 3))) := ⟨_, rfl⟩
            obtain ⟨m2, HQ⟩ : ∃ q, Hid (q = v3.heap.size) := ⟨_, rfl⟩
            have HM4 := Lib.hid (show Made w3 v4 ((m2, (.cells (madeCells #[.int .i64 0] l.length) 3)) :: [(b6, (.cells #[.slice none 0 0, .slice none 0 0, .slice none 0 0, .slice none 0 0] 42)), (m1, (.cells (madeCells #[.int .i64 0] l.length) 3)), (m3, (.cells (madeCells #[.int .i64 0] b.length) 3))]) by rw [HV4.out]; exact Made.alloc HM3.out HQ.out)
            go_simp
            rw [← HV4.out, ← HQ.out]
            refine hK.out _ _ trivial (fun hHeld => ?_)
            clear hK K HQ
            (try simp only [Act.put, List.setIfInBounds_toArray, List.set_cons_zero, List.set_cons_succ, List.getElem_toArray, List.getElem_cons_zero, List.getElem_cons_succ])
            first
              | (refine wpAnyH_take (i := 9) rfl (by kernel_rfl) (by kernel_rfl) (by kernel_rfl) (fun _ _ _ h => h) (Or.inl ⟨by rfl, by intro w hSw; (go_simp <;> with_reducible rfl)⟩) (by assumption) ?_)
              | (refine wpAnyH_take (i := 9) rfl (by kernel_rfl) (by kernel_rfl) (by kernel_rfl) (fun _ _ _ h => h) (Or.inr ⟨by rfl, rfl⟩) (by assumption) ?_)
            (try simp only [Act.put, List.setIfInBounds_toArray, List.set_cons_zero, List.set_cons_succ, List.getElem_toArray, List.getElem_cons_zero, List.getElem_cons_succ])
            obtain ⟨Y, HY⟩ : ∃ u, Hid (u = v4.setCells b6 0 (#[.slice none 0 0, .slice (some ⟨m1, 0, none⟩) l.length l.length, .slice (some ⟨m2, 0, none⟩) l.length l.length, .slice (some ⟨m3, 0, none⟩) b.length b.length] : Array Value).toList) := ⟨_, rfl⟩
            have h6 := (HM4.out.2.1 (b6, (.cells #[.slice none 0 0, .slice none 0 0, .slice none 0 0, .slice none 0 0] 42)) (by simp))
            have HTH6 : Hid (v4.there b6 0 (#[.slice none 0 0, .slice (some ⟨m1, 0, none⟩) l.length l.length, .slice (some ⟨m2, 0, none⟩) l.length l.length, .slice (some ⟨m3, 0, none⟩) b.length b.length] : Array Value).size) := Lib.hid (there_at h6.2 rfl)
            have HSEEN : Hid (Seen w3 Y b6 m1 m2 m3 (cntL [] 1 l.length) (cntL [] 2 l.length) (cntL [] 3 b.length)) := Lib.hid (by
              rw [HY.out]
              exact seen_start HM4.out.1 h6 (HM4.out.2.1 (m1, (.cells (madeCells #[.int .i64 0] l.length) 3)) (by simp)) (HM4.out.2.1 (m2, (.cells (madeCells #[.int .i64 0] l.length) 3)) (by simp)) (HM4.out.2.1 (m3, (.cells (madeCells #[.int .i64 0] b.length) 3)) (by simp)) (by have := HM4.out.2.2; simp at this; omega))
            refine wpAnyH_ready (rs := [11]) (by kernel_rfl) (by simp) (AllReadyH.cons rfl (fun K hK => ?_) AllReadyH.nil)
            refine wp_store_mid 42 _ _ rfl b6 0 #[.slice none 0 0, .slice (some ⟨m1, 0, none⟩) l.length l.length, .slice (some ⟨m2, 0, none⟩) l.length l.length, .slice (some ⟨m3, 0, none⟩) b.length b.length] (by kernel_rfl) (by kernel_rfl) HTH6.out HI42.out (by simp [Value.oneCell']) ?_
            (try simp only [List.toList_toArray])
            rw [← HY.out]
            refine hK.out _ _ trivial (fun hHeld => ?_)
            clear hK K
            (try simp only [Act.put, List.setIfInBounds_toArray, List.set_cons_zero, List.set_cons_succ, List.getElem_toArray, List.getElem_cons_zero, List.getElem_cons_succ])
            refine wpAnyH_done (by kernel_rfl) ?_ _
            clear hHeld
            clear h6 HTH6 HY HM4 HM3 HM2 HM1 HV4 HV3 HV2 HV1
            revert HSEEN
            clear v4 v3 v2 v1
            revert Y
            revert b6
            revert m3
            revert m2
            revert m1
            exact key.get
        · obtain ⟨v2, HV2⟩ : ∃ u, Hid (u = (v1.alloc (.cells (madeCells #[.int .i64 0] l.length) 3))) := ⟨_, rfl⟩
          obtain ⟨m2, HQ⟩ : ∃ q, Hid (q = v1.heap.size) := ⟨_, rfl⟩
          have HM2 := Lib.hid (show Made w3 v2 ((m2, (.cells (madeCells #[.int .i64 0] l.length) 3)) :: [(m3, (.cells (madeCells #[.int .i64 0] b.length) 3))]) by rw [HV2.out]; exact Made.alloc HM1.out HQ.out)
          go_simp
          rw [← HV2.out, ← HQ.out]
          refine hK.out _ _ trivial (fun hHeld => ?_)
          clear hK K HQ
          (try simp only [Act.put, List.setIfInBounds_toArray, List.set_cons_zero, List.set_cons_succ, List.getElem_toArray, List.getElem_cons_zero, List.getElem_cons_succ])
          refine wpAnyH_ready (rs := [2, 10]) (by kernel_rfl) (by simp) (AllReadyH.cons rfl (fun K hK => ?_) (AllReadyH.cons rfl (fun K hK => ?_) AllReadyH.nil))
          · obtain ⟨v3, HV3⟩ : ∃ u, Hid (u = (v2.alloc (.cells (madeCells #[.int .i64 0] l.length) 3))) := ⟨_, rfl⟩
            obtain ⟨m1, HQ⟩ : ∃ q, Hid (q = v2.heap.size) := ⟨_, rfl⟩
            have HM3 := Lib.hid (show Made w3 v3 ((m1, (.cells (madeCells #[.int .i64 0] l.length) 3)) :: [(m2, (.cells (madeCells #[.int .i64 0] l.length) 3)), (m3, (.cells (madeCells #[.int .i64 0] b.length) 3))]) by rw [HV3.out]; exact Made.alloc HM2.out HQ.out)
            go_simp
            rw [← HV3.out, ← HQ.out]
            refine hK.out _ _ trivial (fun hHeld => ?_)
            clear hK K HQ
            (try simp only [Act.put, List.setIfInBounds_toArray, List.set_cons_zero, List.set_cons_succ, List.getElem_toArray, List.getElem_cons_zero, List.getElem_cons_succ])
            first
              | (refine wpAnyH_take (i := 9) rfl (by kernel_rfl) (by kernel_rfl) (by kernel_rfl) (fun _ _ _ h => h) (Or.inl ⟨by rfl, by intro w hSw; (go_simp <;> with_reducible rfl)⟩) (by assumption) ?_)
              | (refine wpAnyH_take (i := 9) rfl (by kernel_rfl) (by kernel_rfl) (by kernel_rfl) (fun _ _ _ h => h) (Or.inr ⟨by rfl, rfl⟩) (by assumption) ?_)
            (try simp only [Act.put, List.setIfInBounds_toArray, List.set_cons_zero, List.set_cons_succ, List.getElem_toArray, List.getElem_cons_zero, List.getElem_cons_succ])
            refine wpAnyH_ready (rs := [10]) (by kernel_rfl) (by simp) (AllReadyH.cons rfl (fun K hK => ?_) AllReadyH.nil)
            obtain ⟨v4, HV4⟩ : ∃ u, Hid (u = (v3.alloc (.cells #[.slice none 0 0, .slice none 0 0, .slice none 0 0, .slice none 0 0] 42))) := ⟨_, rfl⟩
            obtain ⟨b6, HQ⟩ : ∃ q, Hid (q = v3.heap.size) := ⟨_, rfl⟩
            have HM4 := Lib.hid (show Made w3 v4 ((b6, (.cells #[.slice none 0 0, .slice none 0 0, .slice none 0 0, .slice none 0 0] 42)) :: [(m1, (.cells (madeCells #[.int .i64 0] l.length) 3)), (m2, (.cells (madeCells #[.int .i64 0] l.length) 3)), (m3, (.cells (madeCells #[.int .i64 0] b.length) 3))]) by rw [HV4.out]; exact Made.alloc HM3.out HQ.out)
            go_simp
            rw [← HV4.out, ← HQ.out]
            refine hK.out _ _ trivial (fun hHeld => ?_)
            clear hK K HQ
            (try simp only [Act.put, List.setIfInBounds_toArray, List.set_cons_zero, List.set_cons_succ, List.getElem_toArray, List.getElem_cons_zero, List.getElem_cons_succ])
            obtain ⟨Y, HY⟩ : ∃ u, Hid (u = v4.setCells b6 0 (#[.slice none 0 0, .slice (some ⟨m1, 0, none⟩) l.length l.length, .slice (some ⟨m2, 0, none⟩) l.length l.length, .slice (some ⟨m3, 0, none⟩) b.length b.length] : Array Value).toList) := ⟨_, rfl⟩
            have h6 := (HM4.out.2.1 (b6, (.cells #[.slice none 0 0, .slice none 0 0, .slice none 0 0, .slice none 0 0] 42)) (by simp))
            have HTH6 : Hid (v4.there b6 0 (#[.slice none 0 0, .slice (some ⟨m1, 0, none⟩) l.length l.length, .slice (some ⟨m2, 0, none⟩) l.length l.length, .slice (some ⟨m3, 0, none⟩) b.length b.length] : Array Value).size) := Lib.hid (there_at h6.2 rfl)
            have HSEEN : Hid (Seen w3 Y b6 m1 m2 m3 (cntL [] 1 l.length) (cntL [] 2 l.length) (cntL [] 3 b.length)) := Lib.hid (by
              rw [HY.out]
              exact seen_start HM4.out.1 h6 (HM4.out.2.1 (m1, (.cells (madeCells #[.int .i64 0] l.length) 3)) (by simp)) (HM4.out.2.1 (m2, (.cells (madeCells #[.int .i64 0] l.length) 3)) (by simp)) (HM4.out.2.1 (m3, (.cells (madeCells #[.int .i64 0] b.length) 3)) (by simp)) (by have := HM4.out.2.2; simp at this; omega))
            refine wpAnyH_ready (rs := [11]) (by kernel_rfl) (by simp) (AllReadyH.cons rfl (fun K hK => ?_) AllReadyH.nil)
            refine wp_store_mid 42 _ _ rfl b6 0 #[.slice none 0 0, .slice (some ⟨m1, 0, none⟩) l.length l.length, .slice (some ⟨m2, 0, none⟩) l.length l.length, .slice (some ⟨m3, 0, none⟩) b.length b.length] (by kernel_rfl) (by kernel_rfl) HTH6.out HI42.out (by simp [Value.oneCell']) ?_
            (try simp only [List.toList_toArray])
            rw [← HY.out]
            refine hK.out _ _ trivial (fun hHeld => ?_)
            clear hK K
            (try simp only [Act.put, List.setIfInBounds_toArray, List.set_cons_zero, List.set_cons_succ, List.getElem_toArray, List.getElem_cons_zero, List.getElem_cons_succ])
            refine wpAnyH_done (by kernel_rfl) ?_ _
            clear hHeld
            clear h6 HTH6 HY HM4 HM3 HM2 HM1 HV4 HV3 HV2 HV1
            revert HSEEN
            clear v4 v3 v2 v1
            revert Y
            revert b6
            revert m3
            revert m2
            revert m1
            exact key.get
          · obtain ⟨v3, HV3⟩ : ∃ u, Hid (u = (v2.alloc (.cells #[.slice none 0 0, .slice none 0 0, .slice none 0 0, .slice none 0 0] 42))) := ⟨_, rfl⟩
            obtain ⟨b6, HQ⟩ : ∃ q, Hid (q = v2.heap.size) := ⟨_, rfl⟩
            have HM3 := Lib.hid (show Made w3 v3 ((b6, (.cells #[.slice none 0 0, .slice none 0 0, .slice none 0 0, .slice none 0 0] 42)) :: [(m2, (.cells (madeCells #[.int .i64 0] l.length) 3)), (m3, (.cells (madeCells #[.int .i64 0] b.length) 3))]) by rw [HV3.out]; exact Made.alloc HM2.out HQ.out)
            go_simp
            rw [← HV3.out, ← HQ.out]
            refine hK.out _ _ trivial (fun hHeld => ?_)
            clear hK K HQ
            (try simp only [Act.put, List.setIfInBounds_toArray, List.set_cons_zero, List.set_cons_succ, List.getElem_toArray, List.getElem_cons_zero, List.getElem_cons_succ])
            refine wpAnyH_ready (rs := [2]) (by kernel_rfl) (by simp) (AllReadyH.cons rfl (fun K hK => ?_) AllReadyH.nil)
            obtain ⟨v4, HV4⟩ : ∃ u, Hid (u = (v3.alloc (.cells (madeCells #[.int .i64 0] l.length) 3))) := ⟨_, rfl⟩
            obtain ⟨m1, HQ⟩ : ∃ q, Hid (q = v3.heap.size) := ⟨_, rfl⟩
            have HM4 := Lib.hid (show Made w3 v4 ((m1, (.cells (madeCells #[.int .i64 0] l.length) 3)) :: [(b6, (.cells #[.slice none 0 0, .slice none 0 0, .slice none 0 0, .slice none 0 0] 42)), (m2, (.cells (madeCells #[.int .i64 0] l.length) 3)), (m3, (.cells (madeCells #[.int .i64 0] b.length) 3))]) by rw [HV4.out]; exact Made.alloc HM3.out HQ.out)
            go_simp
            rw [← HV4.out, ← HQ.out]
            refine hK.out _ _ trivial (fun hHeld => ?_)
            clear hK K HQ
            (try simp only [Act.put, List.setIfInBounds_toArray, List.set_cons_zero, List.set_cons_succ, List.getElem_toArray, List.getElem_cons_zero, List.getElem_cons_succ])
            first
              | (refine wpAnyH_take (i := 9) rfl (by kernel_rfl) (by kernel_rfl) (by kernel_rfl) (fun _ _ _ h => h) (Or.inl ⟨by rfl, by intro w hSw; (go_simp <;> with_reducible rfl)⟩) (by assumption) ?_)
              | (refine wpAnyH_take (i := 9) rfl (by kernel_rfl) (by kernel_rfl) (by kernel_rfl) (fun _ _ _ h => h) (Or.inr ⟨by rfl, rfl⟩) (by assumption) ?_)
            (try simp only [Act.put, List.setIfInBounds_toArray, List.set_cons_zero, List.set_cons_succ, List.getElem_toArray, List.getElem_cons_zero, List.getElem_cons_succ])
            obtain ⟨Y, HY⟩ : ∃ u, Hid (u = v4.setCells b6 0 (#[.slice none 0 0, .slice (some ⟨m1, 0, none⟩) l.length l.length, .slice (some ⟨m2, 0, none⟩) l.length l.length, .slice (some ⟨m3, 0, none⟩) b.length b.length] : Array Value).toList) := ⟨_, rfl⟩
            have h6 := (HM4.out.2.1 (b6, (.cells #[.slice none 0 0, .slice none 0 0, .slice none 0 0, .slice none 0 0] 42)) (by simp))
            have HTH6 : Hid (v4.there b6 0 (#[.slice none 0 0, .slice (some ⟨m1, 0, none⟩) l.length l.length, .slice (some ⟨m2, 0, none⟩) l.length l.length, .slice (some ⟨m3, 0, none⟩) b.length b.length] : Array Value).size) := Lib.hid (there_at h6.2 rfl)
            have HSEEN : Hid (Seen w3 Y b6 m1 m2 m3 (cntL [] 1 l.length) (cntL [] 2 l.length) (cntL [] 3 b.length)) := Lib.hid (by
              rw [HY.out]
              exact seen_start HM4.out.1 h6 (HM4.out.2.1 (m1, (.cells (madeCells #[.int .i64 0] l.length) 3)) (by simp)) (HM4.out.2.1 (m2, (.cells (madeCells #[.int .i64 0] l.length) 3)) (by simp)) (HM4.out.2.1 (m3, (.cells (madeCells #[.int .i64 0] b.length) 3)) (by simp)) (by have := HM4.out.2.2; simp at this; omega))
            refine wpAnyH_ready (rs := [11]) (by kernel_rfl) (by simp) (AllReadyH.cons rfl (fun K hK => ?_) AllReadyH.nil)
            refine wp_store_mid 42 _ _ rfl b6 0 #[.slice none 0 0, .slice (some ⟨m1, 0, none⟩) l.length l.length, .slice (some ⟨m2, 0, none⟩) l.length l.length, .slice (some ⟨m3, 0, none⟩) b.length b.length] (by kernel_rfl) (by kernel_rfl) HTH6.out HI42.out (by simp [Value.oneCell']) ?_
            (try simp only [List.toList_toArray])
            rw [← HY.out]
            refine hK.out _ _ trivial (fun hHeld => ?_)
            clear hK K
            (try simp only [Act.put, List.setIfInBounds_toArray, List.set_cons_zero, List.set_cons_succ, List.getElem_toArray, List.getElem_cons_zero, List.getElem_cons_succ])
            refine wpAnyH_done (by kernel_rfl) ?_ _
            clear hHeld
            clear h6 HTH6 HY HM4 HM3 HM2 HM1 HV4 HV3 HV2 HV1
            revert HSEEN
            clear v4 v3 v2 v1
            revert Y
            revert b6
            revert m3
            revert m2
            revert m1
            exact key.get
        · obtain ⟨v2, HV2⟩ : ∃ u, Hid (u = (v1.alloc (.cells #[.slice none 0 0, .slice none 0 0, .slice none 0 0, .slice none 0 0] 42))) := ⟨_, rfl⟩
          obtain ⟨b6, HQ⟩ : ∃ q, Hid (q = v1.heap.size) := ⟨_, rfl⟩
          have HM2 := Lib.hid (show Made w3 v2 ((b6, (.cells #[.slice none 0 0, .slice none 0 0, .slice none 0 0, .slice none 0 0] 42)) :: [(m3, (.cells (madeCells #[.int .i64 0] b.length) 3))]) by rw [HV2.out]; exact Made.alloc HM1.out HQ.out)
          go_simp
          rw [← HV2.out, ← HQ.out]
          refine hK.out _ _ trivial (fun hHeld => ?_)
          clear hK K HQ
          (try simp only [Act.put, List.setIfInBounds_toArray, List.set_cons_zero, List.set_cons_succ, List.getElem_toArray, List.getElem_cons_zero, List.getElem_cons_succ])
          refine wpAnyH_ready (rs := [2, 5]) (by kernel_rfl) (by simp) (AllReadyH.cons rfl (fun K hK => ?_) (AllReadyH.cons rfl (fun K hK => ?_) AllReadyH.nil))
          · obtain ⟨v3, HV3⟩ : ∃ u, Hid (u = (v2.alloc (.cells (madeCells #[.int .i64 0] l.length) 3))) := ⟨_, rfl⟩
            obtain ⟨m1, HQ⟩ : ∃ q, Hid (q = v2.heap.size) := ⟨_, rfl⟩
            have HM3 := Lib.hid (show Made w3 v3 ((m1, (.cells (madeCells #[.int .i64 0] l.length) 3)) :: [(b6, (.cells #[.slice none 0 0, .slice none 0 0, .slice none 0 0, .slice none 0 0] 42)), (m3, (.cells (madeCells #[.int .i64 0] b.length) 3))]) by rw [HV3.out]; exact Made.alloc HM2.out HQ.out)
            go_simp
            rw [← HV3.out, ← HQ.out]
            refine hK.out _ _ trivial (fun hHeld => ?_)
            clear hK K HQ
            (try simp only [Act.put, List.setIfInBounds_toArray, List.set_cons_zero, List.set_cons_succ, List.getElem_toArray, List.getElem_cons_zero, List.getElem_cons_succ])
            refine wpAnyH_ready (rs := [5]) (by kernel_rfl) (by simp) (AllReadyH.cons rfl (fun K hK => ?_) AllReadyH.nil)
            obtain ⟨v4, HV4⟩ : ∃ u, Hid (u = (v3.alloc (.cells (madeCells #[.int .i64 0] l.length) 3))) := ⟨_, rfl⟩
            obtain ⟨m2, HQ⟩ : ∃ q, Hid (q = v3.heap.size) := ⟨_, rfl⟩
            have HM4 := Lib.hid (show Made w3 v4 ((m2, (.cells (madeCells #[.int .i64 0] l.length) 3)) :: [(m1, (.cells (madeCells #[.int .i64 0] l.length) 3)), (b6, (.cells #[.slice none 0 0, .slice none 0 0, .slice none 0 0, .slice none 0 0] 42)), (m3, (.cells (madeCells #[.int .i64 0] b.length) 3))]) by rw [HV4.out]; exact Made.alloc HM3.out HQ.out)
            go_simp
            rw [← HV4.out, ← HQ.out]
            refine hK.out _ _ trivial (fun hHeld => ?_)
            clear hK K HQ
            (try simp only [Act.put, List.setIfInBounds_toArray, List.set_cons_zero, List.set_cons_succ, List.getElem_toArray, List.getElem_cons_zero, List.getElem_cons_succ])
            first
              | (refine wpAnyH_take (i := 9) rfl (by kernel_rfl) (by kernel_rfl) (by kernel_rfl) (fun _ _ _ h => h) (Or.inl ⟨by rfl, by intro w hSw; (go_simp <;> with_reducible rfl)⟩) (by assumption) ?_)
              | (refine wpAnyH_take (i := 9) rfl (by kernel_rfl) (by kernel_rfl) (by kernel_rfl) (fun _ _ _ h => h) (Or.inr ⟨by rfl, rfl⟩) (by assumption) ?_)
            (try simp only [Act.put, List.setIfInBounds_toArray, List.set_cons_zero, List.set_cons_succ, List.getElem_toArray, List.getElem_cons_zero, List.getElem_cons_succ])
            obtain ⟨Y, HY⟩ : ∃ u, Hid (u = v4.setCells b6 0 (#[.slice none 0 0, .slice (some ⟨m1, 0, none⟩) l.length l.length, .slice (some ⟨m2, 0, none⟩) l.length l.length, .slice (some ⟨m3, 0, none⟩) b.length b.length] : Array Value).toList) := ⟨_, rfl⟩
            have h6 := (HM4.out.2.1 (b6, (.cells #[.slice none 0 0, .slice none 0 0, .slice none 0 0, .slice none 0 0] 42)) (by simp))
            have HTH6 : Hid (v4.there b6 0 (#[.slice none 0 0, .slice (some ⟨m1, 0, none⟩) l.length l.length, .slice (some ⟨m2, 0, none⟩) l.length l.length, .slice (some ⟨m3, 0, none⟩) b.length b.length] : Array Value).size) := Lib.hid (there_at h6.2 rfl)
            have HSEEN : Hid (Seen w3 Y b6 m1 m2 m3 (cntL [] 1 l.length) (cntL [] 2 l.length) (cntL [] 3 b.length)) := Lib.hid (by
              rw [HY.out]
              exact seen_start HM4.out.1 h6 (HM4.out.2.1 (m1, (.cells (madeCells #[.int .i64 0] l.length) 3)) (by simp)) (HM4.out.2.1 (m2, (.cells (madeCells #[.int .i64 0] l.length) 3)) (by simp)) (HM4.out.2.1 (m3, (.cells (madeCells #[.int .i64 0] b.length) 3)) (by simp)) (by have := HM4.out.2.2; simp at this; omega))
            refine wpAnyH_ready (rs := [11]) (by kernel_rfl) (by simp) (AllReadyH.cons rfl (fun K hK => ?_) AllReadyH.nil)
            refine wp_store_mid 42 _ _ rfl b6 0 #[.slice none 0 0, .slice (some ⟨m1, 0, none⟩) l.length l.length, .slice (some ⟨m2, 0, none⟩) l.length l.length, .slice (some ⟨m3, 0, none⟩) b.length b.length] (by kernel_rfl) (by kernel_rfl) HTH6.out HI42.out (by simp [Value.oneCell']) ?_
            (try simp only [List.toList_toArray])
            rw [← HY.out]
            refine hK.out _ _ trivial (fun hHeld => ?_)
            clear hK K
            (try simp only [Act.put, List.setIfInBounds_toArray, List.set_cons_zero, List.set_cons_succ, List.getElem_toArray, List.getElem_cons_zero, List.getElem_cons_succ])
            refine wpAnyH_done (by kernel_rfl) ?_ _
            clear hHeld
            clear h6 HTH6 HY HM4 HM3 HM2 HM1 HV4 HV3 HV2 HV1
            revert HSEEN
            clear v4 v3 v2 v1
            revert Y
            revert b6
            revert m3
            revert m2
            revert m1
            exact key.get
          · obtain ⟨v3, HV3⟩ : ∃ u, Hid (u = (v2.alloc (.cells (madeCells #[.int .i64 0] l.length) 3))) := ⟨_, rfl⟩
            obtain ⟨m2, HQ⟩ : ∃ q, Hid (q = v2.heap.size) := ⟨_, rfl⟩
            have HM3 := Lib.hid (show Made w3 v3 ((m2, (.cells (madeCells #[.int .i64 0] l.length) 3)) :: [(b6, (.cells #[.slice none 0 0, .slice none 0 0, .slice none 0 0, .slice none 0 0] 42)), (m3, (.cells (madeCells #[.int .i64 0] b.length) 3))]) by rw [HV3.out]; exact Made.alloc HM2.out HQ.out)
            go_simp
            rw [← HV3.out, ← HQ.out]
            refine hK.out _ _ trivial (fun hHeld => ?_)
            clear hK K HQ
            (try simp only [Act.put, List.setIfInBounds_toArray, List.set_cons_zero, List.set_cons_succ, List.getElem_toArray, List.getElem_cons_zero, List.getElem_cons_succ])
            refine wpAnyH_ready (rs := [2]) (by kernel_rfl) (by simp) (AllReadyH.cons rfl (fun K hK => ?_) AllReadyH.nil)
            obtain ⟨v4, HV4⟩ : ∃ u, Hid (u = (v3.alloc (.cells (madeCells #[.int .i64 0] l.length) 3))) := ⟨_, rfl⟩
            obtain ⟨m1, HQ⟩ : ∃ q, Hid (q = v3.heap.size) := ⟨_, rfl⟩
            have HM4 := Lib.hid (show Made w3 v4 ((m1, (.cells (madeCells #[.int .i64 0] l.length) 3)) :: [(m2, (.cells (madeCells #[.int .i64 0] l.length) 3)), (b6, (.cells #[.slice none 0 0, .slice none 0 0, .slice none 0 0, .slice none 0 0] 42)), (m3, (.cells (madeCells #[.int .i64 0] b.length) 3))]) by rw [HV4.out]; exact Made.alloc HM3.out HQ.out)
            go_simp
            rw [← HV4.out, ← HQ.out]
            refine hK.out _ _ trivial (fun hHeld => ?_)
            clear hK K HQ
            (try simp only [Act.put, List.setIfInBounds_toArray, List.set_cons_zero, List.set_cons_succ, List.getElem_toArray, List.getElem_cons_zero, List.getElem_cons_succ])
            first
              | (refine wpAnyH_take (i := 9) rfl (by kernel_rfl) (by kernel_rfl) (by kernel_rfl) (fun _ _ _ h => h) (Or.inl ⟨by rfl, by intro w hSw; (go_simp <;> with_reducible rfl)⟩) (by assumption) ?_)
              | (refine wpAnyH_take (i := 9) rfl (by kernel_rfl) (by kernel_rfl) (by kernel_rfl) (fun _ _ _ h => h) (Or.inr ⟨by rfl, rfl⟩) (by assumption) ?_)
            (try simp only [Act.put, List.setIfInBounds_toArray, List.set_cons_zero, List.set_cons_succ, List.getElem_toArray, List.getElem_cons_zero, List.getElem_cons_succ])
            obtain ⟨Y, HY⟩ : ∃ u, Hid (u = v4.setCells b6 0 (#[.slice none 0 0, .slice (some ⟨m1, 0, none⟩) l.length l.length, .slice (some ⟨m2, 0, none⟩) l.length l.length, .slice (some ⟨m3, 0, none⟩) b.length b.length] : Array Value).toList) := ⟨_, rfl⟩
            have h6 := (HM4.out.2.1 (b6, (.cells #[.slice none 0 0, .slice none 0 0, .slice none 0 0, .slice none 0 0] 42)) (by simp))
            have HTH6 : Hid (v4.there b6 0 (#[.slice none 0 0, .slice (some ⟨m1, 0, none⟩) l.length l.length, .slice (some ⟨m2, 0, none⟩) l.length l.length, .slice (some ⟨m3, 0, none⟩) b.length b.length] : Array Value).size) := Lib.hid (there_at h6.2 rfl)
            have HSEEN : Hid (Seen w3 Y b6 m1 m2 m3 (cntL [] 1 l.length) (cntL [] 2 l.length) (cntL [] 3 b.length)) := Lib.hid (by
              rw [HY.out]
              exact seen_start HM4.out.1 h6 (HM4.out.2.1 (m1, (.cells (madeCells #[.int .i64 0] l.length) 3)) (by simp)) (HM4.out.2.1 (m2, (.cells (madeCells #[.int .i64 0] l.length) 3)) (by simp)) (HM4.out.2.1 (m3, (.cells (madeCells #[.int .i64 0] b.length) 3)) (by simp)) (by have := HM4.out.2.2; simp at this; omega))
            refine wpAnyH_ready (rs := [11]) (by kernel_rfl) (by simp) (AllReadyH.cons rfl (fun K hK => ?_) AllReadyH.nil)
            refine wp_store_mid 42 _ _ rfl b6 0 #[.slice none 0 0, .slice (some ⟨m1, 0, none⟩) l.length l.length, .slice (some ⟨m2, 0, none⟩) l.length l.length, .slice (some ⟨m3, 0, none⟩) b.length b.length] (by kernel_rfl) (by kernel_rfl) HTH6.out HI42.out (by simp [Value.oneCell']) ?_
            (try simp only [List.toList_toArray])
            rw [← HY.out]
            refine hK.out _ _ trivial (fun hHeld => ?_)
            clear hK K
            (try simp only [Act.put, List.setIfInBounds_toArray, List.set_cons_zero, List.set_cons_succ, List.getElem_toArray, List.getElem_cons_zero, List.getElem_cons_succ])
            refine wpAnyH_done (by kernel_rfl) ?_ _
            clear hHeld
            clear h6 HTH6 HY HM4 HM3 HM2 HM1 HV4 HV3 HV2 HV1
            revert HSEEN
            clear v4 v3 v2 v1
            revert Y
            revert b6
            revert m3
            revert m2
            revert m1
            exact key.get
      · obtain ⟨v1, HV1⟩ : ∃ u, Hid (u = (w3.alloc (.cells #[.slice none 0 0, .slice none 0 0, .slice none 0 0, .slice none 0 0] 42)).drew) := ⟨_, rfl⟩
        obtain ⟨b6, HQ⟩ : ∃ q, Hid (q = w3.heap.size) := ⟨_, rfl⟩
        have HM1 := Lib.hid (show Made w3 v1 ((b6, (.cells #[.slice none 0 0, .slice none 0 0, .slice none 0 0, .slice none 0 0] 42)) :: []) by rw [HV1.out]; exact (Made.alloc (Made.start w3) HQ.out).drew)
        go_simp
        rw [← HV1.out, ← HQ.out]
        refine hK.out _ _ trivial (fun hHeld => ?_)
        clear hK K HQ
        (try simp only [Act.put, List.setIfInBounds_toArray, List.set_cons_zero, List.set_cons_succ, List.getElem_toArray, List.getElem_cons_zero, List.getElem_cons_succ])
        refine wpAnyH_ready (rs := [2, 5, 8]) (by kernel_rfl) (by simp) (AllReadyH.cons rfl (fun K hK => ?_) (AllReadyH.cons rfl (fun K hK => ?_) (AllReadyH.cons rfl (fun K hK => ?_) AllReadyH.nil)))
        · obtain ⟨v2, HV2⟩ : ∃ u, Hid (u = (v1.alloc (.cells (madeCells #[.int .i64 0] l.length) 3))) := ⟨_, rfl⟩
          obtain ⟨m1, HQ⟩ : ∃ q, Hid (q = v1.heap.size) := ⟨_, rfl⟩
          have HM2 := Lib.hid (show Made w3 v2 ((m1, (.cells (madeCells #[.int .i64 0] l.length) 3)) :: [(b6, (.cells #[.slice none 0 0, .slice none 0 0, .slice none 0 0, .slice none 0 0] 42))]) by rw [HV2.out]; exact Made.alloc HM1.out HQ.out)
          go_simp
          rw [← HV2.out, ← HQ.out]
          refine hK.out _ _ trivial (fun hHeld => ?_)
          clear hK K HQ
          (try simp only [Act.put, List.setIfInBounds_toArray, List.set_cons_zero, List.set_cons_succ, List.getElem_toArray, List.getElem_cons_zero, List.getElem_cons_succ])
          refine wpAnyH_ready (rs := [5, 8]) (by kernel_rfl) (by simp) (AllReadyH.cons rfl (fun K hK => ?_) (AllReadyH.cons rfl (fun K hK => ?_) AllReadyH.nil))
          · obtain ⟨v3, HV3⟩ : ∃ u, Hid (u = (v2.alloc (.cells (madeCells #[.int .i64 0] l.length) 3))) := ⟨_, rfl⟩
            obtain ⟨m2, HQ⟩ : ∃ q, Hid (q = v2.heap.size) := ⟨_, rfl⟩
            have HM3 := Lib.hid (show Made w3 v3 ((m2, (.cells (madeCells #[.int .i64 0] l.length) 3)) :: [(m1, (.cells (madeCells #[.int .i64 0] l.length) 3)), (b6, (.cells #[.slice none 0 0, .slice none 0 0, .slice none 0 0, .slice none 0 0] 42))]) by rw [HV3.out]; exact Made.alloc HM2.out HQ.out)
            go_simp
            rw [← HV3.out, ← HQ.out]
            refine hK.out _ _ trivial (fun hHeld => ?_)
            clear hK K HQ
            (try simp only [Act.put, List.setIfInBounds_toArray, List.set_cons_zero, List.set_cons_succ, List.getElem_toArray, List.getElem_cons_zero, List.getElem_cons_succ])
            refine wpAnyH_ready (rs := [8]) (by kernel_rfl) (by simp) (AllReadyH.cons rfl (fun K hK => ?_) AllReadyH.nil)
            obtain ⟨v4, HV4⟩ : ∃ u, Hid (u = (v3.alloc (.cells (madeCells #[.int .i64 0] b.length) 3))) := ⟨_, rfl⟩
            obtain ⟨m3, HQ⟩ : ∃ q, Hid (q = v3.heap.size) := ⟨_, rfl⟩
            have HM4 := Lib.hid (show Made w3 v4 ((m3, (.cells (madeCells #[.int .i64 0] b.length) 3)) :: [(m2, (.cells (madeCells #[.int .i64 0] l.length) 3)), (m1, (.cells (madeCells #[.int .i64 0] l.length) 3)), (b6, (.cells #[.slice none 0 0, .slice none 0 0, .slice none 0 0, .slice none 0 0] 42))]) by rw [HV4.out]; exact Made.alloc HM3.out HQ.out)
            go_simp
            rw [← HV4.out, ← HQ.out]
            refine hK.out _ _ trivial (fun hHeld => ?_)
            clear hK K HQ
            (try simp only [Act.put, List.setIfInBounds_toArray, List.set_cons_zero, List.set_cons_succ, List.getElem_toArray, List.getElem_cons_zero, List.getElem_cons_succ])
            first
              | (refine wpAnyH_take (i := 9) rfl (by kernel_rfl) (by kernel_rfl) (by kernel_rfl) (fun _ _ _ h => h) (Or.inl ⟨by rfl, by intro w hSw; (go_simp <;> with_reducible rfl)⟩) (by assumption) ?_)
              | (refine wpAnyH_take (i := 9) rfl (by kernel_rfl) (by kernel_rfl) (by kernel_rfl) (fun _ _ _ h => h) (Or.inr ⟨by rfl, rfl⟩) (by assumption) ?_)
            (try simp only [Act.put, List.setIfInBounds_toArray, List.set_cons_zero, List.set_cons_succ, List.getElem_toArray, List.getElem_cons_zero, List.getElem_cons_succ])
            obtain ⟨Y, HY⟩ : ∃ u, Hid (u = v4.setCells b6 0 (#[.slice none 0 0, .slice (some ⟨m1, 0, none⟩) l.length l.length, .slice (some ⟨m2, 0, none⟩) l.length l.length, .slice (some ⟨m3, 0, none⟩) b.length b.length] : Array Value).toList) := ⟨_, rfl⟩
            have h6 := (HM4.out.2.1 (b6, (.cells #[.slice none 0 0, .slice none 0 0, .slice none 0 0, .slice none 0 0] 42)) (by simp))
            have HTH6 : Hid (v4.there b6 0 (#[.slice none 0 0, .slice (some ⟨m1, 0, none⟩) l.length l.length, .slice (some ⟨m2, 0, none⟩) l.length l.length, .slice (some ⟨m3, 0, none⟩) b.length b.length] : Array Value).size) := Lib.hid (there_at h6.2 rfl)
            have HSEEN : Hid (Seen w3 Y b6 m1 m2 m3 (cntL [] 1 l.length) (cntL [] 2 l.length) (cntL [] 3 b.length)) := Lib.hid (by
              rw [HY.out]
              exact seen_start HM4.out.1 h6 (HM4.out.2.1 (m1, (.cells (madeCells #[.int .i64 0] l.length) 3)) (by simp)) (HM4.out.2.1 (m2, (.cells (madeCells #[.int .i64 0] l.length) 3)) (by simp)) (HM4.out.2.1 (m3, (.cells (madeCells #[.int .i64 0] b.length) 3)) (by simp)) (by have := HM4.out.2.2; simp at this; omega))
            refine wpAnyH_ready (rs := [11]) (by kernel_rfl) (by simp) (AllReadyH.cons rfl (fun K hK => ?_) AllReadyH.nil)
            refine wp_store_mid 42 _ _ rfl b6 0 #[.slice none 0 0, .slice (some ⟨m1, 0, none⟩) l.length l.length, .slice (some ⟨m2, 0, none⟩) l.length l.length, .slice (some ⟨m3, 0, none⟩) b.length b.length] (by kernel_rfl) (by kernel_rfl) HTH6.out HI42.out (by simp [Value.oneCell']) ?_
            (try simp only [List.toList_toArray])
            rw [← HY.out]
            refine hK.out _ _ trivial (fun hHeld => ?_)
            clear hK K
            (try simp only [Act.put, List.setIfInBounds_toArray, List.set_cons_zero, List.set_cons_succ, List.getElem_toArray, List.getElem_cons_zero, List.getElem_cons_succ])
            refine wpAnyH_done (by kernel_rfl) ?_ _
            clear hHeld
            clear h6 HTH6 HY HM4 HM3 HM2 HM1 HV4 HV3 HV2 HV1
            revert HSEEN
            clear v4 v3 v2 v1
            revert Y
            revert b6
            revert m3
            revert m2
            revert m1
            exact key.get
          · obtain ⟨v3, HV3⟩ : ∃ u, Hid (u = (v2.alloc (.cells (madeCells #[.int .i64 0] b.length) 3))) := ⟨_, rfl⟩
            obtain ⟨m3, HQ⟩ : ∃ q, Hid (q = v2.heap.size) := ⟨_, rfl⟩
            have HM3 := Lib.hid (show Made w3 v3 ((m3, (.cells (madeCells #[.int .i64 0] b.length) 3)) :: [(m1, (.cells (madeCells #[.int .i64 0] l.length) 3)), (b6, (.cells #[.slice none 0 0, .slice none 0 0, .slice none 0 0, .slice none 0 0] 42))]) by rw [HV3.out]; exact Made.alloc HM2.out HQ.out)
            go_simp
            rw [← HV3.out, ← HQ.out]
            refine hK.out _ _ trivial (fun hHeld => ?_)
            clear hK K HQ
            (try simp only [Act.put, List.setIfInBounds_toArray, List.set_cons_zero, List.set_cons_succ, List.getElem_toArray, List.getElem_cons_zero, List.getElem_cons_succ])
            refine wpAnyH_ready (rs := [5]) (by kernel_rfl) (by simp) (AllReadyH.cons rfl (fun K hK => ?_) AllReadyH.nil)
            obtain ⟨v4, HV4⟩ : ∃ u, Hid (u = (v3.alloc (.cells (madeCells #[.int .i64 0] l.length) 3))) := ⟨_, rfl⟩
            obtain ⟨m2, HQ⟩ : ∃ q, Hid (q = v3.heap.size) := ⟨_, rfl⟩
            have HM4 := Lib.hid (show Made w3 v4 ((m2, (.cells (madeCells #[.int .i64 0] l.length) 3)) :: [(m3, (.cells (madeCells #[.int .i64 0] b.length) 3)), (m1, (.cells (madeCells #[.int .i64 0] l.length) 3)), (b6, (.cells #[.slice none 0 0, .slice none 0 0, .slice none 0 0, .slice none 0 0] 42))]) by rw [HV4.out]; exact Made.alloc HM3.out HQ.out)
            go_simp
            rw [← HV4.out, ← HQ.out]
            refine hK.out _ _ trivial (fun hHeld => ?_)
            clear hK K HQ
            (try simp only [Act.put, List.setIfInBounds_toArray, List.set_cons_zero, List.set_cons_succ, List.getElem_toArray, List.getElem_cons_zero, List.getElem_cons_succ])
            first
              | (refine wpAnyH_take (i := 9) rfl (by kernel_rfl) (by kernel_rfl) (by kernel_rfl) (fun _ _ _ h => h) (Or.inl ⟨by rfl, by intro w hSw; (go_simp <;> with_reducible rfl)⟩) (by assumption) ?_)
              | (refine wpAnyH_take (i := 9) rfl (by kernel_rfl) (by kernel_rfl) (by kernel_rfl) (fun _ _ _ h => h) (Or.inr ⟨by rfl, rfl⟩) (by assumption) ?_)
            (try simp only [Act.put, List.setIfInBounds_toArray, List.set_cons_zero, List.set_cons_succ, List.getElem_toArray, List.getElem_cons_zero, List.getElem_cons_succ])
            obtain ⟨Y, HY⟩ : ∃ u, Hid (u = v4.setCells b6 0 (#[.slice none 0 0, .slice (some ⟨m1, 0, none⟩) l.length l.length, .slice (some ⟨m2, 0, none⟩) l.length l.length, .slice (some ⟨m3, 0, none⟩) b.length b.length] : Array Value).toList) := ⟨_, rfl⟩
            have h6 := (HM4.out.2.1 (b6, (.cells #[.slice none 0 0, .slice none 0 0, .slice none 0 0, .slice none 0 0] 42)) (by simp))
            have HTH6 : Hid (v4.there b6 0 (#[.slice none 0 0, .slice (some ⟨m1, 0, none⟩) l.length l.length, .slice (some ⟨m2, 0, none⟩) l.length l.length, .slice (some ⟨m3, 0, none⟩) b.length b.length] : Array Value).size) := Lib.hid (there_at h6.2 rfl)
            have HSEEN : Hid (Seen w3 Y b6 m1 m2 m3 (cntL [] 1 l.length) (cntL [] 2 l.length) (cntL [] 3 b.length)) := Lib.hid (by
              rw [HY.out]
              exact seen_start HM4.out.1 h6 (HM4.out.2.1 (m1, (.cells (madeCells #[.int .i64 0] l.length) 3)) (by simp)) (HM4.out.2.1 (m2, (.cells (madeCells #[.int .i64 0] l.length) 3)) (by simp)) (HM4.out.2.1 (m3, (.cells (madeCells #[.int .i64 0] b.length) 3)) (by simp)) (by have := HM4.out.2.2; simp at this; omega))
            refine wpAnyH_ready (rs := [11]) (by kernel_rfl) (by simp) (AllReadyH.cons rfl (fun K hK => ?_) AllReadyH.nil)
            refine wp_store_mid 42 _ _ rfl b6 0 #[.slice none 0 0, .slice (some ⟨m1, 0, none⟩) l.length l.length, .slice (some ⟨m2, 0, none⟩) l.length l.length, .slice (some ⟨m3, 0, none⟩) b.length b.length] (by kernel_rfl) (by kernel_rfl) HTH6.out HI42.out (by simp [Value.oneCell']) ?_
            (try simp only [List.toList_toArray])
            rw [← HY.out]
            refine hK.out _ _ trivial (fun hHeld => ?_)
            clear hK K
            (try simp only [Act.put, List.setIfInBounds_toArray, List.set_cons_zero, List.set_cons_succ, List.getElem_toArray, List.getElem_cons_zero, List.getElem_cons_succ])
            refine wpAnyH_done (by kernel_rfl) ?_ _
            clear hHeld
            clear h6 HTH6 HY HM4 HM3 HM2 HM1 HV4 HV3 HV2 HV1
            revert HSEEN
            clear v4 v3 v2 v1
            revert Y
            revert b6
            revert m3
            revert m2
            revert m1
            exact key.get
        · obtain ⟨v2, HV2⟩ : ∃ u, Hid (u = (v1.alloc (.cells (madeCells #[.int .i64 0] l.length) 3))) := ⟨_, rfl⟩
          obtain ⟨m2, HQ⟩ : ∃ q, Hid (q = v1.heap.size) := ⟨_, rfl⟩
          have HM2 := Lib.hid (show Made w3 v2 ((m2, (.cells (madeCells #[.int .i64 0] l.length) 3)) :: [(b6, (.cells #[.slice none 0 0, .slice none 0 0, .slice none 0 0, .slice none 0 0] 42))]) by rw [HV2.out]; exact Made.alloc HM1.out HQ.out)
          go_simp
          rw [← HV2.out, ← HQ.out]
          refine hK.out _ _ trivial (fun hHeld => ?_)
          clear hK K HQ
          (try simp only [Act.put, List.setIfInBounds_toArray, List.set_cons_zero, List.set_cons_succ, List.getElem_toArray, List.getElem_cons_zero, List.getElem_cons_succ])
          refine wpAnyH_ready (rs := [2, 8]) (by kernel_rfl) (by simp) (AllReadyH.cons rfl (fun K hK => ?_) (AllReadyH.cons rfl (fun K hK => ?_) AllReadyH.nil))
          · obtain ⟨v3, HV3⟩ : ∃ u, Hid (u = (v2.alloc (.cells (madeCells #[.int .i64 0] l.length) 3))) := ⟨_, rfl⟩
            obtain ⟨m1, HQ⟩ : ∃ q, Hid (q = v2.heap.size) := ⟨_, rfl⟩
            have HM3 := Lib.hid (show Made w3 v3 ((m1, (.cells (madeCells #[.int .i64 0] l.length) 3)) :: [(m2, (.cells (madeCells #[.int .i64 0] l.length) 3)), (b6, (.cells #[.slice none 0 0, .slice none 0 0, .slice none 0 0, .slice none 0 0] 42))]) by rw [HV3.out]; exact Made.alloc HM2.out HQ.out)
            go_simp
            rw [← HV3.out, ← HQ.out]
            refine hK.out _ _ trivial (fun hHeld => ?_)
            clear hK K HQ
            (try simp only [Act.put, List.setIfInBounds_toArray, List.set_cons_zero, List.set_cons_succ, List.getElem_toArray, List.getElem_cons_zero, List.getElem_cons_succ])
            refine wpAnyH_ready (rs := [8]) (by kernel_rfl) (by simp) (AllReadyH.cons rfl (fun K hK => ?_) AllReadyH.nil)
            obtain ⟨v4, HV4⟩ : ∃ u, Hid (u = (v3.alloc (.cells (madeCells #[.int .i64 0] b.length) 3))) := ⟨_, rfl⟩
            obtain ⟨m3, HQ⟩ : ∃ q, Hid (q = v3.heap.size) := ⟨_, rfl⟩
            have HM4 := Lib.hid (show Made w3 v4 ((m3, (.cells (madeCells #[.int .i64 0] b.length) 3)) :: [(m1, (.cells (madeCells #[.int .i64 0] l.length) 3)), (m2, (.cells (madeCells #[.int .i64 0] l.length) 3)), (b6, (.cells #[.slice none 0 0, .slice none 0 0, .slice none 0 0, .slice none 0 0] 42))]) by rw [HV4.out]; exact Made.alloc HM3.out HQ.out)
            go_simp
            rw [← HV4.out, ← HQ.out]
            refine hK.out _ _ trivial (fun hHeld => ?_)
            clear hK K HQ
            (try simp only [Act.put, List.setIfInBounds_toArray, List.set_cons_zero, List.set_cons_succ, List.getElem_toArray, List.getElem_cons_zero, List.getElem_cons_succ])
            first
              | (refine wpAnyH_take (i := 9) rfl (by kernel_rfl) (by kernel_rfl) (by kernel_rfl) (fun _ _ _ h => h) (Or.inl ⟨by rfl, by intro w hSw; (go_simp <;> with_reducible rfl)⟩) (by assumption) ?_)
              | (refine wpAnyH_take (i := 9) rfl (by kernel_rfl) (by kernel_rfl) (by kernel_rfl) (fun _ _ _ h => h) (Or.inr ⟨by rfl, rfl⟩) (by assumption) ?_)
            (try simp only [Act.put, List.setIfInBounds_toArray, List.set_cons_zero, List.set_cons_succ, List.getElem_toArray, List.getElem_cons_zero, List.getElem_cons_succ])
            obtain ⟨Y, HY⟩ : ∃ u, Hid (u = v4.setCells b6 0 (#[.slice none 0 0, .slice (some ⟨m1, 0, none⟩) l.length l.length, .slice (some ⟨m2, 0, none⟩) l.length l.length, .slice (some ⟨m3, 0, none⟩) b.length b.length] : Array Value).toList) := ⟨_, rfl⟩
            have h6 := (HM4.out.2.1 (b6, (.cells #[.slice none 0 0, .slice none 0 0, .slice none 0 0, .slice none 0 0] 42)) (by simp))
            have HTH6 : Hid (v4.there b6 0 (#[.slice none 0 0, .slice (some ⟨m1, 0, none⟩) l.length l.length, .slice (some ⟨m2, 0, none⟩) l.length l.length, .slice (some ⟨m3, 0, none⟩) b.length b.length] : Array Value).size) := Lib.hid (there_at h6.2 rfl)
            have HSEEN : Hid (Seen w3 Y b6 m1 m2 m3 (cntL [] 1 l.length) (cntL [] 2 l.length) (cntL [] 3 b.length)) := Lib.hid (by
              rw [HY.out]
              exact seen_start HM4.out.1 h6 (HM4.out.2.1 (m1, (.cells (madeCells #[.int .i64 0] l.length) 3)) (by simp)) (HM4.out.2.1 (m2, (.cells (madeCells #[.int .i64 0] l.length) 3)) (by simp)) (HM4.out.2.1 (m3, (.cells (madeCells #[.int .i64 0] b.length) 3)) (by simp)) (by have := HM4.out.2.2; simp at this; omega))
            refine wpAnyH_ready (rs := [11]) (by kernel_rfl) (by simp) (AllReadyH.cons rfl (fun K hK => ?_) AllReadyH.nil)
            refine wp_store_mid 42 _ _ rfl b6 0 #[.slice none 0 0, .slice (some ⟨m1, 0, none⟩) l.length l.length, .slice (some ⟨m2, 0, none⟩) l.length l.length, .slice (some ⟨m3, 0, none⟩) b.length b.length] (by kernel_rfl) (by kernel_rfl) HTH6.out HI42.out (by simp [Value.oneCell']) ?_
            (try simp only [List.toList_toArray])
            rw [← HY.out]
            refine hK.out _ _ trivial (fun hHeld => ?_)
            clear hK K
            (try simp only [Act.put, List.setIfInBounds_toArray, List.set_cons_zero, List.set_cons_succ, List.getElem_toArray, List.getElem_cons_zero, List.getElem_cons_succ])
            refine wpAnyH_done (by kernel_rfl) ?_ _
            clear hHeld
            clear h6 HTH6 HY HM4 HM3 HM2 HM1 HV4 HV3 HV2 HV1
            revert HSEEN
            clear v4 v3 v2 v1
            revert Y
            revert b6
            revert m3
            revert m2
            revert m1
            exact key.get
          · obtain ⟨v3, HV3⟩ : ∃ u, Hid (u = (v2.alloc (.cells (madeCells #[.int .i64 0] b.length) 3))) := ⟨_, rfl⟩
            obtain ⟨m3, HQ⟩ : ∃ q, Hid (q = v2.heap.size) := ⟨_, rfl⟩
            have HM3 := Lib.hid (show Made w3 v3 ((m3, (.cells (madeCells #[.int .i64 0] b.length) 3)) :: [(m2, (.cells (madeCells #[.int .i64 0] l.length) 3)), (b6, (.cells #[.slice none 0 0, .slice none 0 0, .slice none 0 0, .slice none 0 0] 42))]) by rw [HV3.out]; exact Made.alloc HM2.out HQ.out)
            go_simp
            rw [← HV3.out, ← HQ.out]
            refine hK.out _ _ trivial (fun hHeld => ?_)
            clear hK K HQ
            (try simp only [Act.put, List.setIfInBounds_toArray, List.set_cons_zero, List.set_cons_succ, List.getElem_toArray, List.getElem_cons_zero, List.getElem_cons_succ])
            refine wpAnyH_ready (rs := [2]) (by kernel_rfl) (by simp) (AllReadyH.cons rfl (fun K hK => ?_) AllReadyH.nil)
            obtain ⟨v4, HV4⟩ : ∃ u, Hid (u = (v3.alloc (.cells (madeCells #[.int .i64 0] l.length) 3))) := ⟨_, rfl⟩
            obtain ⟨m1, HQ⟩ : ∃ q, Hid (q = v3.heap.size) := ⟨_, rfl⟩
            have HM4 := Lib.hid (show Made w3 v4 ((m1, (.cells (madeCells #[.int .i64 0] l.length) 3)) :: [(m3, (.cells (madeCells #[.int .i64 0] b.length) 3)), (m2, (.cells (madeCells #[.int .i64 0] l.length) 3)), (b6, (.cells #[.slice none 0 0, .slice none 0 0, .slice none 0 0, .slice none 0 0] 42))]) by rw [HV4.out]; exact Made.alloc HM3.out HQ.out)
            go_simp
            rw [← HV4.out, ← HQ.out]
            refine hK.out _ _ trivial (fun hHeld => ?_)
            clear hK K HQ
            (try simp only [Act.put, List.setIfInBounds_toArray, List.set_cons_zero, List.set_cons_succ, List.getElem_toArray, List.getElem_cons_zero, List.getElem_cons_succ])
            first
              | (refine wpAnyH_take (i := 9) rfl (by kernel_rfl) (by kernel_rfl) (by kernel_rfl) (fun _ _ _ h => h) (Or.inl ⟨by rfl, by intro w hSw; (go_simp <;> with_reducible rfl)⟩) (by assumption) ?_)
              | (refine wpAnyH_take (i := 9) rfl (by kernel_rfl) (by kernel_rfl) (by kernel_rfl) (fun _ _ _ h => h) (Or.inr ⟨by rfl, rfl⟩) (by assumption) ?_)
            (try simp only [Act.put, List.setIfInBounds_toArray, List.set_cons_zero, List.set_cons_succ, List.getElem_toArray, List.getElem_cons_zero, List.getElem_cons_succ])
            obtain ⟨Y, HY⟩ : ∃ u, Hid (u = v4.setCells b6 0 (#[.slice none 0 0, .slice (some ⟨m1, 0, none⟩) l.length l.length, .slice (some ⟨m2, 0, none⟩) l.length l.length, .slice (some ⟨m3, 0, none⟩) b.length b.length] : Array Value).toList) := ⟨_, rfl⟩
            have h6 := (HM4.out.2.1 (b6, (.cells #[.slice none 0 0, .slice none 0 0, .slice none 0 0, .slice none 0 0] 42)) (by simp))
            have HTH6 : Hid (v4.there b6 0 (#[.slice none 0 0, .slice (some ⟨m1, 0, none⟩) l.length l.length, .slice (some ⟨m2, 0, none⟩) l.length l.length, .slice (some ⟨m3, 0, none⟩) b.length b.length] : Array Value).size) := Lib.hid (there_at h6.2 rfl)
            have HSEEN : Hid (Seen w3 Y b6 m1 m2 m3 (cntL [] 1 l.length) (cntL [] 2 l.length) (cntL [] 3 b.length)) := Lib.hid (by
              rw [HY.out]
              exact seen_start HM4.out.1 h6 (HM4.out.2.1 (m1, (.cells (madeCells #[.int .i64 0] l.length) 3)) (by simp)) (HM4.out.2.1 (m2, (.cells (madeCells #[.int .i64 0] l.length) 3)) (by simp)) (HM4.out.2.1 (m3, (.cells (madeCells #[.int .i64 0] b.length) 3)) (by simp)) (by have := HM4.out.2.2; simp at this; omega))
            refine wpAnyH_ready (rs := [11]) (by kernel_rfl) (by simp) (AllReadyH.cons rfl (fun K hK => ?_) AllReadyH.nil)
            refine wp_store_mid 42 _ _ rfl b6 0 #[.slice none 0 0, .slice (some ⟨m1, 0, none⟩) l.length l.length, .slice (some ⟨m2, 0, none⟩) l.length l.length, .slice (some ⟨m3, 0, none⟩) b.length b.length] (by kernel_rfl) (by kernel_rfl) HTH6.out HI42.out (by simp [Value.oneCell']) ?_
            (try simp only [List.toList_toArray])
            rw [← HY.out]
            refine hK.out _ _ trivial (fun hHeld => ?_)
            clear hK K
            (try simp only [Act.put, List.setIfInBounds_toArray, List.set_cons_zero, List.set_cons_succ, List.getElem_toArray, List.getElem_cons_zero, List.getElem_cons_succ])
            refine wpAnyH_done (by kernel_rfl) ?_ _
            clear hHeld
            clear h6 HTH6 HY HM4 HM3 HM2 HM1 HV4 HV3 HV2 HV1
            revert HSEEN
            clear v4 v3 v2 v1
            revert Y
            revert b6
            revert m3
            revert m2
            revert m1
            exact key.get
        · obtain ⟨v2, HV2⟩ : ∃ u, Hid (u = (v1.alloc (.cells (madeCells #[.int .i64 0] b.length) 3))) := ⟨_, rfl⟩
          obtain ⟨m3, HQ⟩ : ∃ q, Hid (q = v1.heap.size) := ⟨_, rfl⟩
          have HM2 := Lib.hid (show Made w3 v2 ((m3, (.cells (madeCells #[.int .i64 0] b.length) 3)) :: [(b6, (.cells #[.slice none 0 0, .slice none 0 0, .slice none 0 0, .slice none 0 0] 42))]) by rw [HV2.out]; exact Made.alloc HM1.out HQ.out)
          go_simp
          rw [← HV2.out, ← HQ.out]
          refine hK.out _ _ trivial (fun hHeld => ?_)
          clear hK K HQ
          (try simp only [Act.put, List.setIfInBounds_toArray, List.set_cons_zero, List.set_cons_succ, List.getElem_toArray, List.getElem_cons_zero, List.getElem_cons_succ])
          refine wpAnyH_ready (rs := [2, 5]) (by kernel_rfl) (by simp) (AllReadyH.cons rfl (fun K hK => ?_) (AllReadyH.cons rfl (fun K hK => ?_) AllReadyH.nil))
          · obtain ⟨v3, HV3⟩ : ∃ u, Hid (u = (v2.alloc (.cells (madeCells #[.int .i64 0] l.length) 3))) := ⟨_, rfl⟩
            obtain ⟨m1, HQ⟩ : ∃ q, Hid (q = v2.heap.size) := ⟨_, rfl⟩
            have HM3 := Lib.hid (show Made w3 v3 ((m1, (.cells (madeCells #[.int .i64 0] l.length) 3)) :: [(m3, (.cells (madeCells #[.int .i64 0] b.length) 3)), (b6, (.cells #[.slice none 0 0, .slice none 0 0, .slice none 0 0, .slice none 0 0] 42))]) by rw [HV3.out]; exact Made.alloc HM2.out HQ.out)
            go_simp
            rw [← HV3.out, ← HQ.out]
            refine hK.out _ _ trivial (fun hHeld => ?_)
            clear hK K HQ
            (try simp only [Act.put, List.setIfInBounds_toArray, List.set_cons_zero, List.set_cons_succ, List.getElem_toArray, List.getElem_cons_zero, List.getElem_cons_succ])
            refine wpAnyH_ready (rs := [5]) (by kernel_rfl) (by simp) (AllReadyH.cons rfl (fun K hK => ?_) AllReadyH.nil)
            obtain ⟨v4, HV4⟩ : ∃ u, Hid (u = (v3.alloc (.cells (madeCells #[.int .i64 0] l.length) 3))) := ⟨_, rfl⟩
            obtain ⟨m2, HQ⟩ : ∃ q, Hid (q = v3.heap.size) := ⟨_, rfl⟩
            have HM4 := Lib.hid (show Made w3 v4 ((m2, (.cells (madeCells #[.int .i64 0] l.length) 3)) :: [(m1, (.cells (madeCells #[.int .i64 0] l.length) 3)), (m3, (.cells (madeCells #[.int .i64 0] b.length) 3)), (b6, (.cells #[.slice none 0 0, .slice none 0 0, .slice none 0 0, .slice none 0 0] 42))]) by rw [HV4.out]; exact Made.alloc HM3.out HQ.out)
            go_simp
            rw [← HV4.out, ← HQ.out]
            refine hK.out _ _ trivial (fun hHeld => ?_)
            clear hK K HQ
            (try simp only [Act.put, List.setIfInBounds_toArray, List.set_cons_zero, List.set_cons_succ, List.getElem_toArray, List.getElem_cons_zero, List.getElem_cons_succ])
            first
              | (refine wpAnyH_take (i := 9) rfl (by kernel_rfl) (by kernel_rfl) (by kernel_rfl) (fun _ _ _ h => h) (Or.inl ⟨by rfl, by intro w hSw; (go_simp <;> with_reducible rfl)⟩) (by assumption) ?_)
              | (refine wpAnyH_take (i := 9) rfl (by kernel_rfl) (by kernel_rfl) (by kernel_rfl) (fun _ _ _ h => h) (Or.inr ⟨by rfl, rfl⟩) (by assumption) ?_)
            (try simp only [Act.put, List.setIfInBounds_toArray, List.set_cons_zero, List.set_cons_succ, List.getElem_toArray, List.getElem_cons_zero, List.getElem_cons_succ])
            obtain ⟨Y, HY⟩ : ∃ u, Hid (u = v4.setCells b6 0 (#[.slice none 0 0, .slice (some ⟨m1, 0, none⟩) l.length l.length, .slice (some ⟨m2, 0, none⟩) l.length l.length, .slice (some ⟨m3, 0, none⟩) b.length b.length] : Array Value).toList) := ⟨_, rfl⟩
            have h6 := (HM4.out.2.1 (b6, (.cells #[.slice none 0 0, .slice none 0 0, .slice none 0 0, .slice none 0 0] 42)) (by simp))
            have HTH6 : Hid (v4.there b6 0 (#[.slice none 0 0, .slice (some ⟨m1, 0, none⟩) l.length l.length, .slice (some ⟨m2, 0, none⟩) l.length l.length, .slice (some ⟨m3, 0, none⟩) b.length b.length] : Array Value).size) := Lib.hid (there_at h6.2 rfl)
            have HSEEN : Hid (Seen w3 Y b6 m1 m2 m3 (cntL [] 1 l.length) (cntL [] 2 l.length) (cntL [] 3 b.length)) := Lib.hid (by
              rw [HY.out]
              exact seen_start HM4.out.1 h6 (HM4.out.2.1 (m1, (.cells (madeCells #[.int .i64 0] l.length) 3)) (by simp)) (HM4.out.2.1 (m2, (.cells (madeCells #[.int .i64 0] l.length) 3)) (by simp)) (HM4.out.2.1 (m3, (.cells (madeCells #[.int .i64 0] b.length) 3)) (by simp)) (by have := HM4.out.2.2; simp at this; omega))
            refine wpAnyH_ready (rs := [11]) (by kernel_rfl) (by simp) (AllReadyH.cons rfl (fun K hK => ?_) AllReadyH.nil)
            refine wp_store_mid 42 _ _ rfl b6 0 #[.slice none 0 0, .slice (some ⟨m1, 0, none⟩) l.length l.length, .slice (some ⟨m2, 0, none⟩) l.length l.length, .slice (some ⟨m3, 0, none⟩) b.length b.length] (by kernel_rfl) (by kernel_rfl) HTH6.out HI42.out (by simp [Value.oneCell']) ?_
            (try simp only [List.toList_toArray])
            rw [← HY.out]
            refine hK.out _ _ trivial (fun hHeld => ?_)
            clear hK K
            (try simp only [Act.put, List.setIfInBounds_toArray, List.set_cons_zero, List.set_cons_succ, List.getElem_toArray, List.getElem_cons_zero, List.getElem_cons_succ])
            refine wpAnyH_done (by kernel_rfl) ?_ _
            clear hHeld
            clear h6 HTH6 HY HM4 HM3 HM2 HM1 HV4 HV3 HV2 HV1
            revert HSEEN
            clear v4 v3 v2 v1
            revert Y
            revert b6
            revert m3
            revert m2
            revert m1
            exact key.get
          · obtain ⟨v3, HV3⟩ : ∃ u, Hid (u = (v2.alloc (.cells (madeCells #[.int .i64 0] l.length) 3))) := ⟨_, rfl⟩
            obtain ⟨m2, HQ⟩ : ∃ q, Hid (q = v2.heap.size) := ⟨_, rfl⟩
            have HM3 := Lib.hid (show Made w3 v3 ((m2, (.cells (madeCells #[.int .i64 0] l.length) 3)) :: [(m3, (.cells (madeCells #[.int .i64 0] b.length) 3)), (b6, (.cells #[.slice none 0 0, .slice none 0 0, .slice none 0 0, .slice none 0 0] 42))]) by rw [HV3.out]; exact Made.alloc HM2.out HQ.out)
            go_simp
            rw [← HV3.out, ← HQ.out]
            refine hK.out _ _ trivial (fun hHeld => ?_)
            clear hK K HQ
            (try simp only [Act.put, List.setIfInBounds_toArray, List.set_cons_zero, List.set_cons_succ, List.getElem_toArray, List.getElem_cons_zero, List.getElem_cons_succ])
            refine wpAnyH_ready (rs := [2]) (by kernel_rfl) (by simp) (AllReadyH.cons rfl (fun K hK => ?_) AllReadyH.nil)
            obtain ⟨v4, HV4⟩ : ∃ u, Hid (u = (v3.alloc (.cells (madeCells #[.int .i64 0] l.length) 3))) := ⟨_, rfl⟩
            obtain ⟨m1, HQ⟩ : ∃ q, Hid (q = v3.heap.size) := ⟨_, rfl⟩
            have HM4 := Lib.hid (show Made w3 v4 ((m1, (.cells (madeCells #[.int .i64 0] l.length) 3)) :: [(m2, (.cells (madeCells #[.int .i64 0] l.length) 3)), (m3, (.cells (madeCells #[.int .i64 0] b.length) 3)), (b6, (.cells #[.slice none 0 0, .slice none 0 0, .slice none 0 0, .slice none 0 0] 42))]) by rw [HV4.out]; exact Made.alloc HM3.out HQ.out)
            go_simp
            rw [← HV4.out, ← HQ.out]
            refine hK.out _ _ trivial (fun hHeld => ?_)
            clear hK K HQ
            (try simp only [Act.put, List.setIfInBounds_toArray, List.set_cons_zero, List.set_cons_succ, List.getElem_toArray, List.getElem_cons_zero, List.getElem_cons_succ])
            first
              | (refine wpAnyH_take (i := 9) rfl (by kernel_rfl) (by kernel_rfl) (by kernel_rfl) (fun _ _ _ h => h) (Or.inl ⟨by rfl, by intro w hSw; (go_simp <;> with_reducible rfl)⟩) (by assumption) ?_)
              | (refine wpAnyH_take (i := 9) rfl (by kernel_rfl) (by kernel_rfl) (by kernel_rfl) (fun _ _ _ h => h) (Or.inr ⟨by rfl, rfl⟩) (by assumption) ?_)
            (try simp only [Act.put, List.setIfInBounds_toArray, List.set_cons_zero, List.set_cons_succ, List.getElem_toArray, List.getElem_cons_zero, List.getElem_cons_succ])
            obtain ⟨Y, HY⟩ : ∃ u, Hid (u = v4.setCells b6 0 (#[.slice none 0 0, .slice (some ⟨m1, 0, none⟩) l.length l.length, .slice (some ⟨m2, 0, none⟩) l.length l.length, .slice (some ⟨m3, 0, none⟩) b.length b.length] : Array Value).toList) := ⟨_, rfl⟩
            have h6 := (HM4.out.2.1 (b6, (.cells #[.slice none 0 0, .slice none 0 0, .slice none 0 0, .slice none 0 0] 42)) (by simp))
            have HTH6 : Hid (v4.there b6 0 (#[.slice none 0 0, .slice (some ⟨m1, 0, none⟩) l.length l.length, .slice (some ⟨m2, 0, none⟩) l.length l.length, .slice (some ⟨m3, 0, none⟩) b.length b.length] : Array Value).size) := Lib.hid (there_at h6.2 rfl)
            have HSEEN : Hid (Seen w3 Y b6 m1 m2 m3 (cntL [] 1 l.length) (cntL [] 2 l.length) (cntL [] 3 b.length)) := Lib.hid (by
              rw [HY.out]
              exact seen_start HM4.out.1 h6 (HM4.out.2.1 (m1, (.cells (madeCells #[.int .i64 0] l.length) 3)) (by simp)) (HM4.out.2.1 (m2, (.cells (madeCells #[.int .i64 0] l.length) 3)) (by simp)) (HM4.out.2.1 (m3, (.cells (madeCells #[.int .i64 0] b.length) 3)) (by simp)) (by have := HM4.out.2.2; simp at this; omega))
            refine wpAnyH_ready (rs := [11]) (by kernel_rfl) (by simp) (AllReadyH.cons rfl (fun K hK => ?_) AllReadyH.nil)
            refine wp_store_mid 42 _ _ rfl b6 0 #[.slice none 0 0, .slice (some ⟨m1, 0, none⟩) l.length l.length, .slice (some ⟨m2, 0, none⟩) l.length l.length, .slice (some ⟨m3, 0, none⟩) b.length b.length] (by kernel_rfl) (by kernel_rfl) HTH6.out HI42.out (by simp [Value.oneCell']) ?_
            (try simp only [List.toList_toArray])
            rw [← HY.out]
            refine hK.out _ _ trivial (fun hHeld => ?_)
            clear hK K
            (try simp only [Act.put, List.setIfInBounds_toArray, List.set_cons_zero, List.set_cons_succ, List.getElem_toArray, List.getElem_cons_zero, List.getElem_cons_succ])
            refine wpAnyH_done (by kernel_rfl) ?_ _
            clear hHeld
            clear h6 HTH6 HY HM4 HM3 HM2 HM1 HV4 HV3 HV2 HV1
            revert HSEEN
            clear v4 v3 v2 v1
            revert Y
            revert b6
            revert m3
            revert m2
            revert m1
            exact key.get
    intro m1 m2 m3 b6 Y HSEEN
    clear hmk1 hmk2 hlw hbw HI42
    go_wp2
    go_loopw [44] (fun ix wr => ∃ k : Nat, k ≤ L.length ∧ ix = .int .i64 k ∧ Seen w3 wr b6 m1 m2 m3 (cntL (L.take k) 1 l.length) (cntL (L.take k) 2 l.length) (cntL (L.take k) 3 b.length)) (fun ix _ => L.length - (intOf ix).toNat)
    case atStart => exact ⟨0, Nat.zero_le _, rfl, HSEEN.out⟩
    case round =>
      clear HSEEN
      obtain ⟨k, hk, rfl, hsw⟩ := hrel
      have HSW := Lib.hid hsw
      by_cases hlt : k < L.length
      · obtain ⟨bb, oo, rfl, hbl, hcx⟩ := HI3.out (by omega)
        obtain ⟨x, hx⟩ : ∃ x, L[k]? = some x := ⟨_, List.getElem?_eq_getElem hlt⟩
        have hlt2 : (k : Int) < (L.length : Int) := by omega
        have e0 := (hsw.bel.cell (p := ⟨bb, oo + k * 2, none⟩) hbl).trans (hcx k x hx).1
        have e1 := (hsw.bel.cell (p := ⟨bb, oo + k * 2 + 1, none⟩) hbl).trans (hcx k x hx).2
        obtain ⟨V, HV⟩ : ∃ u, Hid (u = wr.alloc (.cells #[.int .i64 x.kind, .int .i64 x.idx] 37)) := ⟨_, rfl⟩
        have HBX : Hid (Below wr.heap.size wr V) := Lib.hid (by rw [HV.out]; exact (Below.refl _ _).alloc (Nat.le_refl _) _)
        have HXB : Hid (V.heap[wr.heap.size]? = some (.cells #[.int .i64 x.kind, .int .i64 x.idx] 37 (0, 0))) := Lib.hid (by rw [HV.out]; exact heap_alloc_new _ _)
        have HX := Lib.hid hx; have HLT := Lib.hid hlt
        have hkw := IntWalk.i64_in ((k : Int) + 1) (by have := HLL.out; have := HL60.out; have := HB60.out; omega)
        obtain ⟨j, hj, hkj⟩ := HCS.out x (List.mem_of_getElem? hx)
        have hz' := cnt_new HDIS.out hx
        clear hsw hcx hbl hlt hx
        rcases hkj with ⟨hk1, hjn⟩ | ⟨hk1, hjn⟩ | ⟨hk1, hjn⟩
        · have HJ := Lib.hid hjn
          have hz := cnt_new HDIS.out HX.out
          rw [hk1] at hz
          have HSX := Lib.hid (HSW.out.later HBX.out)
          have hrow := HSX.out.r1
          have hcell : V.cell? ⟨m1, j, none⟩ = some (.int .i64 0) := by
            have h0 := cntL_at (L.take k) 1 hjn
            rw [show (cnt (L.take k) 1 (j : Int)) = 0 by rw [← hj]; exact hz] at h0
            simp [World.cell?, hrow, icell, h0]
          have hfro : V.frozen? ⟨m1, j, none⟩ = false := by simp [World.frozen?, hrow]
          have hb6c : V.cell? ⟨b6, 1, none⟩ = some (.slice (some ⟨m1, 0, none⟩) l.length l.length) := by
            have h := cell_at19 HSX.out.bx (i := 1) rfl
            simp only [cntL_len] at h
            exact h
          have hbox0 : V.cell? ⟨wr.heap.size, 0, none⟩ = some (.int .i64 1) := by rw [← hk1]; exact cell_at19 HXB.out rfl
          have hbox1 : V.cell? ⟨wr.heap.size, 1, none⟩ = some (.int .i64 (j : Int)) := by rw [← hj]; exact cell_at19 HXB.out rfl
          have HNX := Lib.hid (show Seen w3 (V.drew.drew.setCell ⟨m1, j, none⟩ (.int .i64 1)) b6 m1 m2 m3 (cntL (L.take (k + 1)) 1 l.length) (cntL (L.take (k + 1)) 2 l.length) (cntL (L.take (k + 1)) 3 b.length) by
            have h := Seen.put1 (HSX.out.later ((Below.refl V.heap.size V).drew.drew)) (j := j) (z := 1) (by rw [cntL_len]; exact hjn)
            rw [take_pre19 HX.out, cntL_other _ x 2 _ (by rw [hk1]; decide), cntL_other _ x 3 _ (by rw [hk1]; decide)]
            have h2 := cntL_set (L.take k) x l.length j hj hz'
            rw [hk1] at h2
            rw [h2]
            exact h)
          have HSC : Hid (∀ U, Below V.heap.size V U → U.cell? ⟨m1, j, none⟩ = some (.int .i64 0) ∧ U.cell? ⟨b6, 1, none⟩ = some (.slice (some ⟨m1, 0, none⟩) l.length l.length) ∧ U.cell? ⟨wr.heap.size, 0, none⟩ = some (.int .i64 1) ∧ U.cell? ⟨wr.heap.size, 1, none⟩ = some (.int .i64 (j : Int))) := Lib.hid (fun U hU =>
            ⟨(hU.cell (p := ⟨m1, j, none⟩) (World.block_lt_of_cell? V _ hcell)).trans hcell, (hU.cell (p := ⟨b6, 1, none⟩) (World.block_lt_of_cell? V _ hb6c)).trans hb6c, (hU.cell (p := ⟨wr.heap.size, 0, none⟩) (World.block_lt_of_cell? V _ hbox0)).trans hbox0, (hU.cell (p := ⟨wr.heap.size, 1, none⟩) (World.block_lt_of_cell? V _ hbox1)).trans hbox1⟩)
          have hj0 : decide ((j : Int) < 0) = false := decide_eq_false (by omega)
          have hj1 : decide (l.length ≤ j) = false := decide_eq_false (by omega)
          have hj2 : decide ((l.length : Int) ≤ (j : Int)) = false := decide_eq_false (by omega)
          have hj3 : (j : Int) < (l.length : Int) := by omega
          have hj4 : (0 : Int) ≤ (j : Int) := by omega
          rw [hk1, hj] at HV
          rw [hk1] at e0
          rw [hj] at e1
          clear hz hrow hk1 hj
          go_wp2_with (rw [← HV.out])
          refine wp_region_held_drew (S := fun U => Below V.heap.size V U) (by kernel_rfl) ((Below.refl _ _).drew) (fun hHeld => ?_)
          first
            | (refine wpAnyH_take (i := 0) rfl (by kernel_rfl) (by kernel_rfl) (by kernel_rfl) (fun _ _ _ h => h) (Or.inl ⟨by rfl, by intro w hSw; obtain ⟨q0, q1, q2, q3⟩ := HSC.out _ hSw; (go_simp <;> with_reducible rfl)⟩) (by assumption) ?_)
            | (refine wpAnyH_take (i := 0) rfl (by kernel_rfl) (by kernel_rfl) (by kernel_rfl) (fun _ _ _ h => h) (Or.inr ⟨by rfl, rfl⟩) (by assumption) ?_)
          (try simp only [Act.put, List.setIfInBounds_toArray, List.set_cons_zero, List.set_cons_succ, List.getElem_toArray, List.getElem_cons_zero, List.getElem_cons_succ])
          first
            | (refine wpAnyH_take (i := 1) rfl (by kernel_rfl) (by kernel_rfl) (by kernel_rfl) (fun _ _ _ h => h) (Or.inl ⟨by rfl, by intro w hSw; obtain ⟨q0, q1, q2, q3⟩ := HSC.out _ hSw; (go_simp <;> with_reducible rfl)⟩) (by assumption) ?_)
            | (refine wpAnyH_take (i := 1) rfl (by kernel_rfl) (by kernel_rfl) (by kernel_rfl) (fun _ _ _ h => h) (Or.inr ⟨by rfl, rfl⟩) (by assumption) ?_)
          (try simp only [Act.put, List.setIfInBounds_toArray, List.set_cons_zero, List.set_cons_succ, List.getElem_toArray, List.getElem_cons_zero, List.getElem_cons_succ])
          first
            | (refine wpAnyH_take (i := 2) rfl (by kernel_rfl) (by kernel_rfl) (by kernel_rfl) (fun _ _ _ h => h) (Or.inl ⟨by rfl, by intro w hSw; obtain ⟨q0, q1, q2, q3⟩ := HSC.out _ hSw; (go_simp <;> with_reducible rfl)⟩) (by assumption) ?_)
            | (refine wpAnyH_take (i := 2) rfl (by kernel_rfl) (by kernel_rfl) (by kernel_rfl) (fun _ _ _ h => h) (Or.inr ⟨by rfl, rfl⟩) (by assumption) ?_)
          (try simp only [Act.put, List.setIfInBounds_toArray, List.set_cons_zero, List.set_cons_succ, List.getElem_toArray, List.getElem_cons_zero, List.getElem_cons_succ])
          first
            | (refine wpAnyH_take (i := 3) rfl (by kernel_rfl) (by kernel_rfl) (by kernel_rfl) (fun _ _ _ h => h) (Or.inl ⟨by rfl, by intro w hSw; obtain ⟨q0, q1, q2, q3⟩ := HSC.out _ hSw; (go_simp <;> with_reducible rfl)⟩) (by assumption) ?_)
            | (refine wpAnyH_take (i := 3) rfl (by kernel_rfl) (by kernel_rfl) (by kernel_rfl) (fun _ _ _ h => h) (Or.inr ⟨by rfl, rfl⟩) (by assumption) ?_)
          (try simp only [Act.put, List.setIfInBounds_toArray, List.set_cons_zero, List.set_cons_succ, List.getElem_toArray, List.getElem_cons_zero, List.getElem_cons_succ])
          first
            | (refine wpAnyH_take (i := 4) rfl (by kernel_rfl) (by kernel_rfl) (by kernel_rfl) (fun _ _ _ h => h) (Or.inl ⟨by rfl, by intro w hSw; obtain ⟨q0, q1, q2, q3⟩ := HSC.out _ hSw; (go_simp <;> with_reducible rfl)⟩) (by assumption) ?_)
            | (refine wpAnyH_take (i := 4) rfl (by kernel_rfl) (by kernel_rfl) (by kernel_rfl) (fun _ _ _ h => h) (Or.inr ⟨by rfl, rfl⟩) (by assumption) ?_)
          (try simp only [Act.put, List.setIfInBounds_toArray, List.set_cons_zero, List.set_cons_succ, List.getElem_toArray, List.getElem_cons_zero, List.getElem_cons_succ])
          first
            | (refine wpAnyH_take (i := 5) rfl (by kernel_rfl) (by kernel_rfl) (by kernel_rfl) (fun _ _ _ h => h) (Or.inl ⟨by rfl, by intro w hSw; obtain ⟨q0, q1, q2, q3⟩ := HSC.out _ hSw; (go_simp <;> with_reducible rfl)⟩) (by assumption) ?_)
            | (refine wpAnyH_take (i := 5) rfl (by kernel_rfl) (by kernel_rfl) (by kernel_rfl) (fun _ _ _ h => h) (Or.inr ⟨by rfl, rfl⟩) (by assumption) ?_)
          (try simp only [Act.put, List.setIfInBounds_toArray, List.set_cons_zero, List.set_cons_succ, List.getElem_toArray, List.getElem_cons_zero, List.getElem_cons_succ])
          first
            | (refine wpAnyH_take (i := 6) rfl (by kernel_rfl) (by kernel_rfl) (by kernel_rfl) (fun _ _ _ h => h) (Or.inl ⟨by rfl, by intro w hSw; obtain ⟨q0, q1, q2, q3⟩ := HSC.out _ hSw; (go_simp <;> with_reducible rfl)⟩) (by assumption) ?_)
            | (refine wpAnyH_take (i := 6) rfl (by kernel_rfl) (by kernel_rfl) (by kernel_rfl) (fun _ _ _ h => h) (Or.inr ⟨by rfl, rfl⟩) (by assumption) ?_)
          (try simp only [Act.put, List.setIfInBounds_toArray, List.set_cons_zero, List.set_cons_succ, List.getElem_toArray, List.getElem_cons_zero, List.getElem_cons_succ])
          first
            | (refine wpAnyH_take (i := 7) rfl (by kernel_rfl) (by kernel_rfl) (by kernel_rfl) (fun _ _ _ h => h) (Or.inl ⟨by rfl, by intro w hSw; obtain ⟨q0, q1, q2, q3⟩ := HSC.out _ hSw; (go_simp <;> with_reducible rfl)⟩) (by assumption) ?_)
            | (refine wpAnyH_take (i := 7) rfl (by kernel_rfl) (by kernel_rfl) (by kernel_rfl) (fun _ _ _ h => h) (Or.inr ⟨by rfl, rfl⟩) (by assumption) ?_)
          (try simp only [Act.put, List.setIfInBounds_toArray, List.set_cons_zero, List.set_cons_succ, List.getElem_toArray, List.getElem_cons_zero, List.getElem_cons_succ])
          first
            | (refine wpAnyH_take (i := 8) rfl (by kernel_rfl) (by kernel_rfl) (by kernel_rfl) (fun _ _ _ h => h) (Or.inl ⟨by rfl, by intro w hSw; obtain ⟨q0, q1, q2, q3⟩ := HSC.out _ hSw; (go_simp <;> with_reducible rfl)⟩) (by assumption) ?_)
            | (refine wpAnyH_take (i := 8) rfl (by kernel_rfl) (by kernel_rfl) (by kernel_rfl) (fun _ _ _ h => h) (Or.inr ⟨by rfl, rfl⟩) (by assumption) ?_)
          (try simp only [Act.put, List.setIfInBounds_toArray, List.set_cons_zero, List.set_cons_succ, List.getElem_toArray, List.getElem_cons_zero, List.getElem_cons_succ])
          first
            | (refine wpAnyH_take (i := 9) rfl (by kernel_rfl) (by kernel_rfl) (by kernel_rfl) (fun _ _ _ h => h) (Or.inl ⟨by rfl, by intro w hSw; obtain ⟨q0, q1, q2, q3⟩ := HSC.out _ hSw; (go_simp <;> with_reducible rfl)⟩) (by assumption) ?_)
            | (refine wpAnyH_take (i := 9) rfl (by kernel_rfl) (by kernel_rfl) (by kernel_rfl) (fun _ _ _ h => h) (Or.inr ⟨by rfl, rfl⟩) (by assumption) ?_)
          (try simp only [Act.put, List.setIfInBounds_toArray, List.set_cons_zero, List.set_cons_succ, List.getElem_toArray, List.getElem_cons_zero, List.getElem_cons_succ])
          first
            | (refine wpAnyH_take (i := 10) rfl (by kernel_rfl) (by kernel_rfl) (by kernel_rfl) (fun _ _ _ h => h) (Or.inl ⟨by rfl, by intro w hSw; obtain ⟨q0, q1, q2, q3⟩ := HSC.out _ hSw; (go_simp <;> with_reducible rfl)⟩) (by assumption) ?_)
            | (refine wpAnyH_take (i := 10) rfl (by kernel_rfl) (by kernel_rfl) (by kernel_rfl) (fun _ _ _ h => h) (Or.inr ⟨by rfl, rfl⟩) (by assumption) ?_)
          (try simp only [Act.put, List.setIfInBounds_toArray, List.set_cons_zero, List.set_cons_succ, List.getElem_toArray, List.getElem_cons_zero, List.getElem_cons_succ])
          first
            | (refine wpAnyH_take (i := 11) rfl (by kernel_rfl) (by kernel_rfl) (by kernel_rfl) (fun _ _ _ h => h) (Or.inl ⟨by rfl, by intro w hSw; obtain ⟨q0, q1, q2, q3⟩ := HSC.out _ hSw; (go_simp <;> with_reducible rfl)⟩) (by assumption) ?_)
            | (refine wpAnyH_take (i := 11) rfl (by kernel_rfl) (by kernel_rfl) (by kernel_rfl) (fun _ _ _ h => h) (Or.inr ⟨by rfl, rfl⟩) (by assumption) ?_)
          (try simp only [Act.put, List.setIfInBounds_toArray, List.set_cons_zero, List.set_cons_succ, List.getElem_toArray, List.getElem_cons_zero, List.getElem_cons_succ])
          first
            | (refine wpAnyH_take (i := 12) rfl (by kernel_rfl) (by kernel_rfl) (by kernel_rfl) (fun _ _ _ h => h) (Or.inl ⟨by rfl, by intro w hSw; obtain ⟨q0, q1, q2, q3⟩ := HSC.out _ hSw; (go_simp <;> with_reducible rfl)⟩) (by assumption) ?_)
            | (refine wpAnyH_take (i := 12) rfl (by kernel_rfl) (by kernel_rfl) (by kernel_rfl) (fun _ _ _ h => h) (Or.inr ⟨by rfl, rfl⟩) (by assumption) ?_)
          (try simp only [Act.put, List.setIfInBounds_toArray, List.set_cons_zero, List.set_cons_succ, List.getElem_toArray, List.getElem_cons_zero, List.getElem_cons_succ])
          first
            | (refine wpAnyH_take (i := 13) rfl (by kernel_rfl) (by kernel_rfl) (by kernel_rfl) (fun _ _ _ h => h) (Or.inl ⟨by rfl, by intro w hSw; obtain ⟨q0, q1, q2, q3⟩ := HSC.out _ hSw; (go_simp <;> with_reducible rfl)⟩) (by assumption) ?_)
            | (refine wpAnyH_take (i := 13) rfl (by kernel_rfl) (by kernel_rfl) (by kernel_rfl) (fun _ _ _ h => h) (Or.inr ⟨by rfl, rfl⟩) (by assumption) ?_)
          (try simp only [Act.put, List.setIfInBounds_toArray, List.set_cons_zero, List.set_cons_succ, List.getElem_toArray, List.getElem_cons_zero, List.getElem_cons_succ])
          first
            | (refine wpAnyH_take (i := 14) rfl (by kernel_rfl) (by kernel_rfl) (by kernel_rfl) (fun _ _ _ h => h) (Or.inl ⟨by rfl, by intro w hSw; obtain ⟨q0, q1, q2, q3⟩ := HSC.out _ hSw; (go_simp <;> with_reducible rfl)⟩) (by assumption) ?_)
            | (refine wpAnyH_take (i := 14) rfl (by kernel_rfl) (by kernel_rfl) (by kernel_rfl) (fun _ _ _ h => h) (Or.inr ⟨by rfl, rfl⟩) (by assumption) ?_)
          (try simp only [Act.put, List.setIfInBounds_toArray, List.set_cons_zero, List.set_cons_succ, List.getElem_toArray, List.getElem_cons_zero, List.getElem_cons_succ])
          first
            | (refine wpAnyH_take (i := 15) rfl (by kernel_rfl) (by kernel_rfl) (by kernel_rfl) (fun _ _ _ h => h) (Or.inl ⟨by rfl, by intro w hSw; obtain ⟨q0, q1, q2, q3⟩ := HSC.out _ hSw; (go_simp <;> with_reducible rfl)⟩) (by assumption) ?_)
            | (refine wpAnyH_take (i := 15) rfl (by kernel_rfl) (by kernel_rfl) (by kernel_rfl) (fun _ _ _ h => h) (Or.inr ⟨by rfl, rfl⟩) (by assumption) ?_)
          (try simp only [Act.put, List.setIfInBounds_toArray, List.set_cons_zero, List.set_cons_succ, List.getElem_toArray, List.getElem_cons_zero, List.getElem_cons_succ])
          first
            | (refine wpAnyH_take (i := 16) rfl (by kernel_rfl) (by kernel_rfl) (by kernel_rfl) (fun _ _ _ h => h) (Or.inl ⟨by rfl, by intro w hSw; obtain ⟨q0, q1, q2, q3⟩ := HSC.out _ hSw; (go_simp <;> with_reducible rfl)⟩) (by assumption) ?_)
            | (refine wpAnyH_take (i := 16) rfl (by kernel_rfl) (by kernel_rfl) (by kernel_rfl) (fun _ _ _ h => h) (Or.inr ⟨by rfl, rfl⟩) (by assumption) ?_)
          (try simp only [Act.put, List.setIfInBounds_toArray, List.set_cons_zero, List.set_cons_succ, List.getElem_toArray, List.getElem_cons_zero, List.getElem_cons_succ])
          first
            | (refine wpAnyH_take (i := 17) rfl (by kernel_rfl) (by kernel_rfl) (by kernel_rfl) (fun _ _ _ h => h) (Or.inl ⟨by rfl, by intro w hSw; obtain ⟨q0, q1, q2, q3⟩ := HSC.out _ hSw; (go_simp <;> with_reducible rfl)⟩) (by assumption) ?_)
            | (refine wpAnyH_take (i := 17) rfl (by kernel_rfl) (by kernel_rfl) (by kernel_rfl) (fun _ _ _ h => h) (Or.inr ⟨by rfl, rfl⟩) (by assumption) ?_)
          (try simp only [Act.put, List.setIfInBounds_toArray, List.set_cons_zero, List.set_cons_succ, List.getElem_toArray, List.getElem_cons_zero, List.getElem_cons_succ])
          first
            | (refine wpAnyH_take (i := 18) rfl (by kernel_rfl) (by kernel_rfl) (by kernel_rfl) (fun _ _ _ h => h) (Or.inl ⟨by rfl, by intro w hSw; obtain ⟨q0, q1, q2, q3⟩ := HSC.out _ hSw; (go_simp <;> with_reducible rfl)⟩) (by assumption) ?_)
            | (refine wpAnyH_take (i := 18) rfl (by kernel_rfl) (by kernel_rfl) (by kernel_rfl) (fun _ _ _ h => h) (Or.inr ⟨by rfl, rfl⟩) (by assumption) ?_)
          (try simp only [Act.put, List.setIfInBounds_toArray, List.set_cons_zero, List.set_cons_succ, List.getElem_toArray, List.getElem_cons_zero, List.getElem_cons_succ])
          first
            | (refine wpAnyH_take (i := 19) rfl (by kernel_rfl) (by kernel_rfl) (by kernel_rfl) (fun _ _ _ h => h) (Or.inl ⟨by rfl, by intro w hSw; obtain ⟨q0, q1, q2, q3⟩ := HSC.out _ hSw; (go_simp <;> with_reducible rfl)⟩) (by assumption) ?_)
            | (refine wpAnyH_take (i := 19) rfl (by kernel_rfl) (by kernel_rfl) (by kernel_rfl) (fun _ _ _ h => h) (Or.inr ⟨by rfl, rfl⟩) (by assumption) ?_)
          (try simp only [Act.put, List.setIfInBounds_toArray, List.set_cons_zero, List.set_cons_succ, List.getElem_toArray, List.getElem_cons_zero, List.getElem_cons_succ])
          first
            | (refine wpAnyH_take (i := 20) rfl (by kernel_rfl) (by kernel_rfl) (by kernel_rfl) (fun _ _ _ h => h) (Or.inl ⟨by rfl, by intro w hSw; obtain ⟨q0, q1, q2, q3⟩ := HSC.out _ hSw; (go_simp <;> with_reducible rfl)⟩) (by assumption) ?_)
            | (refine wpAnyH_take (i := 20) rfl (by kernel_rfl) (by kernel_rfl) (by kernel_rfl) (fun _ _ _ h => h) (Or.inr ⟨by rfl, rfl⟩) (by assumption) ?_)
          (try simp only [Act.put, List.setIfInBounds_toArray, List.set_cons_zero, List.set_cons_succ, List.getElem_toArray, List.getElem_cons_zero, List.getElem_cons_succ])
          first
            | (refine wpAnyH_take (i := 21) rfl (by kernel_rfl) (by kernel_rfl) (by kernel_rfl) (fun _ _ _ h => h) (Or.inl ⟨by rfl, by intro w hSw; obtain ⟨q0, q1, q2, q3⟩ := HSC.out _ hSw; (go_simp <;> with_reducible rfl)⟩) (by assumption) ?_)
            | (refine wpAnyH_take (i := 21) rfl (by kernel_rfl) (by kernel_rfl) (by kernel_rfl) (fun _ _ _ h => h) (Or.inr ⟨by rfl, rfl⟩) (by assumption) ?_)
          (try simp only [Act.put, List.setIfInBounds_toArray, List.set_cons_zero, List.set_cons_succ, List.getElem_toArray, List.getElem_cons_zero, List.getElem_cons_succ])
          first
            | (refine wpAnyH_take (i := 22) rfl (by kernel_rfl) (by kernel_rfl) (by kernel_rfl) (fun _ _ _ h => h) (Or.inl ⟨by rfl, by intro w hSw; obtain ⟨q0, q1, q2, q3⟩ := HSC.out _ hSw; (go_simp <;> with_reducible rfl)⟩) (by assumption) ?_)
            | (refine wpAnyH_take (i := 22) rfl (by kernel_rfl) (by kernel_rfl) (by kernel_rfl) (fun _ _ _ h => h) (Or.inr ⟨by rfl, rfl⟩) (by assumption) ?_)
          (try simp only [Act.put, List.setIfInBounds_toArray, List.set_cons_zero, List.set_cons_succ, List.getElem_toArray, List.getElem_cons_zero, List.getElem_cons_succ])
          first
            | (refine wpAnyH_take (i := 23) rfl (by kernel_rfl) (by kernel_rfl) (by kernel_rfl) (fun _ _ _ h => h) (Or.inl ⟨by rfl, by intro w hSw; obtain ⟨q0, q1, q2, q3⟩ := HSC.out _ hSw; (go_simp <;> with_reducible rfl)⟩) (by assumption) ?_)
            | (refine wpAnyH_take (i := 23) rfl (by kernel_rfl) (by kernel_rfl) (by kernel_rfl) (fun _ _ _ h => h) (Or.inr ⟨by rfl, rfl⟩) (by assumption) ?_)
          (try simp only [Act.put, List.setIfInBounds_toArray, List.set_cons_zero, List.set_cons_succ, List.getElem_toArray, List.getElem_cons_zero, List.getElem_cons_succ])
          first
            | (refine wpAnyH_take (i := 24) rfl (by kernel_rfl) (by kernel_rfl) (by kernel_rfl) (fun _ _ _ h => h) (Or.inl ⟨by rfl, by intro w hSw; obtain ⟨q0, q1, q2, q3⟩ := HSC.out _ hSw; (go_simp <;> with_reducible rfl)⟩) (by assumption) ?_)
            | (refine wpAnyH_take (i := 24) rfl (by kernel_rfl) (by kernel_rfl) (by kernel_rfl) (fun _ _ _ h => h) (Or.inr ⟨by rfl, rfl⟩) (by assumption) ?_)
          (try simp only [Act.put, List.setIfInBounds_toArray, List.set_cons_zero, List.set_cons_succ, List.getElem_toArray, List.getElem_cons_zero, List.getElem_cons_succ])
          first
            | (refine wpAnyH_take (i := 25) rfl (by kernel_rfl) (by kernel_rfl) (by kernel_rfl) (fun _ _ _ h => h) (Or.inl ⟨by rfl, by intro w hSw; obtain ⟨q0, q1, q2, q3⟩ := HSC.out _ hSw; (go_simp <;> with_reducible rfl)⟩) (by assumption) ?_)
            | (refine wpAnyH_take (i := 25) rfl (by kernel_rfl) (by kernel_rfl) (by kernel_rfl) (fun _ _ _ h => h) (Or.inr ⟨by rfl, rfl⟩) (by assumption) ?_)
          (try simp only [Act.put, List.setIfInBounds_toArray, List.set_cons_zero, List.set_cons_succ, List.getElem_toArray, List.getElem_cons_zero, List.getElem_cons_succ])
          first
            | (refine wpAnyH_take (i := 26) rfl (by kernel_rfl) (by kernel_rfl) (by kernel_rfl) (fun _ _ _ h => h) (Or.inl ⟨by rfl, by intro w hSw; obtain ⟨q0, q1, q2, q3⟩ := HSC.out _ hSw; (go_simp <;> with_reducible rfl)⟩) (by assumption) ?_)
            | (refine wpAnyH_take (i := 26) rfl (by kernel_rfl) (by kernel_rfl) (by kernel_rfl) (fun _ _ _ h => h) (Or.inr ⟨by rfl, rfl⟩) (by assumption) ?_)
          (try simp only [Act.put, List.setIfInBounds_toArray, List.set_cons_zero, List.set_cons_succ, List.getElem_toArray, List.getElem_cons_zero, List.getElem_cons_succ])
          first
            | (refine wpAnyH_take (i := 27) rfl (by kernel_rfl) (by kernel_rfl) (by kernel_rfl) (fun _ _ _ h => h) (Or.inl ⟨by rfl, by intro w hSw; obtain ⟨q0, q1, q2, q3⟩ := HSC.out _ hSw; (go_simp <;> with_reducible rfl)⟩) (by assumption) ?_)
            | (refine wpAnyH_take (i := 27) rfl (by kernel_rfl) (by kernel_rfl) (by kernel_rfl) (fun _ _ _ h => h) (Or.inr ⟨by rfl, rfl⟩) (by assumption) ?_)
          (try simp only [Act.put, List.setIfInBounds_toArray, List.set_cons_zero, List.set_cons_succ, List.getElem_toArray, List.getElem_cons_zero, List.getElem_cons_succ])
          first
            | (refine wpAnyH_take (i := 28) rfl (by kernel_rfl) (by kernel_rfl) (by kernel_rfl) (fun _ _ _ h => h) (Or.inl ⟨by rfl, by intro w hSw; obtain ⟨q0, q1, q2, q3⟩ := HSC.out _ hSw; (go_simp <;> with_reducible rfl)⟩) (by assumption) ?_)
            | (refine wpAnyH_take (i := 28) rfl (by kernel_rfl) (by kernel_rfl) (by kernel_rfl) (fun _ _ _ h => h) (Or.inr ⟨by rfl, rfl⟩) (by assumption) ?_)
          (try simp only [Act.put, List.setIfInBounds_toArray, List.set_cons_zero, List.set_cons_succ, List.getElem_toArray, List.getElem_cons_zero, List.getElem_cons_succ])
          first
            | (refine wpAnyH_take (i := 29) rfl (by kernel_rfl) (by kernel_rfl) (by kernel_rfl) (fun _ _ _ h => h) (Or.inl ⟨by rfl, by intro w hSw; obtain ⟨q0, q1, q2, q3⟩ := HSC.out _ hSw; (go_simp <;> with_reducible rfl)⟩) (by assumption) ?_)
            | (refine wpAnyH_take (i := 29) rfl (by kernel_rfl) (by kernel_rfl) (by kernel_rfl) (fun _ _ _ h => h) (Or.inr ⟨by rfl, rfl⟩) (by assumption) ?_)
          (try simp only [Act.put, List.setIfInBounds_toArray, List.set_cons_zero, List.set_cons_succ, List.getElem_toArray, List.getElem_cons_zero, List.getElem_cons_succ])
          first
            | (refine wpAnyH_take (i := 30) rfl (by kernel_rfl) (by kernel_rfl) (by kernel_rfl) (fun _ _ _ h => h) (Or.inl ⟨by rfl, by intro w hSw; obtain ⟨q0, q1, q2, q3⟩ := HSC.out _ hSw; (go_simp <;> with_reducible rfl)⟩) (by assumption) ?_)
            | (refine wpAnyH_take (i := 30) rfl (by kernel_rfl) (by kernel_rfl) (by kernel_rfl) (fun _ _ _ h => h) (Or.inr ⟨by rfl, rfl⟩) (by assumption) ?_)
          (try simp only [Act.put, List.setIfInBounds_toArray, List.set_cons_zero, List.set_cons_succ, List.getElem_toArray, List.getElem_cons_zero, List.getElem_cons_succ])
          first
            | (refine wpAnyH_take (i := 31) rfl (by kernel_rfl) (by kernel_rfl) (by kernel_rfl) (fun _ _ _ h => h) (Or.inl ⟨by rfl, by intro w hSw; obtain ⟨q0, q1, q2, q3⟩ := HSC.out _ hSw; (go_simp <;> with_reducible rfl)⟩) (by assumption) ?_)
            | (refine wpAnyH_take (i := 31) rfl (by kernel_rfl) (by kernel_rfl) (by kernel_rfl) (fun _ _ _ h => h) (Or.inr ⟨by rfl, rfl⟩) (by assumption) ?_)
          (try simp only [Act.put, List.setIfInBounds_toArray, List.set_cons_zero, List.set_cons_succ, List.getElem_toArray, List.getElem_cons_zero, List.getElem_cons_succ])
          first
            | (refine wpAnyH_take (i := 32) rfl (by kernel_rfl) (by kernel_rfl) (by kernel_rfl) (fun _ _ _ h => h) (Or.inl ⟨by rfl, by intro w hSw; obtain ⟨q0, q1, q2, q3⟩ := HSC.out _ hSw; (go_simp <;> with_reducible rfl)⟩) (by assumption) ?_)
            | (refine wpAnyH_take (i := 32) rfl (by kernel_rfl) (by kernel_rfl) (by kernel_rfl) (fun _ _ _ h => h) (Or.inr ⟨by rfl, rfl⟩) (by assumption) ?_)
          (try simp only [Act.put, List.setIfInBounds_toArray, List.set_cons_zero, List.set_cons_succ, List.getElem_toArray, List.getElem_cons_zero, List.getElem_cons_succ])
          first
            | (refine wpAnyH_take (i := 33) rfl (by kernel_rfl) (by kernel_rfl) (by kernel_rfl) (fun _ _ _ h => h) (Or.inl ⟨by rfl, by intro w hSw; obtain ⟨q0, q1, q2, q3⟩ := HSC.out _ hSw; (go_simp <;> with_reducible rfl)⟩) (by assumption) ?_)
            | (refine wpAnyH_take (i := 33) rfl (by kernel_rfl) (by kernel_rfl) (by kernel_rfl) (fun _ _ _ h => h) (Or.inr ⟨by rfl, rfl⟩) (by assumption) ?_)
          (try simp only [Act.put, List.setIfInBounds_toArray, List.set_cons_zero, List.set_cons_succ, List.getElem_toArray, List.getElem_cons_zero, List.getElem_cons_succ])
          refine wpAnyH_done (by kernel_rfl) ?_ _
          clear hHeld
          have d0 : V.drew.cell? ⟨m1, j, none⟩ = some (.int .i64 0) := hcell
          have d1 : V.drew.frozen? ⟨m1, j, none⟩ = false := hfro
          have d2 : V.drew.cell? ⟨b6, 1, none⟩ = some (.slice (some ⟨m1, 0, none⟩) l.length l.length) := hb6c
          have d3 : V.drew.cell? ⟨wr.heap.size, 0, none⟩ = some (.int .i64 1) := hbox0
          have d4 : V.drew.cell? ⟨wr.heap.size, 1, none⟩ = some (.int .i64 (j : Int)) := hbox1
          clear hcell hfro hb6c hbox0 hbox1
          go_wp2_with fail
          go_region
          all_goals
            go_wp2
            go_roundw
            case rel => exact ⟨k + 1, by have := HLT.out; omega, by go_num, HNX.out⟩
            case measure => have := HLT.out; simp [intOf]; omega
        · have HJ := Lib.hid hjn
          have hz := cnt_new HDIS.out HX.out
          rw [hk1] at hz
          have HSX := Lib.hid (HSW.out.later HBX.out)
          have hrow := HSX.out.r2
          have hcell : V.cell? ⟨m2, j, none⟩ = some (.int .i64 0) := by
            have h0 := cntL_at (L.take k) 2 hjn
            rw [show (cnt (L.take k) 2 (j : Int)) = 0 by rw [← hj]; exact hz] at h0
            simp [World.cell?, hrow, icell, h0]
          have hfro : V.frozen? ⟨m2, j, none⟩ = false := by simp [World.frozen?, hrow]
          have hb6c : V.cell? ⟨b6, 2, none⟩ = some (.slice (some ⟨m2, 0, none⟩) l.length l.length) := by
            have h := cell_at19 HSX.out.bx (i := 2) rfl
            simp only [cntL_len] at h
            exact h
          have hbox0 : V.cell? ⟨wr.heap.size, 0, none⟩ = some (.int .i64 2) := by rw [← hk1]; exact cell_at19 HXB.out rfl
          have hbox1 : V.cell? ⟨wr.heap.size, 1, none⟩ = some (.int .i64 (j : Int)) := by rw [← hj]; exact cell_at19 HXB.out rfl
          have HNX := Lib.hid (show Seen w3 (V.drew.drew.setCell ⟨m2, j, none⟩ (.int .i64 1)) b6 m1 m2 m3 (cntL (L.take (k + 1)) 1 l.length) (cntL (L.take (k + 1)) 2 l.length) (cntL (L.take (k + 1)) 3 b.length) by
            have h := Seen.put2 (HSX.out.later ((Below.refl V.heap.size V).drew.drew)) (j := j) (z := 1) (by rw [cntL_len]; exact hjn)
            rw [take_pre19 HX.out, cntL_other _ x 1 _ (by rw [hk1]; decide), cntL_other _ x 3 _ (by rw [hk1]; decide)]
            have h2 := cntL_set (L.take k) x l.length j hj hz'
            rw [hk1] at h2
            rw [h2]
            exact h)
          have HSC : Hid (∀ U, Below V.heap.size V U → U.cell? ⟨m2, j, none⟩ = some (.int .i64 0) ∧ U.cell? ⟨b6, 2, none⟩ = some (.slice (some ⟨m2, 0, none⟩) l.length l.length) ∧ U.cell? ⟨wr.heap.size, 0, none⟩ = some (.int .i64 2) ∧ U.cell? ⟨wr.heap.size, 1, none⟩ = some (.int .i64 (j : Int))) := Lib.hid (fun U hU =>
            ⟨(hU.cell (p := ⟨m2, j, none⟩) (World.block_lt_of_cell? V _ hcell)).trans hcell, (hU.cell (p := ⟨b6, 2, none⟩) (World.block_lt_of_cell? V _ hb6c)).trans hb6c, (hU.cell (p := ⟨wr.heap.size, 0, none⟩) (World.block_lt_of_cell? V _ hbox0)).trans hbox0, (hU.cell (p := ⟨wr.heap.size, 1, none⟩) (World.block_lt_of_cell? V _ hbox1)).trans hbox1⟩)
          have hj0 : decide ((j : Int) < 0) = false := decide_eq_false (by omega)
          have hj1 : decide (l.length ≤ j) = false := decide_eq_false (by omega)
          have hj2 : decide ((l.length : Int) ≤ (j : Int)) = false := decide_eq_false (by omega)
          have hj3 : (j : Int) < (l.length : Int) := by omega
          have hj4 : (0 : Int) ≤ (j : Int) := by omega
          rw [hk1, hj] at HV
          rw [hk1] at e0
          rw [hj] at e1
          clear hz hrow hk1 hj
          go_wp2_with (rw [← HV.out])
          refine wp_region_held_drew (S := fun U => Below V.heap.size V U) (by kernel_rfl) ((Below.refl _ _).drew) (fun hHeld => ?_)
          first
            | (refine wpAnyH_take (i := 0) rfl (by kernel_rfl) (by kernel_rfl) (by kernel_rfl) (fun _ _ _ h => h) (Or.inl ⟨by rfl, by intro w hSw; obtain ⟨q0, q1, q2, q3⟩ := HSC.out _ hSw; (go_simp <;> with_reducible rfl)⟩) (by assumption) ?_)
            | (refine wpAnyH_take (i := 0) rfl (by kernel_rfl) (by kernel_rfl) (by kernel_rfl) (fun _ _ _ h => h) (Or.inr ⟨by rfl, rfl⟩) (by assumption) ?_)
          (try simp only [Act.put, List.setIfInBounds_toArray, List.set_cons_zero, List.set_cons_succ, List.getElem_toArray, List.getElem_cons_zero, List.getElem_cons_succ])
          first
            | (refine wpAnyH_take (i := 1) rfl (by kernel_rfl) (by kernel_rfl) (by kernel_rfl) (fun _ _ _ h => h) (Or.inl ⟨by rfl, by intro w hSw; obtain ⟨q0, q1, q2, q3⟩ := HSC.out _ hSw; (go_simp <;> with_reducible rfl)⟩) (by assumption) ?_)
            | (refine wpAnyH_take (i := 1) rfl (by kernel_rfl) (by kernel_rfl) (by kernel_rfl) (fun _ _ _ h => h) (Or.inr ⟨by rfl, rfl⟩) (by assumption) ?_)
          (try simp only [Act.put, List.setIfInBounds_toArray, List.set_cons_zero, List.set_cons_succ, List.getElem_toArray, List.getElem_cons_zero, List.getElem_cons_succ])
          first
            | (refine wpAnyH_take (i := 2) rfl (by kernel_rfl) (by kernel_rfl) (by kernel_rfl) (fun _ _ _ h => h) (Or.inl ⟨by rfl, by intro w hSw; obtain ⟨q0, q1, q2, q3⟩ := HSC.out _ hSw; (go_simp <;> with_reducible rfl)⟩) (by assumption) ?_)
            | (refine wpAnyH_take (i := 2) rfl (by kernel_rfl) (by kernel_rfl) (by kernel_rfl) (fun _ _ _ h => h) (Or.inr ⟨by rfl, rfl⟩) (by assumption) ?_)
          (try simp only [Act.put, List.setIfInBounds_toArray, List.set_cons_zero, List.set_cons_succ, List.getElem_toArray, List.getElem_cons_zero, List.getElem_cons_succ])
          first
            | (refine wpAnyH_take (i := 3) rfl (by kernel_rfl) (by kernel_rfl) (by kernel_rfl) (fun _ _ _ h => h) (Or.inl ⟨by rfl, by intro w hSw; obtain ⟨q0, q1, q2, q3⟩ := HSC.out _ hSw; (go_simp <;> with_reducible rfl)⟩) (by assumption) ?_)
            | (refine wpAnyH_take (i := 3) rfl (by kernel_rfl) (by kernel_rfl) (by kernel_rfl) (fun _ _ _ h => h) (Or.inr ⟨by rfl, rfl⟩) (by assumption) ?_)
          (try simp only [Act.put, List.setIfInBounds_toArray, List.set_cons_zero, List.set_cons_succ, List.getElem_toArray, List.getElem_cons_zero, List.getElem_cons_succ])
          first
            | (refine wpAnyH_take (i := 4) rfl (by kernel_rfl) (by kernel_rfl) (by kernel_rfl) (fun _ _ _ h => h) (Or.inl ⟨by rfl, by intro w hSw; obtain ⟨q0, q1, q2, q3⟩ := HSC.out _ hSw; (go_simp <;> with_reducible rfl)⟩) (by assumption) ?_)
            | (refine wpAnyH_take (i := 4) rfl (by kernel_rfl) (by kernel_rfl) (by kernel_rfl) (fun _ _ _ h => h) (Or.inr ⟨by rfl, rfl⟩) (by assumption) ?_)
          (try simp only [Act.put, List.setIfInBounds_toArray, List.set_cons_zero, List.set_cons_succ, List.getElem_toArray, List.getElem_cons_zero, List.getElem_cons_succ])
          first
            | (refine wpAnyH_take (i := 5) rfl (by kernel_rfl) (by kernel_rfl) (by kernel_rfl) (fun _ _ _ h => h) (Or.inl ⟨by rfl, by intro w hSw; obtain ⟨q0, q1, q2, q3⟩ := HSC.out _ hSw; (go_simp <;> with_reducible rfl)⟩) (by assumption) ?_)
            | (refine wpAnyH_take (i := 5) rfl (by kernel_rfl) (by kernel_rfl) (by kernel_rfl) (fun _ _ _ h => h) (Or.inr ⟨by rfl, rfl⟩) (by assumption) ?_)
          (try simp only [Act.put, List.setIfInBounds_toArray, List.set_cons_zero, List.set_cons_succ, List.getElem_toArray, List.getElem_cons_zero, List.getElem_cons_succ])
          first
            | (refine wpAnyH_take (i := 6) rfl (by kernel_rfl) (by kernel_rfl) (by kernel_rfl) (fun _ _ _ h => h) (Or.inl ⟨by rfl, by intro w hSw; obtain ⟨q0, q1, q2, q3⟩ := HSC.out _ hSw; (go_simp <;> with_reducible rfl)⟩) (by assumption) ?_)
            | (refine wpAnyH_take (i := 6) rfl (by kernel_rfl) (by kernel_rfl) (by kernel_rfl) (fun _ _ _ h => h) (Or.inr ⟨by rfl, rfl⟩) (by assumption) ?_)
          (try simp only [Act.put, List.setIfInBounds_toArray, List.set_cons_zero, List.set_cons_succ, List.getElem_toArray, List.getElem_cons_zero, List.getElem_cons_succ])
          first
            | (refine wpAnyH_take (i := 7) rfl (by kernel_rfl) (by kernel_rfl) (by kernel_rfl) (fun _ _ _ h => h) (Or.inl ⟨by rfl, by intro w hSw; obtain ⟨q0, q1, q2, q3⟩ := HSC.out _ hSw; (go_simp <;> with_reducible rfl)⟩) (by assumption) ?_)
            | (refine wpAnyH_take (i := 7) rfl (by kernel_rfl) (by kernel_rfl) (by kernel_rfl) (fun _ _ _ h => h) (Or.inr ⟨by rfl, rfl⟩) (by assumption) ?_)
          (try simp only [Act.put, List.setIfInBounds_toArray, List.set_cons_zero, List.set_cons_succ, List.getElem_toArray, List.getElem_cons_zero, List.getElem_cons_succ])
          first
            | (refine wpAnyH_take (i := 8) rfl (by kernel_rfl) (by kernel_rfl) (by kernel_rfl) (fun _ _ _ h => h) (Or.inl ⟨by rfl, by intro w hSw; obtain ⟨q0, q1, q2, q3⟩ := HSC.out _ hSw; (go_simp <;> with_reducible rfl)⟩) (by assumption) ?_)
            | (refine wpAnyH_take (i := 8) rfl (by kernel_rfl) (by kernel_rfl) (by kernel_rfl) (fun _ _ _ h => h) (Or.inr ⟨by rfl, rfl⟩) (by assumption) ?_)
          (try simp only [Act.put, List.setIfInBounds_toArray, List.set_cons_zero, List.set_cons_succ, List.getElem_toArray, List.getElem_cons_zero, List.getElem_cons_succ])
          first
            | (refine wpAnyH_take (i := 9) rfl (by kernel_rfl) (by kernel_rfl) (by kernel_rfl) (fun _ _ _ h => h) (Or.inl ⟨by rfl, by intro w hSw; obtain ⟨q0, q1, q2, q3⟩ := HSC.out _ hSw; (go_simp <;> with_reducible rfl)⟩) (by assumption) ?_)
            | (refine wpAnyH_take (i := 9) rfl (by kernel_rfl) (by kernel_rfl) (by kernel_rfl) (fun _ _ _ h => h) (Or.inr ⟨by rfl, rfl⟩) (by assumption) ?_)
          (try simp only [Act.put, List.setIfInBounds_toArray, List.set_cons_zero, List.set_cons_succ, List.getElem_toArray, List.getElem_cons_zero, List.getElem_cons_succ])
          first
            | (refine wpAnyH_take (i := 10) rfl (by kernel_rfl) (by kernel_rfl) (by kernel_rfl) (fun _ _ _ h => h) (Or.inl ⟨by rfl, by intro w hSw; obtain ⟨q0, q1, q2, q3⟩ := HSC.out _ hSw; (go_simp <;> with_reducible rfl)⟩) (by assumption) ?_)
            | (refine wpAnyH_take (i := 10) rfl (by kernel_rfl) (by kernel_rfl) (by kernel_rfl) (fun _ _ _ h => h) (Or.inr ⟨by rfl, rfl⟩) (by assumption) ?_)
          (try simp only [Act.put, List.setIfInBounds_toArray, List.set_cons_zero, List.set_cons_succ, List.getElem_toArray, List.getElem_cons_zero, List.getElem_cons_succ])
          first
            | (refine wpAnyH_take (i := 11) rfl (by kernel_rfl) (by kernel_rfl) (by kernel_rfl) (fun _ _ _ h => h) (Or.inl ⟨by rfl, by intro w hSw; obtain ⟨q0, q1, q2, q3⟩ := HSC.out _ hSw; (go_simp <;> with_reducible rfl)⟩) (by assumption) ?_)
            | (refine wpAnyH_take (i := 11) rfl (by kernel_rfl) (by kernel_rfl) (by kernel_rfl) (fun _ _ _ h => h) (Or.inr ⟨by rfl, rfl⟩) (by assumption) ?_)
          (try simp only [Act.put, List.setIfInBounds_toArray, List.set_cons_zero, List.set_cons_succ, List.getElem_toArray, List.getElem_cons_zero, List.getElem_cons_succ])
          first
            | (refine wpAnyH_take (i := 12) rfl (by kernel_rfl) (by kernel_rfl) (by kernel_rfl) (fun _ _ _ h => h) (Or.inl ⟨by rfl, by intro w hSw; obtain ⟨q0, q1, q2, q3⟩ := HSC.out _ hSw; (go_simp <;> with_reducible rfl)⟩) (by assumption) ?_)
            | (refine wpAnyH_take (i := 12) rfl (by kernel_rfl) (by kernel_rfl) (by kernel_rfl) (fun _ _ _ h => h) (Or.inr ⟨by rfl, rfl⟩) (by assumption) ?_)
          (try simp only [Act.put, List.setIfInBounds_toArray, List.set_cons_zero, List.set_cons_succ, List.getElem_toArray, List.getElem_cons_zero, List.getElem_cons_succ])
          first
            | (refine wpAnyH_take (i := 13) rfl (by kernel_rfl) (by kernel_rfl) (by kernel_rfl) (fun _ _ _ h => h) (Or.inl ⟨by rfl, by intro w hSw; obtain ⟨q0, q1, q2, q3⟩ := HSC.out _ hSw; (go_simp <;> with_reducible rfl)⟩) (by assumption) ?_)
            | (refine wpAnyH_take (i := 13) rfl (by kernel_rfl) (by kernel_rfl) (by kernel_rfl) (fun _ _ _ h => h) (Or.inr ⟨by rfl, rfl⟩) (by assumption) ?_)
          (try simp only [Act.put, List.setIfInBounds_toArray, List.set_cons_zero, List.set_cons_succ, List.getElem_toArray, List.getElem_cons_zero, List.getElem_cons_succ])
          first
            | (refine wpAnyH_take (i := 14) rfl (by kernel_rfl) (by kernel_rfl) (by kernel_rfl) (fun _ _ _ h => h) (Or.inl ⟨by rfl, by intro w hSw; obtain ⟨q0, q1, q2, q3⟩ := HSC.out _ hSw; (go_simp <;> with_reducible rfl)⟩) (by assumption) ?_)
            | (refine wpAnyH_take (i := 14) rfl (by kernel_rfl) (by kernel_rfl) (by kernel_rfl) (fun _ _ _ h => h) (Or.inr ⟨by rfl, rfl⟩) (by assumption) ?_)
          (try simp only [Act.put, List.setIfInBounds_toArray, List.set_cons_zero, List.set_cons_succ, List.getElem_toArray, List.getElem_cons_zero, List.getElem_cons_succ])
          first
            | (refine wpAnyH_take (i := 15) rfl (by kernel_rfl) (by kernel_rfl) (by kernel_rfl) (fun _ _ _ h => h) (Or.inl ⟨by rfl, by intro w hSw; obtain ⟨q0, q1, q2, q3⟩ := HSC.out _ hSw; (go_simp <;> with_reducible rfl)⟩) (by assumption) ?_)
            | (refine wpAnyH_take (i := 15) rfl (by kernel_rfl) (by kernel_rfl) (by kernel_rfl) (fun _ _ _ h => h) (Or.inr ⟨by rfl, rfl⟩) (by assumption) ?_)
          (try simp only [Act.put, List.setIfInBounds_toArray, List.set_cons_zero, List.set_cons_succ, List.getElem_toArray, List.getElem_cons_zero, List.getElem_cons_succ])
          first
            | (refine wpAnyH_take (i := 16) rfl (by kernel_rfl) (by kernel_rfl) (by kernel_rfl) (fun _ _ _ h => h) (Or.inl ⟨by rfl, by intro w hSw; obtain ⟨q0, q1, q2, q3⟩ := HSC.out _ hSw; (go_simp <;> with_reducible rfl)⟩) (by assumption) ?_)
            | (refine wpAnyH_take (i := 16) rfl (by kernel_rfl) (by kernel_rfl) (by kernel_rfl) (fun _ _ _ h => h) (Or.inr ⟨by rfl, rfl⟩) (by assumption) ?_)
          (try simp only [Act.put, List.setIfInBounds_toArray, List.set_cons_zero, List.set_cons_succ, List.getElem_toArray, List.getElem_cons_zero, List.getElem_cons_succ])
          first
            | (refine wpAnyH_take (i := 17) rfl (by kernel_rfl) (by kernel_rfl) (by kernel_rfl) (fun _ _ _ h => h) (Or.inl ⟨by rfl, by intro w hSw; obtain ⟨q0, q1, q2, q3⟩ := HSC.out _ hSw; (go_simp <;> with_reducible rfl)⟩) (by assumption) ?_)
            | (refine wpAnyH_take (i := 17) rfl (by kernel_rfl) (by kernel_rfl) (by kernel_rfl) (fun _ _ _ h => h) (Or.inr ⟨by rfl, rfl⟩) (by assumption) ?_)
          (try simp only [Act.put, List.setIfInBounds_toArray, List.set_cons_zero, List.set_cons_succ, List.getElem_toArray, List.getElem_cons_zero, List.getElem_cons_succ])
          first
            | (refine wpAnyH_take (i := 18) rfl (by kernel_rfl) (by kernel_rfl) (by kernel_rfl) (fun _ _ _ h => h) (Or.inl ⟨by rfl, by intro w hSw; obtain ⟨q0, q1, q2, q3⟩ := HSC.out _ hSw; (go_simp <;> with_reducible rfl)⟩) (by assumption) ?_)
            | (refine wpAnyH_take (i := 18) rfl (by kernel_rfl) (by kernel_rfl) (by kernel_rfl) (fun _ _ _ h => h) (Or.inr ⟨by rfl, rfl⟩) (by assumption) ?_)
          (try simp only [Act.put, List.setIfInBounds_toArray, List.set_cons_zero, List.set_cons_succ, List.getElem_toArray, List.getElem_cons_zero, List.getElem_cons_succ])
          first
            | (refine wpAnyH_take (i := 19) rfl (by kernel_rfl) (by kernel_rfl) (by kernel_rfl) (fun _ _ _ h => h) (Or.inl ⟨by rfl, by intro w hSw; obtain ⟨q0, q1, q2, q3⟩ := HSC.out _ hSw; (go_simp <;> with_reducible rfl)⟩) (by assumption) ?_)
            | (refine wpAnyH_take (i := 19) rfl (by kernel_rfl) (by kernel_rfl) (by kernel_rfl) (fun _ _ _ h => h) (Or.inr ⟨by rfl, rfl⟩) (by assumption) ?_)
          (try simp only [Act.put, List.setIfInBounds_toArray, List.set_cons_zero, List.set_cons_succ, List.getElem_toArray, List.getElem_cons_zero, List.getElem_cons_succ])
          first
            | (refine wpAnyH_take (i := 20) rfl (by kernel_rfl) (by kernel_rfl) (by kernel_rfl) (fun _ _ _ h => h) (Or.inl ⟨by rfl, by intro w hSw; obtain ⟨q0, q1, q2, q3⟩ := HSC.out _ hSw; (go_simp <;> with_reducible rfl)⟩) (by assumption) ?_)
            | (refine wpAnyH_take (i := 20) rfl (by kernel_rfl) (by kernel_rfl) (by kernel_rfl) (fun _ _ _ h => h) (Or.inr ⟨by rfl, rfl⟩) (by assumption) ?_)
          (try simp only [Act.put, List.setIfInBounds_toArray, List.set_cons_zero, List.set_cons_succ, List.getElem_toArray, List.getElem_cons_zero, List.getElem_cons_succ])
          first
            | (refine wpAnyH_take (i := 21) rfl (by kernel_rfl) (by kernel_rfl) (by kernel_rfl) (fun _ _ _ h => h) (Or.inl ⟨by rfl, by intro w hSw; obtain ⟨q0, q1, q2, q3⟩ := HSC.out _ hSw; (go_simp <;> with_reducible rfl)⟩) (by assumption) ?_)
            | (refine wpAnyH_take (i := 21) rfl (by kernel_rfl) (by kernel_rfl) (by kernel_rfl) (fun _ _ _ h => h) (Or.inr ⟨by rfl, rfl⟩) (by assumption) ?_)
          (try simp only [Act.put, List.setIfInBounds_toArray, List.set_cons_zero, List.set_cons_succ, List.getElem_toArray, List.getElem_cons_zero, List.getElem_cons_succ])
          first
            | (refine wpAnyH_take (i := 22) rfl (by kernel_rfl) (by kernel_rfl) (by kernel_rfl) (fun _ _ _ h => h) (Or.inl ⟨by rfl, by intro w hSw; obtain ⟨q0, q1, q2, q3⟩ := HSC.out _ hSw; (go_simp <;> with_reducible rfl)⟩) (by assumption) ?_)
            | (refine wpAnyH_take (i := 22) rfl (by kernel_rfl) (by kernel_rfl) (by kernel_rfl) (fun _ _ _ h => h) (Or.inr ⟨by rfl, rfl⟩) (by assumption) ?_)
          (try simp only [Act.put, List.setIfInBounds_toArray, List.set_cons_zero, List.set_cons_succ, List.getElem_toArray, List.getElem_cons_zero, List.getElem_cons_succ])
          first
            | (refine wpAnyH_take (i := 23) rfl (by kernel_rfl) (by kernel_rfl) (by kernel_rfl) (fun _ _ _ h => h) (Or.inl ⟨by rfl, by intro w hSw; obtain ⟨q0, q1, q2, q3⟩ := HSC.out _ hSw; (go_simp <;> with_reducible rfl)⟩) (by assumption) ?_)
            | (refine wpAnyH_take (i := 23) rfl (by kernel_rfl) (by kernel_rfl) (by kernel_rfl) (fun _ _ _ h => h) (Or.inr ⟨by rfl, rfl⟩) (by assumption) ?_)
          (try simp only [Act.put, List.setIfInBounds_toArray, List.set_cons_zero, List.set_cons_succ, List.getElem_toArray, List.getElem_cons_zero, List.getElem_cons_succ])
          first
            | (refine wpAnyH_take (i := 24) rfl (by kernel_rfl) (by kernel_rfl) (by kernel_rfl) (fun _ _ _ h => h) (Or.inl ⟨by rfl, by intro w hSw; obtain ⟨q0, q1, q2, q3⟩ := HSC.out _ hSw; (go_simp <;> with_reducible rfl)⟩) (by assumption) ?_)
            | (refine wpAnyH_take (i := 24) rfl (by kernel_rfl) (by kernel_rfl) (by kernel_rfl) (fun _ _ _ h => h) (Or.inr ⟨by rfl, rfl⟩) (by assumption) ?_)
          (try simp only [Act.put, List.setIfInBounds_toArray, List.set_cons_zero, List.set_cons_succ, List.getElem_toArray, List.getElem_cons_zero, List.getElem_cons_succ])
          first
            | (refine wpAnyH_take (i := 25) rfl (by kernel_rfl) (by kernel_rfl) (by kernel_rfl) (fun _ _ _ h => h) (Or.inl ⟨by rfl, by intro w hSw; obtain ⟨q0, q1, q2, q3⟩ := HSC.out _ hSw; (go_simp <;> with_reducible rfl)⟩) (by assumption) ?_)
            | (refine wpAnyH_take (i := 25) rfl (by kernel_rfl) (by kernel_rfl) (by kernel_rfl) (fun _ _ _ h => h) (Or.inr ⟨by rfl, rfl⟩) (by assumption) ?_)
          (try simp only [Act.put, List.setIfInBounds_toArray, List.set_cons_zero, List.set_cons_succ, List.getElem_toArray, List.getElem_cons_zero, List.getElem_cons_succ])
          first
            | (refine wpAnyH_take (i := 26) rfl (by kernel_rfl) (by kernel_rfl) (by kernel_rfl) (fun _ _ _ h => h) (Or.inl ⟨by rfl, by intro w hSw; obtain ⟨q0, q1, q2, q3⟩ := HSC.out _ hSw; (go_simp <;> with_reducible rfl)⟩) (by assumption) ?_)
            | (refine wpAnyH_take (i := 26) rfl (by kernel_rfl) (by kernel_rfl) (by kernel_rfl) (fun _ _ _ h => h) (Or.inr ⟨by rfl, rfl⟩) (by assumption) ?_)
          (try simp only [Act.put, List.setIfInBounds_toArray, List.set_cons_zero, List.set_cons_succ, List.getElem_toArray, List.getElem_cons_zero, List.getElem_cons_succ])
          first
            | (refine wpAnyH_take (i := 27) rfl (by kernel_rfl) (by kernel_rfl) (by kernel_rfl) (fun _ _ _ h => h) (Or.inl ⟨by rfl, by intro w hSw; obtain ⟨q0, q1, q2, q3⟩ := HSC.out _ hSw; (go_simp <;> with_reducible rfl)⟩) (by assumption) ?_)
            | (refine wpAnyH_take (i := 27) rfl (by kernel_rfl) (by kernel_rfl) (by kernel_rfl) (fun _ _ _ h => h) (Or.inr ⟨by rfl, rfl⟩) (by assumption) ?_)
          (try simp only [Act.put, List.setIfInBounds_toArray, List.set_cons_zero, List.set_cons_succ, List.getElem_toArray, List.getElem_cons_zero, List.getElem_cons_succ])
          first
            | (refine wpAnyH_take (i := 28) rfl (by kernel_rfl) (by kernel_rfl) (by kernel_rfl) (fun _ _ _ h => h) (Or.inl ⟨by rfl, by intro w hSw; obtain ⟨q0, q1, q2, q3⟩ := HSC.out _ hSw; (go_simp <;> with_reducible rfl)⟩) (by assumption) ?_)
            | (refine wpAnyH_take (i := 28) rfl (by kernel_rfl) (by kernel_rfl) (by kernel_rfl) (fun _ _ _ h => h) (Or.inr ⟨by rfl, rfl⟩) (by assumption) ?_)
          (try simp only [Act.put, List.setIfInBounds_toArray, List.set_cons_zero, List.set_cons_succ, List.getElem_toArray, List.getElem_cons_zero, List.getElem_cons_succ])
          first
            | (refine wpAnyH_take (i := 29) rfl (by kernel_rfl) (by kernel_rfl) (by kernel_rfl) (fun _ _ _ h => h) (Or.inl ⟨by rfl, by intro w hSw; obtain ⟨q0, q1, q2, q3⟩ := HSC.out _ hSw; (go_simp <;> with_reducible rfl)⟩) (by assumption) ?_)
            | (refine wpAnyH_take (i := 29) rfl (by kernel_rfl) (by kernel_rfl) (by kernel_rfl) (fun _ _ _ h => h) (Or.inr ⟨by rfl, rfl⟩) (by assumption) ?_)
          (try simp only [Act.put, List.setIfInBounds_toArray, List.set_cons_zero, List.set_cons_succ, List.getElem_toArray, List.getElem_cons_zero, List.getElem_cons_succ])
          first
            | (refine wpAnyH_take (i := 30) rfl (by kernel_rfl) (by kernel_rfl) (by kernel_rfl) (fun _ _ _ h => h) (Or.inl ⟨by rfl, by intro w hSw; obtain ⟨q0, q1, q2, q3⟩ := HSC.out _ hSw; (go_simp <;> with_reducible rfl)⟩) (by assumption) ?_)
            | (refine wpAnyH_take (i := 30) rfl (by kernel_rfl) (by kernel_rfl) (by kernel_rfl) (fun _ _ _ h => h) (Or.inr ⟨by rfl, rfl⟩) (by assumption) ?_)
          (try simp only [Act.put, List.setIfInBounds_toArray, List.set_cons_zero, List.set_cons_succ, List.getElem_toArray, List.getElem_cons_zero, List.getElem_cons_succ])
          first
            | (refine wpAnyH_take (i := 31) rfl (by kernel_rfl) (by kernel_rfl) (by kernel_rfl) (fun _ _ _ h => h) (Or.inl ⟨by rfl, by intro w hSw; obtain ⟨q0, q1, q2, q3⟩ := HSC.out _ hSw; (go_simp <;> with_reducible rfl)⟩) (by assumption) ?_)
            | (refine wpAnyH_take (i := 31) rfl (by kernel_rfl) (by kernel_rfl) (by kernel_rfl) (fun _ _ _ h => h) (Or.inr ⟨by rfl, rfl⟩) (by assumption) ?_)
          (try simp only [Act.put, List.setIfInBounds_toArray, List.set_cons_zero, List.set_cons_succ, List.getElem_toArray, List.getElem_cons_zero, List.getElem_cons_succ])
          first
            | (refine wpAnyH_take (i := 32) rfl (by kernel_rfl) (by kernel_rfl) (by kernel_rfl) (fun _ _ _ h => h) (Or.inl ⟨by rfl, by intro w hSw; obtain ⟨q0, q1, q2, q3⟩ := HSC.out _ hSw; (go_simp <;> with_reducible rfl)⟩) (by assumption) ?_)
            | (refine wpAnyH_take (i := 32) rfl (by kernel_rfl) (by kernel_rfl) (by kernel_rfl) (fun _ _ _ h => h) (Or.inr ⟨by rfl, rfl⟩) (by assumption) ?_)
          (try simp only [Act.put, List.setIfInBounds_toArray, List.set_cons_zero, List.set_cons_succ, List.getElem_toArray, List.getElem_cons_zero, List.getElem_cons_succ])
          first
            | (refine wpAnyH_take (i := 33) rfl (by kernel_rfl) (by kernel_rfl) (by kernel_rfl) (fun _ _ _ h => h) (Or.inl ⟨by rfl, by intro w hSw; obtain ⟨q0, q1, q2, q3⟩ := HSC.out _ hSw; (go_simp <;> with_reducible rfl)⟩) (by assumption) ?_)
            | (refine wpAnyH_take (i := 33) rfl (by kernel_rfl) (by kernel_rfl) (by kernel_rfl) (fun _ _ _ h => h) (Or.inr ⟨by rfl, rfl⟩) (by assumption) ?_)
          (try simp only [Act.put, List.setIfInBounds_toArray, List.set_cons_zero, List.set_cons_succ, List.getElem_toArray, List.getElem_cons_zero, List.getElem_cons_succ])
          refine wpAnyH_done (by kernel_rfl) ?_ _
          clear hHeld
          have d0 : V.drew.cell? ⟨m2, j, none⟩ = some (.int .i64 0) := hcell
          have d1 : V.drew.frozen? ⟨m2, j, none⟩ = false := hfro
          have d2 : V.drew.cell? ⟨b6, 2, none⟩ = some (.slice (some ⟨m2, 0, none⟩) l.length l.length) := hb6c
          have d3 : V.drew.cell? ⟨wr.heap.size, 0, none⟩ = some (.int .i64 2) := hbox0
          have d4 : V.drew.cell? ⟨wr.heap.size, 1, none⟩ = some (.int .i64 (j : Int)) := hbox1
          clear hcell hfro hb6c hbox0 hbox1
          go_wp2_with fail
          go_region
          all_goals
            go_wp2
            go_roundw
            case rel => exact ⟨k + 1, by have := HLT.out; omega, by go_num, HNX.out⟩
            case measure => have := HLT.out; simp [intOf]; omega
        · have HJ := Lib.hid hjn
          have hz := cnt_new HDIS.out HX.out
          rw [hk1] at hz
          have HSX := Lib.hid (HSW.out.later HBX.out)
          have hrow := HSX.out.r3
          have hcell : V.cell? ⟨m3, j, none⟩ = some (.int .i64 0) := by
            have h0 := cntL_at (L.take k) 3 hjn
            rw [show (cnt (L.take k) 3 (j : Int)) = 0 by rw [← hj]; exact hz] at h0
            simp [World.cell?, hrow, icell, h0]
          have hfro : V.frozen? ⟨m3, j, none⟩ = false := by simp [World.frozen?, hrow]
          have hb6c : V.cell? ⟨b6, 3, none⟩ = some (.slice (some ⟨m3, 0, none⟩) b.length b.length) := by
            have h := cell_at19 HSX.out.bx (i := 3) rfl
            simp only [cntL_len] at h
            exact h
          have hbox0 : V.cell? ⟨wr.heap.size, 0, none⟩ = some (.int .i64 3) := by rw [← hk1]; exact cell_at19 HXB.out rfl
          have hbox1 : V.cell? ⟨wr.heap.size, 1, none⟩ = some (.int .i64 (j : Int)) := by rw [← hj]; exact cell_at19 HXB.out rfl
          have HNX := Lib.hid (show Seen w3 (V.drew.drew.setCell ⟨m3, j, none⟩ (.int .i64 1)) b6 m1 m2 m3 (cntL (L.take (k + 1)) 1 l.length) (cntL (L.take (k + 1)) 2 l.length) (cntL (L.take (k + 1)) 3 b.length) by
            have h := Seen.put3 (HSX.out.later ((Below.refl V.heap.size V).drew.drew)) (j := j) (z := 1) (by rw [cntL_len]; exact hjn)
            rw [take_pre19 HX.out, cntL_other _ x 1 _ (by rw [hk1]; decide), cntL_other _ x 2 _ (by rw [hk1]; decide)]
            have h2 := cntL_set (L.take k) x b.length j hj hz'
            rw [hk1] at h2
            rw [h2]
            exact h)
          have HSC : Hid (∀ U, Below V.heap.size V U → U.cell? ⟨m3, j, none⟩ = some (.int .i64 0) ∧ U.cell? ⟨b6, 3, none⟩ = some (.slice (some ⟨m3, 0, none⟩) b.length b.length) ∧ U.cell? ⟨wr.heap.size, 0, none⟩ = some (.int .i64 3) ∧ U.cell? ⟨wr.heap.size, 1, none⟩ = some (.int .i64 (j : Int))) := Lib.hid (fun U hU =>
            ⟨(hU.cell (p := ⟨m3, j, none⟩) (World.block_lt_of_cell? V _ hcell)).trans hcell, (hU.cell (p := ⟨b6, 3, none⟩) (World.block_lt_of_cell? V _ hb6c)).trans hb6c, (hU.cell (p := ⟨wr.heap.size, 0, none⟩) (World.block_lt_of_cell? V _ hbox0)).trans hbox0, (hU.cell (p := ⟨wr.heap.size, 1, none⟩) (World.block_lt_of_cell? V _ hbox1)).trans hbox1⟩)
          have hj0 : decide ((j : Int) < 0) = false := decide_eq_false (by omega)
          have hj1 : decide (b.length ≤ j) = false := decide_eq_false (by omega)
          have hj2 : decide ((b.length : Int) ≤ (j : Int)) = false := decide_eq_false (by omega)
          have hj3 : (j : Int) < (b.length : Int) := by omega
          have hj4 : (0 : Int) ≤ (j : Int) := by omega
          rw [hk1, hj] at HV
          rw [hk1] at e0
          rw [hj] at e1
          clear hz hrow hk1 hj
          go_wp2_with (rw [← HV.out])
          refine wp_region_held_drew (S := fun U => Below V.heap.size V U) (by kernel_rfl) ((Below.refl _ _).drew) (fun hHeld => ?_)
          first
            | (refine wpAnyH_take (i := 0) rfl (by kernel_rfl) (by kernel_rfl) (by kernel_rfl) (fun _ _ _ h => h) (Or.inl ⟨by rfl, by intro w hSw; obtain ⟨q0, q1, q2, q3⟩ := HSC.out _ hSw; (go_simp <;> with_reducible rfl)⟩) (by assumption) ?_)
            | (refine wpAnyH_take (i := 0) rfl (by kernel_rfl) (by kernel_rfl) (by kernel_rfl) (fun _ _ _ h => h) (Or.inr ⟨by rfl, rfl⟩) (by assumption) ?_)
          (try simp only [Act.put, List.setIfInBounds_toArray, List.set_cons_zero, List.set_cons_succ, List.getElem_toArray, List.getElem_cons_zero, List.getElem_cons_succ])
          first
            | (refine wpAnyH_take (i := 1) rfl (by kernel_rfl) (by kernel_rfl) (by kernel_rfl) (fun _ _ _ h => h) (Or.inl ⟨by rfl, by intro w hSw; obtain ⟨q0, q1, q2, q3⟩ := HSC.out _ hSw; (go_simp <;> with_reducible rfl)⟩) (by assumption) ?_)
            | (refine wpAnyH_take (i := 1) rfl (by kernel_rfl) (by kernel_rfl) (by kernel_rfl) (fun _ _ _ h => h) (Or.inr ⟨by rfl, rfl⟩) (by assumption) ?_)
          (try simp only [Act.put, List.setIfInBounds_toArray, List.set_cons_zero, List.set_cons_succ, List.getElem_toArray, List.getElem_cons_zero, List.getElem_cons_succ])
          first
            | (refine wpAnyH_take (i := 2) rfl (by kernel_rfl) (by kernel_rfl) (by kernel_rfl) (fun _ _ _ h => h) (Or.inl ⟨by rfl, by intro w hSw; obtain ⟨q0, q1, q2, q3⟩ := HSC.out _ hSw; (go_simp <;> with_reducible rfl)⟩) (by assumption) ?_)
            | (refine wpAnyH_take (i := 2) rfl (by kernel_rfl) (by kernel_rfl) (by kernel_rfl) (fun _ _ _ h => h) (Or.inr ⟨by rfl, rfl⟩) (by assumption) ?_)
          (try simp only [Act.put, List.setIfInBounds_toArray, List.set_cons_zero, List.set_cons_succ, List.getElem_toArray, List.getElem_cons_zero, List.getElem_cons_succ])
          first
            | (refine wpAnyH_take (i := 3) rfl (by kernel_rfl) (by kernel_rfl) (by kernel_rfl) (fun _ _ _ h => h) (Or.inl ⟨by rfl, by intro w hSw; obtain ⟨q0, q1, q2, q3⟩ := HSC.out _ hSw; (go_simp <;> with_reducible rfl)⟩) (by assumption) ?_)
            | (refine wpAnyH_take (i := 3) rfl (by kernel_rfl) (by kernel_rfl) (by kernel_rfl) (fun _ _ _ h => h) (Or.inr ⟨by rfl, rfl⟩) (by assumption) ?_)
          (try simp only [Act.put, List.setIfInBounds_toArray, List.set_cons_zero, List.set_cons_succ, List.getElem_toArray, List.getElem_cons_zero, List.getElem_cons_succ])
          first
            | (refine wpAnyH_take (i := 4) rfl (by kernel_rfl) (by kernel_rfl) (by kernel_rfl) (fun _ _ _ h => h) (Or.inl ⟨by rfl, by intro w hSw; obtain ⟨q0, q1, q2, q3⟩ := HSC.out _ hSw; (go_simp <;> with_reducible rfl)⟩) (by assumption) ?_)
            | (refine wpAnyH_take (i := 4) rfl (by kernel_rfl) (by kernel_rfl) (by kernel_rfl) (fun _ _ _ h => h) (Or.inr ⟨by rfl, rfl⟩) (by assumption) ?_)
          (try simp only [Act.put, List.setIfInBounds_toArray, List.set_cons_zero, List.set_cons_succ, List.getElem_toArray, List.getElem_cons_zero, List.getElem_cons_succ])
          first
            | (refine wpAnyH_take (i := 5) rfl (by kernel_rfl) (by kernel_rfl) (by kernel_rfl) (fun _ _ _ h => h) (Or.inl ⟨by rfl, by intro w hSw; obtain ⟨q0, q1, q2, q3⟩ := HSC.out _ hSw; (go_simp <;> with_reducible rfl)⟩) (by assumption) ?_)
            | (refine wpAnyH_take (i := 5) rfl (by kernel_rfl) (by kernel_rfl) (by kernel_rfl) (fun _ _ _ h => h) (Or.inr ⟨by rfl, rfl⟩) (by assumption) ?_)
          (try simp only [Act.put, List.setIfInBounds_toArray, List.set_cons_zero, List.set_cons_succ, List.getElem_toArray, List.getElem_cons_zero, List.getElem_cons_succ])
          first
            | (refine wpAnyH_take (i := 6) rfl (by kernel_rfl) (by kernel_rfl) (by kernel_rfl) (fun _ _ _ h => h) (Or.inl ⟨by rfl, by intro w hSw; obtain ⟨q0, q1, q2, q3⟩ := HSC.out _ hSw; (go_simp <;> with_reducible rfl)⟩) (by assumption) ?_)
            | (refine wpAnyH_take (i := 6) rfl (by kernel_rfl) (by kernel_rfl) (by kernel_rfl) (fun _ _ _ h => h) (Or.inr ⟨by rfl, rfl⟩) (by assumption) ?_)
          (try simp only [Act.put, List.setIfInBounds_toArray, List.set_cons_zero, List.set_cons_succ, List.getElem_toArray, List.getElem_cons_zero, List.getElem_cons_succ])
          first
            | (refine wpAnyH_take (i := 7) rfl (by kernel_rfl) (by kernel_rfl) (by kernel_rfl) (fun _ _ _ h => h) (Or.inl ⟨by rfl, by intro w hSw; obtain ⟨q0, q1, q2, q3⟩ := HSC.out _ hSw; (go_simp <;> with_reducible rfl)⟩) (by assumption) ?_)
            | (refine wpAnyH_take (i := 7) rfl (by kernel_rfl) (by kernel_rfl) (by kernel_rfl) (fun _ _ _ h => h) (Or.inr ⟨by rfl, rfl⟩) (by assumption) ?_)
          (try simp only [Act.put, List.setIfInBounds_toArray, List.set_cons_zero, List.set_cons_succ, List.getElem_toArray, List.getElem_cons_zero, List.getElem_cons_succ])
          first
            | (refine wpAnyH_take (i := 8) rfl (by kernel_rfl) (by kernel_rfl) (by kernel_rfl) (fun _ _ _ h => h) (Or.inl ⟨by rfl, by intro w hSw; obtain ⟨q0, q1, q2, q3⟩ := HSC.out _ hSw; (go_simp <;> with_reducible rfl)⟩) (by assumption) ?_)
            | (refine wpAnyH_take (i := 8) rfl (by kernel_rfl) (by kernel_rfl) (by kernel_rfl) (fun _ _ _ h => h) (Or.inr ⟨by rfl, rfl⟩) (by assumption) ?_)
          (try simp only [Act.put, List.setIfInBounds_toArray, List.set_cons_zero, List.set_cons_succ, List.getElem_toArray, List.getElem_cons_zero, List.getElem_cons_succ])
          first
            | (refine wpAnyH_take (i := 9) rfl (by kernel_rfl) (by kernel_rfl) (by kernel_rfl) (fun _ _ _ h => h) (Or.inl ⟨by rfl, by intro w hSw; obtain ⟨q0, q1, q2, q3⟩ := HSC.out _ hSw; (go_simp <;> with_reducible rfl)⟩) (by assumption) ?_)
            | (refine wpAnyH_take (i := 9) rfl (by kernel_rfl) (by kernel_rfl) (by kernel_rfl) (fun _ _ _ h => h) (Or.inr ⟨by rfl, rfl⟩) (by assumption) ?_)
          (try simp only [Act.put, List.setIfInBounds_toArray, List.set_cons_zero, List.set_cons_succ, List.getElem_toArray, List.getElem_cons_zero, List.getElem_cons_succ])
          first
            | (refine wpAnyH_take (i := 10) rfl (by kernel_rfl) (by kernel_rfl) (by kernel_rfl) (fun _ _ _ h => h) (Or.inl ⟨by rfl, by intro w hSw; obtain ⟨q0, q1, q2, q3⟩ := HSC.out _ hSw; (go_simp <;> with_reducible rfl)⟩) (by assumption) ?_)
            | (refine wpAnyH_take (i := 10) rfl (by kernel_rfl) (by kernel_rfl) (by kernel_rfl) (fun _ _ _ h => h) (Or.inr ⟨by rfl, rfl⟩) (by assumption) ?_)
          (try simp only [Act.put, List.setIfInBounds_toArray, List.set_cons_zero, List.set_cons_succ, List.getElem_toArray, List.getElem_cons_zero, List.getElem_cons_succ])
          first
            | (refine wpAnyH_take (i := 11) rfl (by kernel_rfl) (by kernel_rfl) (by kernel_rfl) (fun _ _ _ h => h) (Or.inl ⟨by rfl, by intro w hSw; obtain ⟨q0, q1, q2, q3⟩ := HSC.out _ hSw; (go_simp <;> with_reducible rfl)⟩) (by assumption) ?_)
            | (refine wpAnyH_take (i := 11) rfl (by kernel_rfl) (by kernel_rfl) (by kernel_rfl) (fun _ _ _ h => h) (Or.inr ⟨by rfl, rfl⟩) (by assumption) ?_)
          (try simp only [Act.put, List.setIfInBounds_toArray, List.set_cons_zero, List.set_cons_succ, List.getElem_toArray, List.getElem_cons_zero, List.getElem_cons_succ])
          first
            | (refine wpAnyH_take (i := 12) rfl (by kernel_rfl) (by kernel_rfl) (by kernel_rfl) (fun _ _ _ h => h) (Or.inl ⟨by rfl, by intro w hSw; obtain ⟨q0, q1, q2, q3⟩ := HSC.out _ hSw; (go_simp <;> with_reducible rfl)⟩) (by assumption) ?_)
            | (refine wpAnyH_take (i := 12) rfl (by kernel_rfl) (by kernel_rfl) (by kernel_rfl) (fun _ _ _ h => h) (Or.inr ⟨by rfl, rfl⟩) (by assumption) ?_)
          (try simp only [Act.put, List.setIfInBounds_toArray, List.set_cons_zero, List.set_cons_succ, List.getElem_toArray, List.getElem_cons_zero, List.getElem_cons_succ])
          first
            | (refine wpAnyH_take (i := 13) rfl (by kernel_rfl) (by kernel_rfl) (by kernel_rfl) (fun _ _ _ h => h) (Or.inl ⟨by rfl, by intro w hSw; obtain ⟨q0, q1, q2, q3⟩ := HSC.out _ hSw; (go_simp <;> with_reducible rfl)⟩) (by assumption) ?_)
            | (refine wpAnyH_take (i := 13) rfl (by kernel_rfl) (by kernel_rfl) (by kernel_rfl) (fun _ _ _ h => h) (Or.inr ⟨by rfl, rfl⟩) (by assumption) ?_)
          (try simp only [Act.put, List.setIfInBounds_toArray, List.set_cons_zero, List.set_cons_succ, List.getElem_toArray, List.getElem_cons_zero, List.getElem_cons_succ])
          first
            | (refine wpAnyH_take (i := 14) rfl (by kernel_rfl) (by kernel_rfl) (by kernel_rfl) (fun _ _ _ h => h) (Or.inl ⟨by rfl, by intro w hSw; obtain ⟨q0, q1, q2, q3⟩ := HSC.out _ hSw; (go_simp <;> with_reducible rfl)⟩) (by assumption) ?_)
            | (refine wpAnyH_take (i := 14) rfl (by kernel_rfl) (by kernel_rfl) (by kernel_rfl) (fun _ _ _ h => h) (Or.inr ⟨by rfl, rfl⟩) (by assumption) ?_)
          (try simp only [Act.put, List.setIfInBounds_toArray, List.set_cons_zero, List.set_cons_succ, List.getElem_toArray, List.getElem_cons_zero, List.getElem_cons_succ])
          first
            | (refine wpAnyH_take (i := 15) rfl (by kernel_rfl) (by kernel_rfl) (by kernel_rfl) (fun _ _ _ h => h) (Or.inl ⟨by rfl, by intro w hSw; obtain ⟨q0, q1, q2, q3⟩ := HSC.out _ hSw; (go_simp <;> with_reducible rfl)⟩) (by assumption) ?_)
            | (refine wpAnyH_take (i := 15) rfl (by kernel_rfl) (by kernel_rfl) (by kernel_rfl) (fun _ _ _ h => h) (Or.inr ⟨by rfl, rfl⟩) (by assumption) ?_)
          (try simp only [Act.put, List.setIfInBounds_toArray, List.set_cons_zero, List.set_cons_succ, List.getElem_toArray, List.getElem_cons_zero, List.getElem_cons_succ])
          first
            | (refine wpAnyH_take (i := 16) rfl (by kernel_rfl) (by kernel_rfl) (by kernel_rfl) (fun _ _ _ h => h) (Or.inl ⟨by rfl, by intro w hSw; obtain ⟨q0, q1, q2, q3⟩ := HSC.out _ hSw; (go_simp <;> with_reducible rfl)⟩) (by assumption) ?_)
            | (refine wpAnyH_take (i := 16) rfl (by kernel_rfl) (by kernel_rfl) (by kernel_rfl) (fun _ _ _ h => h) (Or.inr ⟨by rfl, rfl⟩) (by assumption) ?_)
          (try simp only [Act.put, List.setIfInBounds_toArray, List.set_cons_zero, List.set_cons_succ, List.getElem_toArray, List.getElem_cons_zero, List.getElem_cons_succ])
          first
            | (refine wpAnyH_take (i := 17) rfl (by kernel_rfl) (by kernel_rfl) (by kernel_rfl) (fun _ _ _ h => h) (Or.inl ⟨by rfl, by intro w hSw; obtain ⟨q0, q1, q2, q3⟩ := HSC.out _ hSw; (go_simp <;> with_reducible rfl)⟩) (by assumption) ?_)
            | (refine wpAnyH_take (i := 17) rfl (by kernel_rfl) (by kernel_rfl) (by kernel_rfl) (fun _ _ _ h => h) (Or.inr ⟨by rfl, rfl⟩) (by assumption) ?_)
          (try simp only [Act.put, List.setIfInBounds_toArray, List.set_cons_zero, List.set_cons_succ, List.getElem_toArray, List.getElem_cons_zero, List.getElem_cons_succ])
          first
            | (refine wpAnyH_take (i := 18) rfl (by kernel_rfl) (by kernel_rfl) (by kernel_rfl) (fun _ _ _ h => h) (Or.inl ⟨by rfl, by intro w hSw; obtain ⟨q0, q1, q2, q3⟩ := HSC.out _ hSw; (go_simp <;> with_reducible rfl)⟩) (by assumption) ?_)
            | (refine wpAnyH_take (i := 18) rfl (by kernel_rfl) (by kernel_rfl) (by kernel_rfl) (fun _ _ _ h => h) (Or.inr ⟨by rfl, rfl⟩) (by assumption) ?_)
          (try simp only [Act.put, List.setIfInBounds_toArray, List.set_cons_zero, List.set_cons_succ, List.getElem_toArray, List.getElem_cons_zero, List.getElem_cons_succ])
          first
            | (refine wpAnyH_take (i := 19) rfl (by kernel_rfl) (by kernel_rfl) (by kernel_rfl) (fun _ _ _ h => h) (Or.inl ⟨by rfl, by intro w hSw; obtain ⟨q0, q1, q2, q3⟩ := HSC.out _ hSw; (go_simp <;> with_reducible rfl)⟩) (by assumption) ?_)
            | (refine wpAnyH_take (i := 19) rfl (by kernel_rfl) (by kernel_rfl) (by kernel_rfl) (fun _ _ _ h => h) (Or.inr ⟨by rfl, rfl⟩) (by assumption) ?_)
          (try simp only [Act.put, List.setIfInBounds_toArray, List.set_cons_zero, List.set_cons_succ, List.getElem_toArray, List.getElem_cons_zero, List.getElem_cons_succ])
          first
            | (refine wpAnyH_take (i := 20) rfl (by kernel_rfl) (by kernel_rfl) (by kernel_rfl) (fun _ _ _ h => h) (Or.inl ⟨by rfl, by intro w hSw; obtain ⟨q0, q1, q2, q3⟩ := HSC.out _ hSw; (go_simp <;> with_reducible rfl)⟩) (by assumption) ?_)
            | (refine wpAnyH_take (i := 20) rfl (by kernel_rfl) (by kernel_rfl) (by kernel_rfl) (fun _ _ _ h => h) (Or.inr ⟨by rfl, rfl⟩) (by assumption) ?_)
          (try simp only [Act.put, List.setIfInBounds_toArray, List.set_cons_zero, List.set_cons_succ, List.getElem_toArray, List.getElem_cons_zero, List.getElem_cons_succ])
          first
            | (refine wpAnyH_take (i := 21) rfl (by kernel_rfl) (by kernel_rfl) (by kernel_rfl) (fun _ _ _ h => h) (Or.inl ⟨by rfl, by intro w hSw; obtain ⟨q0, q1, q2, q3⟩ := HSC.out _ hSw; (go_simp <;> with_reducible rfl)⟩) (by assumption) ?_)
            | (refine wpAnyH_take (i := 21) rfl (by kernel_rfl) (by kernel_rfl) (by kernel_rfl) (fun _ _ _ h => h) (Or.inr ⟨by rfl, rfl⟩) (by assumption) ?_)
          (try simp only [Act.put, List.setIfInBounds_toArray, List.set_cons_zero, List.set_cons_succ, List.getElem_toArray, List.getElem_cons_zero, List.getElem_cons_succ])
          first
            | (refine wpAnyH_take (i := 22) rfl (by kernel_rfl) (by kernel_rfl) (by kernel_rfl) (fun _ _ _ h => h) (Or.inl ⟨by rfl, by intro w hSw; obtain ⟨q0, q1, q2, q3⟩ := HSC.out _ hSw; (go_simp <;> with_reducible rfl)⟩) (by assumption) ?_)
            | (refine wpAnyH_take (i := 22) rfl (by kernel_rfl) (by kernel_rfl) (by kernel_rfl) (fun _ _ _ h => h) (Or.inr ⟨by rfl, rfl⟩) (by assumption) ?_)
          (try simp only [Act.put, List.setIfInBounds_toArray, List.set_cons_zero, List.set_cons_succ, List.getElem_toArray, List.getElem_cons_zero, List.getElem_cons_succ])
          first
            | (refine wpAnyH_take (i := 23) rfl (by kernel_rfl) (by kernel_rfl) (by kernel_rfl) (fun _ _ _ h => h) (Or.inl ⟨by rfl, by intro w hSw; obtain ⟨q0, q1, q2, q3⟩ := HSC.out _ hSw; (go_simp <;> with_reducible rfl)⟩) (by assumption) ?_)
            | (refine wpAnyH_take (i := 23) rfl (by kernel_rfl) (by kernel_rfl) (by kernel_rfl) (fun _ _ _ h => h) (Or.inr ⟨by rfl, rfl⟩) (by assumption) ?_)
          (try simp only [Act.put, List.setIfInBounds_toArray, List.set_cons_zero, List.set_cons_succ, List.getElem_toArray, List.getElem_cons_zero, List.getElem_cons_succ])
          first
            | (refine wpAnyH_take (i := 24) rfl (by kernel_rfl) (by kernel_rfl) (by kernel_rfl) (fun _ _ _ h => h) (Or.inl ⟨by rfl, by intro w hSw; obtain ⟨q0, q1, q2, q3⟩ := HSC.out _ hSw; (go_simp <;> with_reducible rfl)⟩) (by assumption) ?_)
            | (refine wpAnyH_take (i := 24) rfl (by kernel_rfl) (by kernel_rfl) (by kernel_rfl) (fun _ _ _ h => h) (Or.inr ⟨by rfl, rfl⟩) (by assumption) ?_)
          (try simp only [Act.put, List.setIfInBounds_toArray, List.set_cons_zero, List.set_cons_succ, List.getElem_toArray, List.getElem_cons_zero, List.getElem_cons_succ])
          first
            | (refine wpAnyH_take (i := 25) rfl (by kernel_rfl) (by kernel_rfl) (by kernel_rfl) (fun _ _ _ h => h) (Or.inl ⟨by rfl, by intro w hSw; obtain ⟨q0, q1, q2, q3⟩ := HSC.out _ hSw; (go_simp <;> with_reducible rfl)⟩) (by assumption) ?_)
            | (refine wpAnyH_take (i := 25) rfl (by kernel_rfl) (by kernel_rfl) (by kernel_rfl) (fun _ _ _ h => h) (Or.inr ⟨by rfl, rfl⟩) (by assumption) ?_)
          (try simp only [Act.put, List.setIfInBounds_toArray, List.set_cons_zero, List.set_cons_succ, List.getElem_toArray, List.getElem_cons_zero, List.getElem_cons_succ])
          first
            | (refine wpAnyH_take (i := 26) rfl (by kernel_rfl) (by kernel_rfl) (by kernel_rfl) (fun _ _ _ h => h) (Or.inl ⟨by rfl, by intro w hSw; obtain ⟨q0, q1, q2, q3⟩ := HSC.out _ hSw; (go_simp <;> with_reducible rfl)⟩) (by assumption) ?_)
            | (refine wpAnyH_take (i := 26) rfl (by kernel_rfl) (by kernel_rfl) (by kernel_rfl) (fun _ _ _ h => h) (Or.inr ⟨by rfl, rfl⟩) (by assumption) ?_)
          (try simp only [Act.put, List.setIfInBounds_toArray, List.set_cons_zero, List.set_cons_succ, List.getElem_toArray, List.getElem_cons_zero, List.getElem_cons_succ])
          first
            | (refine wpAnyH_take (i := 27) rfl (by kernel_rfl) (by kernel_rfl) (by kernel_rfl) (fun _ _ _ h => h) (Or.inl ⟨by rfl, by intro w hSw; obtain ⟨q0, q1, q2, q3⟩ := HSC.out _ hSw; (go_simp <;> with_reducible rfl)⟩) (by assumption) ?_)
            | (refine wpAnyH_take (i := 27) rfl (by kernel_rfl) (by kernel_rfl) (by kernel_rfl) (fun _ _ _ h => h) (Or.inr ⟨by rfl, rfl⟩) (by assumption) ?_)
          (try simp only [Act.put, List.setIfInBounds_toArray, List.set_cons_zero, List.set_cons_succ, List.getElem_toArray, List.getElem_cons_zero, List.getElem_cons_succ])
          first
            | (refine wpAnyH_take (i := 28) rfl (by kernel_rfl) (by kernel_rfl) (by kernel_rfl) (fun _ _ _ h => h) (Or.inl ⟨by rfl, by intro w hSw; obtain ⟨q0, q1, q2, q3⟩ := HSC.out _ hSw; (go_simp <;> with_reducible rfl)⟩) (by assumption) ?_)
            | (refine wpAnyH_take (i := 28) rfl (by kernel_rfl) (by kernel_rfl) (by kernel_rfl) (fun _ _ _ h => h) (Or.inr ⟨by rfl, rfl⟩) (by assumption) ?_)
          (try simp only [Act.put, List.setIfInBounds_toArray, List.set_cons_zero, List.set_cons_succ, List.getElem_toArray, List.getElem_cons_zero, List.getElem_cons_succ])
          first
            | (refine wpAnyH_take (i := 29) rfl (by kernel_rfl) (by kernel_rfl) (by kernel_rfl) (fun _ _ _ h => h) (Or.inl ⟨by rfl, by intro w hSw; obtain ⟨q0, q1, q2, q3⟩ := HSC.out _ hSw; (go_simp <;> with_reducible rfl)⟩) (by assumption) ?_)
            | (refine wpAnyH_take (i := 29) rfl (by kernel_rfl) (by kernel_rfl) (by kernel_rfl) (fun _ _ _ h => h) (Or.inr ⟨by rfl, rfl⟩) (by assumption) ?_)
          (try simp only [Act.put, List.setIfInBounds_toArray, List.set_cons_zero, List.set_cons_succ, List.getElem_toArray, List.getElem_cons_zero, List.getElem_cons_succ])
          first
            | (refine wpAnyH_take (i := 30) rfl (by kernel_rfl) (by kernel_rfl) (by kernel_rfl) (fun _ _ _ h => h) (Or.inl ⟨by rfl, by intro w hSw; obtain ⟨q0, q1, q2, q3⟩ := HSC.out _ hSw; (go_simp <;> with_reducible rfl)⟩) (by assumption) ?_)
            | (refine wpAnyH_take (i := 30) rfl (by kernel_rfl) (by kernel_rfl) (by kernel_rfl) (fun _ _ _ h => h) (Or.inr ⟨by rfl, rfl⟩) (by assumption) ?_)
          (try simp only [Act.put, List.setIfInBounds_toArray, List.set_cons_zero, List.set_cons_succ, List.getElem_toArray, List.getElem_cons_zero, List.getElem_cons_succ])
          first
            | (refine wpAnyH_take (i := 31) rfl (by kernel_rfl) (by kernel_rfl) (by kernel_rfl) (fun _ _ _ h => h) (Or.inl ⟨by rfl, by intro w hSw; obtain ⟨q0, q1, q2, q3⟩ := HSC.out _ hSw; (go_simp <;> with_reducible rfl)⟩) (by assumption) ?_)
            | (refine wpAnyH_take (i := 31) rfl (by kernel_rfl) (by kernel_rfl) (by kernel_rfl) (fun _ _ _ h => h) (Or.inr ⟨by rfl, rfl⟩) (by assumption) ?_)
          (try simp only [Act.put, List.setIfInBounds_toArray, List.set_cons_zero, List.set_cons_succ, List.getElem_toArray, List.getElem_cons_zero, List.getElem_cons_succ])
          first
            | (refine wpAnyH_take (i := 32) rfl (by kernel_rfl) (by kernel_rfl) (by kernel_rfl) (fun _ _ _ h => h) (Or.inl ⟨by rfl, by intro w hSw; obtain ⟨q0, q1, q2, q3⟩ := HSC.out _ hSw; (go_simp <;> with_reducible rfl)⟩) (by assumption) ?_)
            | (refine wpAnyH_take (i := 32) rfl (by kernel_rfl) (by kernel_rfl) (by kernel_rfl) (fun _ _ _ h => h) (Or.inr ⟨by rfl, rfl⟩) (by assumption) ?_)
          (try simp only [Act.put, List.setIfInBounds_toArray, List.set_cons_zero, List.set_cons_succ, List.getElem_toArray, List.getElem_cons_zero, List.getElem_cons_succ])
          first
            | (refine wpAnyH_take (i := 33) rfl (by kernel_rfl) (by kernel_rfl) (by kernel_rfl) (fun _ _ _ h => h) (Or.inl ⟨by rfl, by intro w hSw; obtain ⟨q0, q1, q2, q3⟩ := HSC.out _ hSw; (go_simp <;> with_reducible rfl)⟩) (by assumption) ?_)
            | (refine wpAnyH_take (i := 33) rfl (by kernel_rfl) (by kernel_rfl) (by kernel_rfl) (fun _ _ _ h => h) (Or.inr ⟨by rfl, rfl⟩) (by assumption) ?_)
          (try simp only [Act.put, List.setIfInBounds_toArray, List.set_cons_zero, List.set_cons_succ, List.getElem_toArray, List.getElem_cons_zero, List.getElem_cons_succ])
          refine wpAnyH_done (by kernel_rfl) ?_ _
          clear hHeld
          have d0 : V.drew.cell? ⟨m3, j, none⟩ = some (.int .i64 0) := hcell
          have d1 : V.drew.frozen? ⟨m3, j, none⟩ = false := hfro
          have d2 : V.drew.cell? ⟨b6, 3, none⟩ = some (.slice (some ⟨m3, 0, none⟩) b.length b.length) := hb6c
          have d3 : V.drew.cell? ⟨wr.heap.size, 0, none⟩ = some (.int .i64 3) := hbox0
          have d4 : V.drew.cell? ⟨wr.heap.size, 1, none⟩ = some (.int .i64 (j : Int)) := hbox1
          clear hcell hfro hb6c hbox0 hbox1
          go_wp2_with fail
          go_region
          all_goals
            go_wp2
            go_roundw
            case rel => exact ⟨k + 1, by have := HLT.out; omega, by go_num, HNX.out⟩
            case measure => have := HLT.out; simp [intOf]; omega
      · rw [List.take_of_length_le (by omega : L.length ≤ k)] at hsw HSW
        clear hsw
        have HSN := HSW
        clear HSW hk
        go_wp2
        go_loopw [95] (fun ix wr => ∃ i : Nat, i ≤ l.length ∧ ix = .int .i64 i ∧ Seen w3 wr b6 m1 m2 m3 (cntL L 1 l.length) (cntL L 2 l.length) (cntL L 3 b.length)) (fun ix _ => l.length - (intOf ix).toNat)
        case atStart => exact ⟨0, Nat.zero_le _, rfl, HSN.out⟩
        case round =>
          clear HSN
          obtain ⟨i, hi, rfl, hsw⟩ := hrel
          have HSW := Lib.hid hsw
          have HBR := Lib.hid (HB3.out.trans (hsw.bel.mono HB3.out.size))
          clear hsw
          by_cases hlt : i < l.length
          · obtain ⟨bb, oo, x, rfl, hbl, hx, -, hxc⟩ := HR.out.at_ hlt
            have hi2 : (i : Int) < (l.length : Int) := by omega
            have hkw := IntWalk.i64_in ((i : Int) + 1) (by have := HL60.out; omega)
            obtain ⟨-, -, -, hsa, -⟩ := ok_parts hx (sound_up HSO.out i hlt)
            obtain ⟨a, p, q, ha⟩ : ∃ a p q, spotN l x = (a, p, q) := ⟨_, _, _, rfl⟩
            have hc1 := HC1.out i hlt
            have hc2 := HC2.out i hlt
            rw [spL_at hx, ha] at hc1
            rw [rgL_at hx] at hc2
            have HXR := Lib.hid (hxc _ HBR.out).1
            obtain ⟨X1, X2, HX1, HX2, hth, hxb1, hxb2, hxs, hxv⟩ := var17 wr x #[.int .i64 0, .int .i64 0, .int .i64 0, .int .u64 0, .slice none 0 0, .int .i64 0, .slice none 0 0, .bool false, .int .i64 0, .bool false, .int .i64 0, .int .i64 0, .int .i64 0, .int .i64 0, .int .i64 0, .int .i64 0, .int .i64 0, .int .i64 0, .int .i64 0, .int .i64 0] rfl
            have HXB := Lib.hid hxb2; have HXV := Lib.hid hxv; have HTH := Lib.hid hth
            clear hxb1 hxb2 hxs hxv hth
            have HBX := Lib.hid (HBR.out.trans (HXB.out.mono HBR.out.size))
            have HLT := Lib.hid hlt
            have HX := Lib.hid hx; have HSA := Lib.hid hsa; have HA := Lib.hid ha
            have HC1i := Lib.hid hc1; have HC2i := Lib.hid hc2
            clear hx hxc hbl hlt ha hsa hc1 hc2
            go_wp2_with (first | (rw [← HX1.out]) | (with_reducible refine wpList_store_mid (by kernel_rfl) _ _ _ rfl wr.heap.size 0 (cCells x).toArray (by kernel_rfl) (by kernel_rfl) HTH.out (cCells_infoA x) (cCells_one x) ?_) | (rw [← HX2.out]) | (with_reducible refine wpList_loadC (by with_unfolding_all rfl) _ rfl _ _ _ (by with_unfolding_all rfl) HXR.out ?_))
            refine (rplace_b _ l c i x a p q _ (HR.out.later HBX.out) HX.out HSA.out HA.out).mono ?_
            rintro e w4 ⟨rfl, hb4⟩
            have hXV4 : CAt w4 wr.heap.size 0 x := HXV.out.later hb4 HXV.out.lt
            obtain ⟨X, HXW⟩ : ∃ u, Hid (u = w4.alloc (.cells #[.int .i64 a, .bool p, .bool q] 53)) := ⟨_, rfl⟩
            have hbX : Below w4.heap.size w4 X := by rw [HXW.out]; exact (Below.refl _ _).alloc (Nat.le_refl _) _
            have hXb : X.heap[w4.heap.size]? = some (.cells #[.int .i64 a, .bool p, .bool q] 53 (0, 0)) := by rw [HXW.out]; exact heap_alloc_new _ _
            have q2 := cell_at19 hXb (i := 2) rfl
            have HXV4 := Lib.hid (hXV4.later hbX hXV4.lt)
            have hwX : Below wr.heap.size wr X := HXB.out.trans ((hb4.trans (hbX.mono hb4.size)).mono HXB.out.size)
            have HSX := Lib.hid (HSW.out.later hwX)
            have hc1 := HC1i.out
            have hc2 : 0 ≤ x.ring → cnt L 2 i = 1 := fun h => by rw [HC2i.out, if_pos h]
            have hc2n : ¬ 0 ≤ x.ring → cnt L 2 i = 0 := fun h => by rw [HC2i.out, if_neg h]
            clear hb4 hXV4 hbX hXb hwX
            cases q with
            | true =>
              have hc1 : true = true → cnt L 1 i = 1 := fun _ => by rw [hc1]; rfl
              by_cases hg : 0 ≤ x.ring
              · have hz1 := hc1 rfl
                have hz2 := hc2 hg
                have HSC : Hid (∀ U, Below X.heap.size X U → U.cell? ⟨b6, 1, none⟩ = some (.slice (some ⟨m1, 0, none⟩) l.length l.length) ∧ U.cell? ⟨b6, 2, none⟩ = some (.slice (some ⟨m2, 0, none⟩) l.length l.length) ∧ U.cell? ⟨m1, i, none⟩ = some (.int .i64 1) ∧ U.cell? ⟨m2, i, none⟩ = some (.int .i64 1) ∧ U.cell? ⟨w4.heap.size, 2, none⟩ = some (.bool true) ∧ U.cell? ⟨wr.heap.size, 17, none⟩ = some (.int .i64 x.ring)) := Lib.hid (fun U hU => by
                  have hS := HSX.out.later hU
                  have g1 := cell_at19 hS.bx (i := 1) rfl
                  have g2 := cell_at19 hS.bx (i := 2) rfl
                  have a1 := cntL_at L 1 HLT.out
                  have a2 := cntL_at L 2 HLT.out
                  simp only [cntL_len] at g1 g2
                  rw [hz1] at a1
                  rw [hz2] at a2
                  refine ⟨g1, g2, ?_, ?_, (hU.cell (p := ⟨w4.heap.size, 2, none⟩) (World.block_lt_of_cell? X _ q2)).trans q2, ?_⟩
                  · simp [World.cell?, hS.r1, icell, a1]
                  · simp [World.cell?, hS.r2, icell, a2]
                  · exact (HXV4.out.later hU HXV4.out.lt).b_ring)
                clear hz1 hz2 q2
                go_wp2_with (rw [← HXW.out])
                refine wp_region_held_drew (S := fun U => Below X.heap.size X U) (by kernel_rfl) ((Below.refl _ _).drew) (fun hHeld => ?_)
                first
                  | (refine wpAnyH_take (i := 0) rfl (by kernel_rfl) (by kernel_rfl) (by kernel_rfl) (fun _ _ _ h => h) (Or.inl ⟨by rfl, by intro w hSw; obtain ⟨g0, g1, g2, g3, g4, g5⟩ := HSC.out _ hSw; (go_simp <;> with_reducible rfl)⟩) (by assumption) ?_)
                  | (refine wpAnyH_take (i := 0) rfl (by kernel_rfl) (by kernel_rfl) (by kernel_rfl) (fun _ _ _ h => h) (Or.inr ⟨by rfl, rfl⟩) (by assumption) ?_)
                (try simp only [Act.put, List.setIfInBounds_toArray, List.set_cons_zero, List.set_cons_succ, List.getElem_toArray, List.getElem_cons_zero, List.getElem_cons_succ])
                first
                  | (refine wpAnyH_take (i := 1) rfl (by kernel_rfl) (by kernel_rfl) (by kernel_rfl) (fun _ _ _ h => h) (Or.inl ⟨by rfl, by intro w hSw; obtain ⟨g0, g1, g2, g3, g4, g5⟩ := HSC.out _ hSw; (go_simp <;> with_reducible rfl)⟩) (by assumption) ?_)
                  | (refine wpAnyH_take (i := 1) rfl (by kernel_rfl) (by kernel_rfl) (by kernel_rfl) (fun _ _ _ h => h) (Or.inr ⟨by rfl, rfl⟩) (by assumption) ?_)
                (try simp only [Act.put, List.setIfInBounds_toArray, List.set_cons_zero, List.set_cons_succ, List.getElem_toArray, List.getElem_cons_zero, List.getElem_cons_succ])
                first
                  | (refine wpAnyH_take (i := 2) rfl (by kernel_rfl) (by kernel_rfl) (by kernel_rfl) (fun _ _ _ h => h) (Or.inl ⟨by rfl, by intro w hSw; obtain ⟨g0, g1, g2, g3, g4, g5⟩ := HSC.out _ hSw; (go_simp <;> with_reducible rfl)⟩) (by assumption) ?_)
                  | (refine wpAnyH_take (i := 2) rfl (by kernel_rfl) (by kernel_rfl) (by kernel_rfl) (fun _ _ _ h => h) (Or.inr ⟨by rfl, rfl⟩) (by assumption) ?_)
                (try simp only [Act.put, List.setIfInBounds_toArray, List.set_cons_zero, List.set_cons_succ, List.getElem_toArray, List.getElem_cons_zero, List.getElem_cons_succ])
                first
                  | (refine wpAnyH_take (i := 3) rfl (by kernel_rfl) (by kernel_rfl) (by kernel_rfl) (fun _ _ _ h => h) (Or.inl ⟨by rfl, by intro w hSw; obtain ⟨g0, g1, g2, g3, g4, g5⟩ := HSC.out _ hSw; (go_simp <;> with_reducible rfl)⟩) (by assumption) ?_)
                  | (refine wpAnyH_take (i := 3) rfl (by kernel_rfl) (by kernel_rfl) (by kernel_rfl) (fun _ _ _ h => h) (Or.inr ⟨by rfl, rfl⟩) (by assumption) ?_)
                (try simp only [Act.put, List.setIfInBounds_toArray, List.set_cons_zero, List.set_cons_succ, List.getElem_toArray, List.getElem_cons_zero, List.getElem_cons_succ])
                first
                  | (refine wpAnyH_take (i := 4) rfl (by kernel_rfl) (by kernel_rfl) (by kernel_rfl) (fun _ _ _ h => h) (Or.inl ⟨by rfl, by intro w hSw; obtain ⟨g0, g1, g2, g3, g4, g5⟩ := HSC.out _ hSw; (go_simp <;> with_reducible rfl)⟩) (by assumption) ?_)
                  | (refine wpAnyH_take (i := 4) rfl (by kernel_rfl) (by kernel_rfl) (by kernel_rfl) (fun _ _ _ h => h) (Or.inr ⟨by rfl, rfl⟩) (by assumption) ?_)
                (try simp only [Act.put, List.setIfInBounds_toArray, List.set_cons_zero, List.set_cons_succ, List.getElem_toArray, List.getElem_cons_zero, List.getElem_cons_succ])
                first
                  | (refine wpAnyH_take (i := 5) rfl (by kernel_rfl) (by kernel_rfl) (by kernel_rfl) (fun _ _ _ h => h) (Or.inl ⟨by rfl, by intro w hSw; obtain ⟨g0, g1, g2, g3, g4, g5⟩ := HSC.out _ hSw; (go_simp <;> with_reducible rfl)⟩) (by assumption) ?_)
                  | (refine wpAnyH_take (i := 5) rfl (by kernel_rfl) (by kernel_rfl) (by kernel_rfl) (fun _ _ _ h => h) (Or.inr ⟨by rfl, rfl⟩) (by assumption) ?_)
                (try simp only [Act.put, List.setIfInBounds_toArray, List.set_cons_zero, List.set_cons_succ, List.getElem_toArray, List.getElem_cons_zero, List.getElem_cons_succ])
                first
                  | (refine wpAnyH_take (i := 6) rfl (by kernel_rfl) (by kernel_rfl) (by kernel_rfl) (fun _ _ _ h => h) (Or.inl ⟨by rfl, by intro w hSw; obtain ⟨g0, g1, g2, g3, g4, g5⟩ := HSC.out _ hSw; (go_simp <;> with_reducible rfl)⟩) (by assumption) ?_)
                  | (refine wpAnyH_take (i := 6) rfl (by kernel_rfl) (by kernel_rfl) (by kernel_rfl) (fun _ _ _ h => h) (Or.inr ⟨by rfl, rfl⟩) (by assumption) ?_)
                (try simp only [Act.put, List.setIfInBounds_toArray, List.set_cons_zero, List.set_cons_succ, List.getElem_toArray, List.getElem_cons_zero, List.getElem_cons_succ])
                first
                  | (refine wpAnyH_take (i := 7) rfl (by kernel_rfl) (by kernel_rfl) (by kernel_rfl) (fun _ _ _ h => h) (Or.inl ⟨by rfl, by intro w hSw; obtain ⟨g0, g1, g2, g3, g4, g5⟩ := HSC.out _ hSw; (go_simp <;> with_reducible rfl)⟩) (by assumption) ?_)
                  | (refine wpAnyH_take (i := 7) rfl (by kernel_rfl) (by kernel_rfl) (by kernel_rfl) (fun _ _ _ h => h) (Or.inr ⟨by rfl, rfl⟩) (by assumption) ?_)
                (try simp only [Act.put, List.setIfInBounds_toArray, List.set_cons_zero, List.set_cons_succ, List.getElem_toArray, List.getElem_cons_zero, List.getElem_cons_succ])
                first
                  | (refine wpAnyH_take (i := 8) rfl (by kernel_rfl) (by kernel_rfl) (by kernel_rfl) (fun _ _ _ h => h) (Or.inl ⟨by rfl, by intro w hSw; obtain ⟨g0, g1, g2, g3, g4, g5⟩ := HSC.out _ hSw; (go_simp <;> with_reducible rfl)⟩) (by assumption) ?_)
                  | (refine wpAnyH_take (i := 8) rfl (by kernel_rfl) (by kernel_rfl) (by kernel_rfl) (fun _ _ _ h => h) (Or.inr ⟨by rfl, rfl⟩) (by assumption) ?_)
                (try simp only [Act.put, List.setIfInBounds_toArray, List.set_cons_zero, List.set_cons_succ, List.getElem_toArray, List.getElem_cons_zero, List.getElem_cons_succ])
                first
                  | (refine wpAnyH_take (i := 9) rfl (by kernel_rfl) (by kernel_rfl) (by kernel_rfl) (fun _ _ _ h => h) (Or.inl ⟨by rfl, by intro w hSw; obtain ⟨g0, g1, g2, g3, g4, g5⟩ := HSC.out _ hSw; (go_simp <;> with_reducible rfl)⟩) (by assumption) ?_)
                  | (refine wpAnyH_take (i := 9) rfl (by kernel_rfl) (by kernel_rfl) (by kernel_rfl) (fun _ _ _ h => h) (Or.inr ⟨by rfl, rfl⟩) (by assumption) ?_)
                (try simp only [Act.put, List.setIfInBounds_toArray, List.set_cons_zero, List.set_cons_succ, List.getElem_toArray, List.getElem_cons_zero, List.getElem_cons_succ])
                first
                  | (refine wpAnyH_take (i := 10) rfl (by kernel_rfl) (by kernel_rfl) (by kernel_rfl) (fun _ _ _ h => h) (Or.inl ⟨by rfl, by intro w hSw; obtain ⟨g0, g1, g2, g3, g4, g5⟩ := HSC.out _ hSw; (go_simp <;> with_reducible rfl)⟩) (by assumption) ?_)
                  | (refine wpAnyH_take (i := 10) rfl (by kernel_rfl) (by kernel_rfl) (by kernel_rfl) (fun _ _ _ h => h) (Or.inr ⟨by rfl, rfl⟩) (by assumption) ?_)
                (try simp only [Act.put, List.setIfInBounds_toArray, List.set_cons_zero, List.set_cons_succ, List.getElem_toArray, List.getElem_cons_zero, List.getElem_cons_succ])
                first
                  | (refine wpAnyH_take (i := 11) rfl (by kernel_rfl) (by kernel_rfl) (by kernel_rfl) (fun _ _ _ h => h) (Or.inl ⟨by rfl, by intro w hSw; obtain ⟨g0, g1, g2, g3, g4, g5⟩ := HSC.out _ hSw; (go_simp <;> with_reducible rfl)⟩) (by assumption) ?_)
                  | (refine wpAnyH_take (i := 11) rfl (by kernel_rfl) (by kernel_rfl) (by kernel_rfl) (fun _ _ _ h => h) (Or.inr ⟨by rfl, rfl⟩) (by assumption) ?_)
                (try simp only [Act.put, List.setIfInBounds_toArray, List.set_cons_zero, List.set_cons_succ, List.getElem_toArray, List.getElem_cons_zero, List.getElem_cons_succ])
                first
                  | (refine wpAnyH_take (i := 12) rfl (by kernel_rfl) (by kernel_rfl) (by kernel_rfl) (fun _ _ _ h => h) (Or.inl ⟨by rfl, by intro w hSw; obtain ⟨g0, g1, g2, g3, g4, g5⟩ := HSC.out _ hSw; (go_simp <;> with_reducible rfl)⟩) (by assumption) ?_)
                  | (refine wpAnyH_take (i := 12) rfl (by kernel_rfl) (by kernel_rfl) (by kernel_rfl) (fun _ _ _ h => h) (Or.inr ⟨by rfl, rfl⟩) (by assumption) ?_)
                (try simp only [Act.put, List.setIfInBounds_toArray, List.set_cons_zero, List.set_cons_succ, List.getElem_toArray, List.getElem_cons_zero, List.getElem_cons_succ])
                first
                  | (refine wpAnyH_take (i := 13) rfl (by kernel_rfl) (by kernel_rfl) (by kernel_rfl) (fun _ _ _ h => h) (Or.inl ⟨by rfl, by intro w hSw; obtain ⟨g0, g1, g2, g3, g4, g5⟩ := HSC.out _ hSw; (go_simp <;> with_reducible rfl)⟩) (by assumption) ?_)
                  | (refine wpAnyH_take (i := 13) rfl (by kernel_rfl) (by kernel_rfl) (by kernel_rfl) (fun _ _ _ h => h) (Or.inr ⟨by rfl, rfl⟩) (by assumption) ?_)
                (try simp only [Act.put, List.setIfInBounds_toArray, List.set_cons_zero, List.set_cons_succ, List.getElem_toArray, List.getElem_cons_zero, List.getElem_cons_succ])
                first
                  | (refine wpAnyH_take (i := 14) rfl (by kernel_rfl) (by kernel_rfl) (by kernel_rfl) (fun _ _ _ h => h) (Or.inl ⟨by rfl, by intro w hSw; obtain ⟨g0, g1, g2, g3, g4, g5⟩ := HSC.out _ hSw; (go_simp <;> with_reducible rfl)⟩) (by assumption) ?_)
                  | (refine wpAnyH_take (i := 14) rfl (by kernel_rfl) (by kernel_rfl) (by kernel_rfl) (fun _ _ _ h => h) (Or.inr ⟨by rfl, rfl⟩) (by assumption) ?_)
                (try simp only [Act.put, List.setIfInBounds_toArray, List.set_cons_zero, List.set_cons_succ, List.getElem_toArray, List.getElem_cons_zero, List.getElem_cons_succ])
                first
                  | (refine wpAnyH_take (i := 15) rfl (by kernel_rfl) (by kernel_rfl) (by kernel_rfl) (fun _ _ _ h => h) (Or.inl ⟨by rfl, by intro w hSw; obtain ⟨g0, g1, g2, g3, g4, g5⟩ := HSC.out _ hSw; (go_simp <;> with_reducible rfl)⟩) (by assumption) ?_)
                  | (refine wpAnyH_take (i := 15) rfl (by kernel_rfl) (by kernel_rfl) (by kernel_rfl) (fun _ _ _ h => h) (Or.inr ⟨by rfl, rfl⟩) (by assumption) ?_)
                (try simp only [Act.put, List.setIfInBounds_toArray, List.set_cons_zero, List.set_cons_succ, List.getElem_toArray, List.getElem_cons_zero, List.getElem_cons_succ])
                first
                  | (refine wpAnyH_take (i := 16) rfl (by kernel_rfl) (by kernel_rfl) (by kernel_rfl) (fun _ _ _ h => h) (Or.inl ⟨by rfl, by intro w hSw; obtain ⟨g0, g1, g2, g3, g4, g5⟩ := HSC.out _ hSw; (go_simp <;> with_reducible rfl)⟩) (by assumption) ?_)
                  | (refine wpAnyH_take (i := 16) rfl (by kernel_rfl) (by kernel_rfl) (by kernel_rfl) (fun _ _ _ h => h) (Or.inr ⟨by rfl, rfl⟩) (by assumption) ?_)
                (try simp only [Act.put, List.setIfInBounds_toArray, List.set_cons_zero, List.set_cons_succ, List.getElem_toArray, List.getElem_cons_zero, List.getElem_cons_succ])
                first
                  | (refine wpAnyH_take (i := 17) rfl (by kernel_rfl) (by kernel_rfl) (by kernel_rfl) (fun _ _ _ h => h) (Or.inl ⟨by rfl, by intro w hSw; obtain ⟨g0, g1, g2, g3, g4, g5⟩ := HSC.out _ hSw; (go_simp <;> with_reducible rfl)⟩) (by assumption) ?_)
                  | (refine wpAnyH_take (i := 17) rfl (by kernel_rfl) (by kernel_rfl) (by kernel_rfl) (fun _ _ _ h => h) (Or.inr ⟨by rfl, rfl⟩) (by assumption) ?_)
                (try simp only [Act.put, List.setIfInBounds_toArray, List.set_cons_zero, List.set_cons_succ, List.getElem_toArray, List.getElem_cons_zero, List.getElem_cons_succ])
                first
                  | (refine wpAnyH_take (i := 18) rfl (by kernel_rfl) (by kernel_rfl) (by kernel_rfl) (fun _ _ _ h => h) (Or.inl ⟨by rfl, by intro w hSw; obtain ⟨g0, g1, g2, g3, g4, g5⟩ := HSC.out _ hSw; (go_simp <;> with_reducible rfl)⟩) (by assumption) ?_)
                  | (refine wpAnyH_take (i := 18) rfl (by kernel_rfl) (by kernel_rfl) (by kernel_rfl) (fun _ _ _ h => h) (Or.inr ⟨by rfl, rfl⟩) (by assumption) ?_)
                (try simp only [Act.put, List.setIfInBounds_toArray, List.set_cons_zero, List.set_cons_succ, List.getElem_toArray, List.getElem_cons_zero, List.getElem_cons_succ])
                first
                  | (refine wpAnyH_take (i := 19) rfl (by kernel_rfl) (by kernel_rfl) (by kernel_rfl) (fun _ _ _ h => h) (Or.inl ⟨by rfl, by intro w hSw; obtain ⟨g0, g1, g2, g3, g4, g5⟩ := HSC.out _ hSw; (go_simp <;> with_reducible rfl)⟩) (by assumption) ?_)
                  | (refine wpAnyH_take (i := 19) rfl (by kernel_rfl) (by kernel_rfl) (by kernel_rfl) (fun _ _ _ h => h) (Or.inr ⟨by rfl, rfl⟩) (by assumption) ?_)
                (try simp only [Act.put, List.setIfInBounds_toArray, List.set_cons_zero, List.set_cons_succ, List.getElem_toArray, List.getElem_cons_zero, List.getElem_cons_succ])
                first
                  | (refine wpAnyH_take (i := 20) rfl (by kernel_rfl) (by kernel_rfl) (by kernel_rfl) (fun _ _ _ h => h) (Or.inl ⟨by rfl, by intro w hSw; obtain ⟨g0, g1, g2, g3, g4, g5⟩ := HSC.out _ hSw; (go_simp <;> with_reducible rfl)⟩) (by assumption) ?_)
                  | (refine wpAnyH_take (i := 20) rfl (by kernel_rfl) (by kernel_rfl) (by kernel_rfl) (fun _ _ _ h => h) (Or.inr ⟨by rfl, rfl⟩) (by assumption) ?_)
                (try simp only [Act.put, List.setIfInBounds_toArray, List.set_cons_zero, List.set_cons_succ, List.getElem_toArray, List.getElem_cons_zero, List.getElem_cons_succ])
                refine wpAnyH_done (by kernel_rfl) ?_ _
                clear hHeld
                go_wp2
                go_roundw
                case rel => exact ⟨i + 1, by have := HLT.out; omega, by go_num, HSX.out.later (Below.refl _ _).drew⟩
                case measure => have := HLT.out; simp [intOf]; omega
              · have hc2 := hc2n
                have hgd : decide (0 ≤ x.ring) = false := decide_eq_false hg
                have hz1 := hc1 rfl
                have hz2 := hc2 hg
                have HSC : Hid (∀ U, Below X.heap.size X U → U.cell? ⟨b6, 1, none⟩ = some (.slice (some ⟨m1, 0, none⟩) l.length l.length) ∧ U.cell? ⟨b6, 2, none⟩ = some (.slice (some ⟨m2, 0, none⟩) l.length l.length) ∧ U.cell? ⟨m1, i, none⟩ = some (.int .i64 1) ∧ U.cell? ⟨m2, i, none⟩ = some (.int .i64 0) ∧ U.cell? ⟨w4.heap.size, 2, none⟩ = some (.bool true) ∧ U.cell? ⟨wr.heap.size, 17, none⟩ = some (.int .i64 x.ring)) := Lib.hid (fun U hU => by
                  have hS := HSX.out.later hU
                  have g1 := cell_at19 hS.bx (i := 1) rfl
                  have g2 := cell_at19 hS.bx (i := 2) rfl
                  have a1 := cntL_at L 1 HLT.out
                  have a2 := cntL_at L 2 HLT.out
                  simp only [cntL_len] at g1 g2
                  rw [hz1] at a1
                  rw [hz2] at a2
                  refine ⟨g1, g2, ?_, ?_, (hU.cell (p := ⟨w4.heap.size, 2, none⟩) (World.block_lt_of_cell? X _ q2)).trans q2, ?_⟩
                  · simp [World.cell?, hS.r1, icell, a1]
                  · simp [World.cell?, hS.r2, icell, a2]
                  · exact (HXV4.out.later hU HXV4.out.lt).b_ring)
                clear hz1 hz2 q2
                go_wp2_with (rw [← HXW.out])
                refine wp_region_held_drew (S := fun U => Below X.heap.size X U) (by kernel_rfl) ((Below.refl _ _).drew) (fun hHeld => ?_)
                first
                  | (refine wpAnyH_take (i := 0) rfl (by kernel_rfl) (by kernel_rfl) (by kernel_rfl) (fun _ _ _ h => h) (Or.inl ⟨by rfl, by intro w hSw; obtain ⟨g0, g1, g2, g3, g4, g5⟩ := HSC.out _ hSw; (go_simp <;> with_reducible rfl)⟩) (by assumption) ?_)
                  | (refine wpAnyH_take (i := 0) rfl (by kernel_rfl) (by kernel_rfl) (by kernel_rfl) (fun _ _ _ h => h) (Or.inr ⟨by rfl, rfl⟩) (by assumption) ?_)
                (try simp only [Act.put, List.setIfInBounds_toArray, List.set_cons_zero, List.set_cons_succ, List.getElem_toArray, List.getElem_cons_zero, List.getElem_cons_succ])
                first
                  | (refine wpAnyH_take (i := 1) rfl (by kernel_rfl) (by kernel_rfl) (by kernel_rfl) (fun _ _ _ h => h) (Or.inl ⟨by rfl, by intro w hSw; obtain ⟨g0, g1, g2, g3, g4, g5⟩ := HSC.out _ hSw; (go_simp <;> with_reducible rfl)⟩) (by assumption) ?_)
                  | (refine wpAnyH_take (i := 1) rfl (by kernel_rfl) (by kernel_rfl) (by kernel_rfl) (fun _ _ _ h => h) (Or.inr ⟨by rfl, rfl⟩) (by assumption) ?_)
                (try simp only [Act.put, List.setIfInBounds_toArray, List.set_cons_zero, List.set_cons_succ, List.getElem_toArray, List.getElem_cons_zero, List.getElem_cons_succ])
                first
                  | (refine wpAnyH_take (i := 2) rfl (by kernel_rfl) (by kernel_rfl) (by kernel_rfl) (fun _ _ _ h => h) (Or.inl ⟨by rfl, by intro w hSw; obtain ⟨g0, g1, g2, g3, g4, g5⟩ := HSC.out _ hSw; (go_simp <;> with_reducible rfl)⟩) (by assumption) ?_)
                  | (refine wpAnyH_take (i := 2) rfl (by kernel_rfl) (by kernel_rfl) (by kernel_rfl) (fun _ _ _ h => h) (Or.inr ⟨by rfl, rfl⟩) (by assumption) ?_)
                (try simp only [Act.put, List.setIfInBounds_toArray, List.set_cons_zero, List.set_cons_succ, List.getElem_toArray, List.getElem_cons_zero, List.getElem_cons_succ])
                first
                  | (refine wpAnyH_take (i := 3) rfl (by kernel_rfl) (by kernel_rfl) (by kernel_rfl) (fun _ _ _ h => h) (Or.inl ⟨by rfl, by intro w hSw; obtain ⟨g0, g1, g2, g3, g4, g5⟩ := HSC.out _ hSw; (go_simp <;> with_reducible rfl)⟩) (by assumption) ?_)
                  | (refine wpAnyH_take (i := 3) rfl (by kernel_rfl) (by kernel_rfl) (by kernel_rfl) (fun _ _ _ h => h) (Or.inr ⟨by rfl, rfl⟩) (by assumption) ?_)
                (try simp only [Act.put, List.setIfInBounds_toArray, List.set_cons_zero, List.set_cons_succ, List.getElem_toArray, List.getElem_cons_zero, List.getElem_cons_succ])
                first
                  | (refine wpAnyH_take (i := 4) rfl (by kernel_rfl) (by kernel_rfl) (by kernel_rfl) (fun _ _ _ h => h) (Or.inl ⟨by rfl, by intro w hSw; obtain ⟨g0, g1, g2, g3, g4, g5⟩ := HSC.out _ hSw; (go_simp <;> with_reducible rfl)⟩) (by assumption) ?_)
                  | (refine wpAnyH_take (i := 4) rfl (by kernel_rfl) (by kernel_rfl) (by kernel_rfl) (fun _ _ _ h => h) (Or.inr ⟨by rfl, rfl⟩) (by assumption) ?_)
                (try simp only [Act.put, List.setIfInBounds_toArray, List.set_cons_zero, List.set_cons_succ, List.getElem_toArray, List.getElem_cons_zero, List.getElem_cons_succ])
                first
                  | (refine wpAnyH_take (i := 5) rfl (by kernel_rfl) (by kernel_rfl) (by kernel_rfl) (fun _ _ _ h => h) (Or.inl ⟨by rfl, by intro w hSw; obtain ⟨g0, g1, g2, g3, g4, g5⟩ := HSC.out _ hSw; (go_simp <;> with_reducible rfl)⟩) (by assumption) ?_)
                  | (refine wpAnyH_take (i := 5) rfl (by kernel_rfl) (by kernel_rfl) (by kernel_rfl) (fun _ _ _ h => h) (Or.inr ⟨by rfl, rfl⟩) (by assumption) ?_)
                (try simp only [Act.put, List.setIfInBounds_toArray, List.set_cons_zero, List.set_cons_succ, List.getElem_toArray, List.getElem_cons_zero, List.getElem_cons_succ])
                first
                  | (refine wpAnyH_take (i := 6) rfl (by kernel_rfl) (by kernel_rfl) (by kernel_rfl) (fun _ _ _ h => h) (Or.inl ⟨by rfl, by intro w hSw; obtain ⟨g0, g1, g2, g3, g4, g5⟩ := HSC.out _ hSw; (go_simp <;> with_reducible rfl)⟩) (by assumption) ?_)
                  | (refine wpAnyH_take (i := 6) rfl (by kernel_rfl) (by kernel_rfl) (by kernel_rfl) (fun _ _ _ h => h) (Or.inr ⟨by rfl, rfl⟩) (by assumption) ?_)
                (try simp only [Act.put, List.setIfInBounds_toArray, List.set_cons_zero, List.set_cons_succ, List.getElem_toArray, List.getElem_cons_zero, List.getElem_cons_succ])
                first
                  | (refine wpAnyH_take (i := 7) rfl (by kernel_rfl) (by kernel_rfl) (by kernel_rfl) (fun _ _ _ h => h) (Or.inl ⟨by rfl, by intro w hSw; obtain ⟨g0, g1, g2, g3, g4, g5⟩ := HSC.out _ hSw; (go_simp <;> with_reducible rfl)⟩) (by assumption) ?_)
                  | (refine wpAnyH_take (i := 7) rfl (by kernel_rfl) (by kernel_rfl) (by kernel_rfl) (fun _ _ _ h => h) (Or.inr ⟨by rfl, rfl⟩) (by assumption) ?_)
                (try simp only [Act.put, List.setIfInBounds_toArray, List.set_cons_zero, List.set_cons_succ, List.getElem_toArray, List.getElem_cons_zero, List.getElem_cons_succ])
                first
                  | (refine wpAnyH_take (i := 8) rfl (by kernel_rfl) (by kernel_rfl) (by kernel_rfl) (fun _ _ _ h => h) (Or.inl ⟨by rfl, by intro w hSw; obtain ⟨g0, g1, g2, g3, g4, g5⟩ := HSC.out _ hSw; (go_simp <;> with_reducible rfl)⟩) (by assumption) ?_)
                  | (refine wpAnyH_take (i := 8) rfl (by kernel_rfl) (by kernel_rfl) (by kernel_rfl) (fun _ _ _ h => h) (Or.inr ⟨by rfl, rfl⟩) (by assumption) ?_)
                (try simp only [Act.put, List.setIfInBounds_toArray, List.set_cons_zero, List.set_cons_succ, List.getElem_toArray, List.getElem_cons_zero, List.getElem_cons_succ])
                first
                  | (refine wpAnyH_take (i := 9) rfl (by kernel_rfl) (by kernel_rfl) (by kernel_rfl) (fun _ _ _ h => h) (Or.inl ⟨by rfl, by intro w hSw; obtain ⟨g0, g1, g2, g3, g4, g5⟩ := HSC.out _ hSw; (go_simp <;> with_reducible rfl)⟩) (by assumption) ?_)
                  | (refine wpAnyH_take (i := 9) rfl (by kernel_rfl) (by kernel_rfl) (by kernel_rfl) (fun _ _ _ h => h) (Or.inr ⟨by rfl, rfl⟩) (by assumption) ?_)
                (try simp only [Act.put, List.setIfInBounds_toArray, List.set_cons_zero, List.set_cons_succ, List.getElem_toArray, List.getElem_cons_zero, List.getElem_cons_succ])
                first
                  | (refine wpAnyH_take (i := 10) rfl (by kernel_rfl) (by kernel_rfl) (by kernel_rfl) (fun _ _ _ h => h) (Or.inl ⟨by rfl, by intro w hSw; obtain ⟨g0, g1, g2, g3, g4, g5⟩ := HSC.out _ hSw; (go_simp <;> with_reducible rfl)⟩) (by assumption) ?_)
                  | (refine wpAnyH_take (i := 10) rfl (by kernel_rfl) (by kernel_rfl) (by kernel_rfl) (fun _ _ _ h => h) (Or.inr ⟨by rfl, rfl⟩) (by assumption) ?_)
                (try simp only [Act.put, List.setIfInBounds_toArray, List.set_cons_zero, List.set_cons_succ, List.getElem_toArray, List.getElem_cons_zero, List.getElem_cons_succ])
                first
                  | (refine wpAnyH_take (i := 11) rfl (by kernel_rfl) (by kernel_rfl) (by kernel_rfl) (fun _ _ _ h => h) (Or.inl ⟨by rfl, by intro w hSw; obtain ⟨g0, g1, g2, g3, g4, g5⟩ := HSC.out _ hSw; (go_simp <;> with_reducible rfl)⟩) (by assumption) ?_)
                  | (refine wpAnyH_take (i := 11) rfl (by kernel_rfl) (by kernel_rfl) (by kernel_rfl) (fun _ _ _ h => h) (Or.inr ⟨by rfl, rfl⟩) (by assumption) ?_)
                (try simp only [Act.put, List.setIfInBounds_toArray, List.set_cons_zero, List.set_cons_succ, List.getElem_toArray, List.getElem_cons_zero, List.getElem_cons_succ])
                first
                  | (refine wpAnyH_take (i := 12) rfl (by kernel_rfl) (by kernel_rfl) (by kernel_rfl) (fun _ _ _ h => h) (Or.inl ⟨by rfl, by intro w hSw; obtain ⟨g0, g1, g2, g3, g4, g5⟩ := HSC.out _ hSw; (go_simp <;> with_reducible rfl)⟩) (by assumption) ?_)
                  | (refine wpAnyH_take (i := 12) rfl (by kernel_rfl) (by kernel_rfl) (by kernel_rfl) (fun _ _ _ h => h) (Or.inr ⟨by rfl, rfl⟩) (by assumption) ?_)
                (try simp only [Act.put, List.setIfInBounds_toArray, List.set_cons_zero, List.set_cons_succ, List.getElem_toArray, List.getElem_cons_zero, List.getElem_cons_succ])
                first
                  | (refine wpAnyH_take (i := 13) rfl (by kernel_rfl) (by kernel_rfl) (by kernel_rfl) (fun _ _ _ h => h) (Or.inl ⟨by rfl, by intro w hSw; obtain ⟨g0, g1, g2, g3, g4, g5⟩ := HSC.out _ hSw; (go_simp <;> with_reducible rfl)⟩) (by assumption) ?_)
                  | (refine wpAnyH_take (i := 13) rfl (by kernel_rfl) (by kernel_rfl) (by kernel_rfl) (fun _ _ _ h => h) (Or.inr ⟨by rfl, rfl⟩) (by assumption) ?_)
                (try simp only [Act.put, List.setIfInBounds_toArray, List.set_cons_zero, List.set_cons_succ, List.getElem_toArray, List.getElem_cons_zero, List.getElem_cons_succ])
                first
                  | (refine wpAnyH_take (i := 14) rfl (by kernel_rfl) (by kernel_rfl) (by kernel_rfl) (fun _ _ _ h => h) (Or.inl ⟨by rfl, by intro w hSw; obtain ⟨g0, g1, g2, g3, g4, g5⟩ := HSC.out _ hSw; (go_simp <;> with_reducible rfl)⟩) (by assumption) ?_)
                  | (refine wpAnyH_take (i := 14) rfl (by kernel_rfl) (by kernel_rfl) (by kernel_rfl) (fun _ _ _ h => h) (Or.inr ⟨by rfl, rfl⟩) (by assumption) ?_)
                (try simp only [Act.put, List.setIfInBounds_toArray, List.set_cons_zero, List.set_cons_succ, List.getElem_toArray, List.getElem_cons_zero, List.getElem_cons_succ])
                first
                  | (refine wpAnyH_take (i := 15) rfl (by kernel_rfl) (by kernel_rfl) (by kernel_rfl) (fun _ _ _ h => h) (Or.inl ⟨by rfl, by intro w hSw; obtain ⟨g0, g1, g2, g3, g4, g5⟩ := HSC.out _ hSw; (go_simp <;> with_reducible rfl)⟩) (by assumption) ?_)
                  | (refine wpAnyH_take (i := 15) rfl (by kernel_rfl) (by kernel_rfl) (by kernel_rfl) (fun _ _ _ h => h) (Or.inr ⟨by rfl, rfl⟩) (by assumption) ?_)
                (try simp only [Act.put, List.setIfInBounds_toArray, List.set_cons_zero, List.set_cons_succ, List.getElem_toArray, List.getElem_cons_zero, List.getElem_cons_succ])
                first
                  | (refine wpAnyH_take (i := 16) rfl (by kernel_rfl) (by kernel_rfl) (by kernel_rfl) (fun _ _ _ h => h) (Or.inl ⟨by rfl, by intro w hSw; obtain ⟨g0, g1, g2, g3, g4, g5⟩ := HSC.out _ hSw; (go_simp <;> with_reducible rfl)⟩) (by assumption) ?_)
                  | (refine wpAnyH_take (i := 16) rfl (by kernel_rfl) (by kernel_rfl) (by kernel_rfl) (fun _ _ _ h => h) (Or.inr ⟨by rfl, rfl⟩) (by assumption) ?_)
                (try simp only [Act.put, List.setIfInBounds_toArray, List.set_cons_zero, List.set_cons_succ, List.getElem_toArray, List.getElem_cons_zero, List.getElem_cons_succ])
                first
                  | (refine wpAnyH_take (i := 17) rfl (by kernel_rfl) (by kernel_rfl) (by kernel_rfl) (fun _ _ _ h => h) (Or.inl ⟨by rfl, by intro w hSw; obtain ⟨g0, g1, g2, g3, g4, g5⟩ := HSC.out _ hSw; (go_simp <;> with_reducible rfl)⟩) (by assumption) ?_)
                  | (refine wpAnyH_take (i := 17) rfl (by kernel_rfl) (by kernel_rfl) (by kernel_rfl) (fun _ _ _ h => h) (Or.inr ⟨by rfl, rfl⟩) (by assumption) ?_)
                (try simp only [Act.put, List.setIfInBounds_toArray, List.set_cons_zero, List.set_cons_succ, List.getElem_toArray, List.getElem_cons_zero, List.getElem_cons_succ])
                first
                  | (refine wpAnyH_take (i := 18) rfl (by kernel_rfl) (by kernel_rfl) (by kernel_rfl) (fun _ _ _ h => h) (Or.inl ⟨by rfl, by intro w hSw; obtain ⟨g0, g1, g2, g3, g4, g5⟩ := HSC.out _ hSw; (go_simp <;> with_reducible rfl)⟩) (by assumption) ?_)
                  | (refine wpAnyH_take (i := 18) rfl (by kernel_rfl) (by kernel_rfl) (by kernel_rfl) (fun _ _ _ h => h) (Or.inr ⟨by rfl, rfl⟩) (by assumption) ?_)
                (try simp only [Act.put, List.setIfInBounds_toArray, List.set_cons_zero, List.set_cons_succ, List.getElem_toArray, List.getElem_cons_zero, List.getElem_cons_succ])
                first
                  | (refine wpAnyH_take (i := 19) rfl (by kernel_rfl) (by kernel_rfl) (by kernel_rfl) (fun _ _ _ h => h) (Or.inl ⟨by rfl, by intro w hSw; obtain ⟨g0, g1, g2, g3, g4, g5⟩ := HSC.out _ hSw; (go_simp <;> with_reducible rfl)⟩) (by assumption) ?_)
                  | (refine wpAnyH_take (i := 19) rfl (by kernel_rfl) (by kernel_rfl) (by kernel_rfl) (fun _ _ _ h => h) (Or.inr ⟨by rfl, rfl⟩) (by assumption) ?_)
                (try simp only [Act.put, List.setIfInBounds_toArray, List.set_cons_zero, List.set_cons_succ, List.getElem_toArray, List.getElem_cons_zero, List.getElem_cons_succ])
                first
                  | (refine wpAnyH_take (i := 20) rfl (by kernel_rfl) (by kernel_rfl) (by kernel_rfl) (fun _ _ _ h => h) (Or.inl ⟨by rfl, by intro w hSw; obtain ⟨g0, g1, g2, g3, g4, g5⟩ := HSC.out _ hSw; (go_simp <;> with_reducible rfl)⟩) (by assumption) ?_)
                  | (refine wpAnyH_take (i := 20) rfl (by kernel_rfl) (by kernel_rfl) (by kernel_rfl) (fun _ _ _ h => h) (Or.inr ⟨by rfl, rfl⟩) (by assumption) ?_)
                (try simp only [Act.put, List.setIfInBounds_toArray, List.set_cons_zero, List.set_cons_succ, List.getElem_toArray, List.getElem_cons_zero, List.getElem_cons_succ])
                refine wpAnyH_done (by kernel_rfl) ?_ _
                clear hHeld
                go_wp2
                go_roundw
                case rel => exact ⟨i + 1, by have := HLT.out; omega, by go_num, HSX.out.later (Below.refl _ _).drew⟩
                case measure => have := HLT.out; simp [intOf]; omega
            | false =>
              have hc1 : true = true → cnt L 1 i = 0 := fun _ => by rw [hc1]; rfl
              by_cases hg : 0 ≤ x.ring
              · have hz1 := hc1 rfl
                have hz2 := hc2 hg
                have HSC : Hid (∀ U, Below X.heap.size X U → U.cell? ⟨b6, 1, none⟩ = some (.slice (some ⟨m1, 0, none⟩) l.length l.length) ∧ U.cell? ⟨b6, 2, none⟩ = some (.slice (some ⟨m2, 0, none⟩) l.length l.length) ∧ U.cell? ⟨m1, i, none⟩ = some (.int .i64 0) ∧ U.cell? ⟨m2, i, none⟩ = some (.int .i64 1) ∧ U.cell? ⟨w4.heap.size, 2, none⟩ = some (.bool false) ∧ U.cell? ⟨wr.heap.size, 17, none⟩ = some (.int .i64 x.ring)) := Lib.hid (fun U hU => by
                  have hS := HSX.out.later hU
                  have g1 := cell_at19 hS.bx (i := 1) rfl
                  have g2 := cell_at19 hS.bx (i := 2) rfl
                  have a1 := cntL_at L 1 HLT.out
                  have a2 := cntL_at L 2 HLT.out
                  simp only [cntL_len] at g1 g2
                  rw [hz1] at a1
                  rw [hz2] at a2
                  refine ⟨g1, g2, ?_, ?_, (hU.cell (p := ⟨w4.heap.size, 2, none⟩) (World.block_lt_of_cell? X _ q2)).trans q2, ?_⟩
                  · simp [World.cell?, hS.r1, icell, a1]
                  · simp [World.cell?, hS.r2, icell, a2]
                  · exact (HXV4.out.later hU HXV4.out.lt).b_ring)
                clear hz1 hz2 q2
                go_wp2_with (rw [← HXW.out])
                refine wp_region_held_drew (S := fun U => Below X.heap.size X U) (by kernel_rfl) ((Below.refl _ _).drew) (fun hHeld => ?_)
                first
                  | (refine wpAnyH_take (i := 0) rfl (by kernel_rfl) (by kernel_rfl) (by kernel_rfl) (fun _ _ _ h => h) (Or.inl ⟨by rfl, by intro w hSw; obtain ⟨g0, g1, g2, g3, g4, g5⟩ := HSC.out _ hSw; (go_simp <;> with_reducible rfl)⟩) (by assumption) ?_)
                  | (refine wpAnyH_take (i := 0) rfl (by kernel_rfl) (by kernel_rfl) (by kernel_rfl) (fun _ _ _ h => h) (Or.inr ⟨by rfl, rfl⟩) (by assumption) ?_)
                (try simp only [Act.put, List.setIfInBounds_toArray, List.set_cons_zero, List.set_cons_succ, List.getElem_toArray, List.getElem_cons_zero, List.getElem_cons_succ])
                first
                  | (refine wpAnyH_take (i := 1) rfl (by kernel_rfl) (by kernel_rfl) (by kernel_rfl) (fun _ _ _ h => h) (Or.inl ⟨by rfl, by intro w hSw; obtain ⟨g0, g1, g2, g3, g4, g5⟩ := HSC.out _ hSw; (go_simp <;> with_reducible rfl)⟩) (by assumption) ?_)
                  | (refine wpAnyH_take (i := 1) rfl (by kernel_rfl) (by kernel_rfl) (by kernel_rfl) (fun _ _ _ h => h) (Or.inr ⟨by rfl, rfl⟩) (by assumption) ?_)
                (try simp only [Act.put, List.setIfInBounds_toArray, List.set_cons_zero, List.set_cons_succ, List.getElem_toArray, List.getElem_cons_zero, List.getElem_cons_succ])
                first
                  | (refine wpAnyH_take (i := 2) rfl (by kernel_rfl) (by kernel_rfl) (by kernel_rfl) (fun _ _ _ h => h) (Or.inl ⟨by rfl, by intro w hSw; obtain ⟨g0, g1, g2, g3, g4, g5⟩ := HSC.out _ hSw; (go_simp <;> with_reducible rfl)⟩) (by assumption) ?_)
                  | (refine wpAnyH_take (i := 2) rfl (by kernel_rfl) (by kernel_rfl) (by kernel_rfl) (fun _ _ _ h => h) (Or.inr ⟨by rfl, rfl⟩) (by assumption) ?_)
                (try simp only [Act.put, List.setIfInBounds_toArray, List.set_cons_zero, List.set_cons_succ, List.getElem_toArray, List.getElem_cons_zero, List.getElem_cons_succ])
                first
                  | (refine wpAnyH_take (i := 3) rfl (by kernel_rfl) (by kernel_rfl) (by kernel_rfl) (fun _ _ _ h => h) (Or.inl ⟨by rfl, by intro w hSw; obtain ⟨g0, g1, g2, g3, g4, g5⟩ := HSC.out _ hSw; (go_simp <;> with_reducible rfl)⟩) (by assumption) ?_)
                  | (refine wpAnyH_take (i := 3) rfl (by kernel_rfl) (by kernel_rfl) (by kernel_rfl) (fun _ _ _ h => h) (Or.inr ⟨by rfl, rfl⟩) (by assumption) ?_)
                (try simp only [Act.put, List.setIfInBounds_toArray, List.set_cons_zero, List.set_cons_succ, List.getElem_toArray, List.getElem_cons_zero, List.getElem_cons_succ])
                first
                  | (refine wpAnyH_take (i := 4) rfl (by kernel_rfl) (by kernel_rfl) (by kernel_rfl) (fun _ _ _ h => h) (Or.inl ⟨by rfl, by intro w hSw; obtain ⟨g0, g1, g2, g3, g4, g5⟩ := HSC.out _ hSw; (go_simp <;> with_reducible rfl)⟩) (by assumption) ?_)
                  | (refine wpAnyH_take (i := 4) rfl (by kernel_rfl) (by kernel_rfl) (by kernel_rfl) (fun _ _ _ h => h) (Or.inr ⟨by rfl, rfl⟩) (by assumption) ?_)
                (try simp only [Act.put, List.setIfInBounds_toArray, List.set_cons_zero, List.set_cons_succ, List.getElem_toArray, List.getElem_cons_zero, List.getElem_cons_succ])
                first
                  | (refine wpAnyH_take (i := 5) rfl (by kernel_rfl) (by kernel_rfl) (by kernel_rfl) (fun _ _ _ h => h) (Or.inl ⟨by rfl, by intro w hSw; obtain ⟨g0, g1, g2, g3, g4, g5⟩ := HSC.out _ hSw; (go_simp <;> with_reducible rfl)⟩) (by assumption) ?_)
                  | (refine wpAnyH_take (i := 5) rfl (by kernel_rfl) (by kernel_rfl) (by kernel_rfl) (fun _ _ _ h => h) (Or.inr ⟨by rfl, rfl⟩) (by assumption) ?_)
                (try simp only [Act.put, List.setIfInBounds_toArray, List.set_cons_zero, List.set_cons_succ, List.getElem_toArray, List.getElem_cons_zero, List.getElem_cons_succ])
                first
                  | (refine wpAnyH_take (i := 6) rfl (by kernel_rfl) (by kernel_rfl) (by kernel_rfl) (fun _ _ _ h => h) (Or.inl ⟨by rfl, by intro w hSw; obtain ⟨g0, g1, g2, g3, g4, g5⟩ := HSC.out _ hSw; (go_simp <;> with_reducible rfl)⟩) (by assumption) ?_)
                  | (refine wpAnyH_take (i := 6) rfl (by kernel_rfl) (by kernel_rfl) (by kernel_rfl) (fun _ _ _ h => h) (Or.inr ⟨by rfl, rfl⟩) (by assumption) ?_)
                (try simp only [Act.put, List.setIfInBounds_toArray, List.set_cons_zero, List.set_cons_succ, List.getElem_toArray, List.getElem_cons_zero, List.getElem_cons_succ])
                first
                  | (refine wpAnyH_take (i := 7) rfl (by kernel_rfl) (by kernel_rfl) (by kernel_rfl) (fun _ _ _ h => h) (Or.inl ⟨by rfl, by intro w hSw; obtain ⟨g0, g1, g2, g3, g4, g5⟩ := HSC.out _ hSw; (go_simp <;> with_reducible rfl)⟩) (by assumption) ?_)
                  | (refine wpAnyH_take (i := 7) rfl (by kernel_rfl) (by kernel_rfl) (by kernel_rfl) (fun _ _ _ h => h) (Or.inr ⟨by rfl, rfl⟩) (by assumption) ?_)
                (try simp only [Act.put, List.setIfInBounds_toArray, List.set_cons_zero, List.set_cons_succ, List.getElem_toArray, List.getElem_cons_zero, List.getElem_cons_succ])
                first
                  | (refine wpAnyH_take (i := 8) rfl (by kernel_rfl) (by kernel_rfl) (by kernel_rfl) (fun _ _ _ h => h) (Or.inl ⟨by rfl, by intro w hSw; obtain ⟨g0, g1, g2, g3, g4, g5⟩ := HSC.out _ hSw; (go_simp <;> with_reducible rfl)⟩) (by assumption) ?_)
                  | (refine wpAnyH_take (i := 8) rfl (by kernel_rfl) (by kernel_rfl) (by kernel_rfl) (fun _ _ _ h => h) (Or.inr ⟨by rfl, rfl⟩) (by assumption) ?_)
                (try simp only [Act.put, List.setIfInBounds_toArray, List.set_cons_zero, List.set_cons_succ, List.getElem_toArray, List.getElem_cons_zero, List.getElem_cons_succ])
                first
                  | (refine wpAnyH_take (i := 9) rfl (by kernel_rfl) (by kernel_rfl) (by kernel_rfl) (fun _ _ _ h => h) (Or.inl ⟨by rfl, by intro w hSw; obtain ⟨g0, g1, g2, g3, g4, g5⟩ := HSC.out _ hSw; (go_simp <;> with_reducible rfl)⟩) (by assumption) ?_)
                  | (refine wpAnyH_take (i := 9) rfl (by kernel_rfl) (by kernel_rfl) (by kernel_rfl) (fun _ _ _ h => h) (Or.inr ⟨by rfl, rfl⟩) (by assumption) ?_)
                (try simp only [Act.put, List.setIfInBounds_toArray, List.set_cons_zero, List.set_cons_succ, List.getElem_toArray, List.getElem_cons_zero, List.getElem_cons_succ])
                first
                  | (refine wpAnyH_take (i := 10) rfl (by kernel_rfl) (by kernel_rfl) (by kernel_rfl) (fun _ _ _ h => h) (Or.inl ⟨by rfl, by intro w hSw; obtain ⟨g0, g1, g2, g3, g4, g5⟩ := HSC.out _ hSw; (go_simp <;> with_reducible rfl)⟩) (by assumption) ?_)
                  | (refine wpAnyH_take (i := 10) rfl (by kernel_rfl) (by kernel_rfl) (by kernel_rfl) (fun _ _ _ h => h) (Or.inr ⟨by rfl, rfl⟩) (by assumption) ?_)
                (try simp only [Act.put, List.setIfInBounds_toArray, List.set_cons_zero, List.set_cons_succ, List.getElem_toArray, List.getElem_cons_zero, List.getElem_cons_succ])
                first
                  | (refine wpAnyH_take (i := 11) rfl (by kernel_rfl) (by kernel_rfl) (by kernel_rfl) (fun _ _ _ h => h) (Or.inl ⟨by rfl, by intro w hSw; obtain ⟨g0, g1, g2, g3, g4, g5⟩ := HSC.out _ hSw; (go_simp <;> with_reducible rfl)⟩) (by assumption) ?_)
                  | (refine wpAnyH_take (i := 11) rfl (by kernel_rfl) (by kernel_rfl) (by kernel_rfl) (fun _ _ _ h => h) (Or.inr ⟨by rfl, rfl⟩) (by assumption) ?_)
                (try simp only [Act.put, List.setIfInBounds_toArray, List.set_cons_zero, List.set_cons_succ, List.getElem_toArray, List.getElem_cons_zero, List.getElem_cons_succ])
                first
                  | (refine wpAnyH_take (i := 12) rfl (by kernel_rfl) (by kernel_rfl) (by kernel_rfl) (fun _ _ _ h => h) (Or.inl ⟨by rfl, by intro w hSw; obtain ⟨g0, g1, g2, g3, g4, g5⟩ := HSC.out _ hSw; (go_simp <;> with_reducible rfl)⟩) (by assumption) ?_)
                  | (refine wpAnyH_take (i := 12) rfl (by kernel_rfl) (by kernel_rfl) (by kernel_rfl) (fun _ _ _ h => h) (Or.inr ⟨by rfl, rfl⟩) (by assumption) ?_)
                (try simp only [Act.put, List.setIfInBounds_toArray, List.set_cons_zero, List.set_cons_succ, List.getElem_toArray, List.getElem_cons_zero, List.getElem_cons_succ])
                first
                  | (refine wpAnyH_take (i := 13) rfl (by kernel_rfl) (by kernel_rfl) (by kernel_rfl) (fun _ _ _ h => h) (Or.inl ⟨by rfl, by intro w hSw; obtain ⟨g0, g1, g2, g3, g4, g5⟩ := HSC.out _ hSw; (go_simp <;> with_reducible rfl)⟩) (by assumption) ?_)
                  | (refine wpAnyH_take (i := 13) rfl (by kernel_rfl) (by kernel_rfl) (by kernel_rfl) (fun _ _ _ h => h) (Or.inr ⟨by rfl, rfl⟩) (by assumption) ?_)
                (try simp only [Act.put, List.setIfInBounds_toArray, List.set_cons_zero, List.set_cons_succ, List.getElem_toArray, List.getElem_cons_zero, List.getElem_cons_succ])
                first
                  | (refine wpAnyH_take (i := 14) rfl (by kernel_rfl) (by kernel_rfl) (by kernel_rfl) (fun _ _ _ h => h) (Or.inl ⟨by rfl, by intro w hSw; obtain ⟨g0, g1, g2, g3, g4, g5⟩ := HSC.out _ hSw; (go_simp <;> with_reducible rfl)⟩) (by assumption) ?_)
                  | (refine wpAnyH_take (i := 14) rfl (by kernel_rfl) (by kernel_rfl) (by kernel_rfl) (fun _ _ _ h => h) (Or.inr ⟨by rfl, rfl⟩) (by assumption) ?_)
                (try simp only [Act.put, List.setIfInBounds_toArray, List.set_cons_zero, List.set_cons_succ, List.getElem_toArray, List.getElem_cons_zero, List.getElem_cons_succ])
                first
                  | (refine wpAnyH_take (i := 15) rfl (by kernel_rfl) (by kernel_rfl) (by kernel_rfl) (fun _ _ _ h => h) (Or.inl ⟨by rfl, by intro w hSw; obtain ⟨g0, g1, g2, g3, g4, g5⟩ := HSC.out _ hSw; (go_simp <;> with_reducible rfl)⟩) (by assumption) ?_)
                  | (refine wpAnyH_take (i := 15) rfl (by kernel_rfl) (by kernel_rfl) (by kernel_rfl) (fun _ _ _ h => h) (Or.inr ⟨by rfl, rfl⟩) (by assumption) ?_)
                (try simp only [Act.put, List.setIfInBounds_toArray, List.set_cons_zero, List.set_cons_succ, List.getElem_toArray, List.getElem_cons_zero, List.getElem_cons_succ])
                first
                  | (refine wpAnyH_take (i := 16) rfl (by kernel_rfl) (by kernel_rfl) (by kernel_rfl) (fun _ _ _ h => h) (Or.inl ⟨by rfl, by intro w hSw; obtain ⟨g0, g1, g2, g3, g4, g5⟩ := HSC.out _ hSw; (go_simp <;> with_reducible rfl)⟩) (by assumption) ?_)
                  | (refine wpAnyH_take (i := 16) rfl (by kernel_rfl) (by kernel_rfl) (by kernel_rfl) (fun _ _ _ h => h) (Or.inr ⟨by rfl, rfl⟩) (by assumption) ?_)
                (try simp only [Act.put, List.setIfInBounds_toArray, List.set_cons_zero, List.set_cons_succ, List.getElem_toArray, List.getElem_cons_zero, List.getElem_cons_succ])
                first
                  | (refine wpAnyH_take (i := 17) rfl (by kernel_rfl) (by kernel_rfl) (by kernel_rfl) (fun _ _ _ h => h) (Or.inl ⟨by rfl, by intro w hSw; obtain ⟨g0, g1, g2, g3, g4, g5⟩ := HSC.out _ hSw; (go_simp <;> with_reducible rfl)⟩) (by assumption) ?_)
                  | (refine wpAnyH_take (i := 17) rfl (by kernel_rfl) (by kernel_rfl) (by kernel_rfl) (fun _ _ _ h => h) (Or.inr ⟨by rfl, rfl⟩) (by assumption) ?_)
                (try simp only [Act.put, List.setIfInBounds_toArray, List.set_cons_zero, List.set_cons_succ, List.getElem_toArray, List.getElem_cons_zero, List.getElem_cons_succ])
                first
                  | (refine wpAnyH_take (i := 18) rfl (by kernel_rfl) (by kernel_rfl) (by kernel_rfl) (fun _ _ _ h => h) (Or.inl ⟨by rfl, by intro w hSw; obtain ⟨g0, g1, g2, g3, g4, g5⟩ := HSC.out _ hSw; (go_simp <;> with_reducible rfl)⟩) (by assumption) ?_)
                  | (refine wpAnyH_take (i := 18) rfl (by kernel_rfl) (by kernel_rfl) (by kernel_rfl) (fun _ _ _ h => h) (Or.inr ⟨by rfl, rfl⟩) (by assumption) ?_)
                (try simp only [Act.put, List.setIfInBounds_toArray, List.set_cons_zero, List.set_cons_succ, List.getElem_toArray, List.getElem_cons_zero, List.getElem_cons_succ])
                first
                  | (refine wpAnyH_take (i := 19) rfl (by kernel_rfl) (by kernel_rfl) (by kernel_rfl) (fun _ _ _ h => h) (Or.inl ⟨by rfl, by intro w hSw; obtain ⟨g0, g1, g2, g3, g4, g5⟩ := HSC.out _ hSw; (go_simp <;> with_reducible rfl)⟩) (by assumption) ?_)
                  | (refine wpAnyH_take (i := 19) rfl (by kernel_rfl) (by kernel_rfl) (by kernel_rfl) (fun _ _ _ h => h) (Or.inr ⟨by rfl, rfl⟩) (by assumption) ?_)
                (try simp only [Act.put, List.setIfInBounds_toArray, List.set_cons_zero, List.set_cons_succ, List.getElem_toArray, List.getElem_cons_zero, List.getElem_cons_succ])
                first
                  | (refine wpAnyH_take (i := 20) rfl (by kernel_rfl) (by kernel_rfl) (by kernel_rfl) (fun _ _ _ h => h) (Or.inl ⟨by rfl, by intro w hSw; obtain ⟨g0, g1, g2, g3, g4, g5⟩ := HSC.out _ hSw; (go_simp <;> with_reducible rfl)⟩) (by assumption) ?_)
                  | (refine wpAnyH_take (i := 20) rfl (by kernel_rfl) (by kernel_rfl) (by kernel_rfl) (fun _ _ _ h => h) (Or.inr ⟨by rfl, rfl⟩) (by assumption) ?_)
                (try simp only [Act.put, List.setIfInBounds_toArray, List.set_cons_zero, List.set_cons_succ, List.getElem_toArray, List.getElem_cons_zero, List.getElem_cons_succ])
                refine wpAnyH_done (by kernel_rfl) ?_ _
                clear hHeld
                go_wp2
                go_roundw
                case rel => exact ⟨i + 1, by have := HLT.out; omega, by go_num, HSX.out.later (Below.refl _ _).drew⟩
                case measure => have := HLT.out; simp [intOf]; omega
              · have hc2 := hc2n
                have hgd : decide (0 ≤ x.ring) = false := decide_eq_false hg
                have hz1 := hc1 rfl
                have hz2 := hc2 hg
                have HSC : Hid (∀ U, Below X.heap.size X U → U.cell? ⟨b6, 1, none⟩ = some (.slice (some ⟨m1, 0, none⟩) l.length l.length) ∧ U.cell? ⟨b6, 2, none⟩ = some (.slice (some ⟨m2, 0, none⟩) l.length l.length) ∧ U.cell? ⟨m1, i, none⟩ = some (.int .i64 0) ∧ U.cell? ⟨m2, i, none⟩ = some (.int .i64 0) ∧ U.cell? ⟨w4.heap.size, 2, none⟩ = some (.bool false) ∧ U.cell? ⟨wr.heap.size, 17, none⟩ = some (.int .i64 x.ring)) := Lib.hid (fun U hU => by
                  have hS := HSX.out.later hU
                  have g1 := cell_at19 hS.bx (i := 1) rfl
                  have g2 := cell_at19 hS.bx (i := 2) rfl
                  have a1 := cntL_at L 1 HLT.out
                  have a2 := cntL_at L 2 HLT.out
                  simp only [cntL_len] at g1 g2
                  rw [hz1] at a1
                  rw [hz2] at a2
                  refine ⟨g1, g2, ?_, ?_, (hU.cell (p := ⟨w4.heap.size, 2, none⟩) (World.block_lt_of_cell? X _ q2)).trans q2, ?_⟩
                  · simp [World.cell?, hS.r1, icell, a1]
                  · simp [World.cell?, hS.r2, icell, a2]
                  · exact (HXV4.out.later hU HXV4.out.lt).b_ring)
                clear hz1 hz2 q2
                go_wp2_with (rw [← HXW.out])
                refine wp_region_held_drew (S := fun U => Below X.heap.size X U) (by kernel_rfl) ((Below.refl _ _).drew) (fun hHeld => ?_)
                first
                  | (refine wpAnyH_take (i := 0) rfl (by kernel_rfl) (by kernel_rfl) (by kernel_rfl) (fun _ _ _ h => h) (Or.inl ⟨by rfl, by intro w hSw; obtain ⟨g0, g1, g2, g3, g4, g5⟩ := HSC.out _ hSw; (go_simp <;> with_reducible rfl)⟩) (by assumption) ?_)
                  | (refine wpAnyH_take (i := 0) rfl (by kernel_rfl) (by kernel_rfl) (by kernel_rfl) (fun _ _ _ h => h) (Or.inr ⟨by rfl, rfl⟩) (by assumption) ?_)
                (try simp only [Act.put, List.setIfInBounds_toArray, List.set_cons_zero, List.set_cons_succ, List.getElem_toArray, List.getElem_cons_zero, List.getElem_cons_succ])
                first
                  | (refine wpAnyH_take (i := 1) rfl (by kernel_rfl) (by kernel_rfl) (by kernel_rfl) (fun _ _ _ h => h) (Or.inl ⟨by rfl, by intro w hSw; obtain ⟨g0, g1, g2, g3, g4, g5⟩ := HSC.out _ hSw; (go_simp <;> with_reducible rfl)⟩) (by assumption) ?_)
                  | (refine wpAnyH_take (i := 1) rfl (by kernel_rfl) (by kernel_rfl) (by kernel_rfl) (fun _ _ _ h => h) (Or.inr ⟨by rfl, rfl⟩) (by assumption) ?_)
                (try simp only [Act.put, List.setIfInBounds_toArray, List.set_cons_zero, List.set_cons_succ, List.getElem_toArray, List.getElem_cons_zero, List.getElem_cons_succ])
                first
                  | (refine wpAnyH_take (i := 2) rfl (by kernel_rfl) (by kernel_rfl) (by kernel_rfl) (fun _ _ _ h => h) (Or.inl ⟨by rfl, by intro w hSw; obtain ⟨g0, g1, g2, g3, g4, g5⟩ := HSC.out _ hSw; (go_simp <;> with_reducible rfl)⟩) (by assumption) ?_)
                  | (refine wpAnyH_take (i := 2) rfl (by kernel_rfl) (by kernel_rfl) (by kernel_rfl) (fun _ _ _ h => h) (Or.inr ⟨by rfl, rfl⟩) (by assumption) ?_)
                (try simp only [Act.put, List.setIfInBounds_toArray, List.set_cons_zero, List.set_cons_succ, List.getElem_toArray, List.getElem_cons_zero, List.getElem_cons_succ])
                first
                  | (refine wpAnyH_take (i := 3) rfl (by kernel_rfl) (by kernel_rfl) (by kernel_rfl) (fun _ _ _ h => h) (Or.inl ⟨by rfl, by intro w hSw; obtain ⟨g0, g1, g2, g3, g4, g5⟩ := HSC.out _ hSw; (go_simp <;> with_reducible rfl)⟩) (by assumption) ?_)
                  | (refine wpAnyH_take (i := 3) rfl (by kernel_rfl) (by kernel_rfl) (by kernel_rfl) (fun _ _ _ h => h) (Or.inr ⟨by rfl, rfl⟩) (by assumption) ?_)
                (try simp only [Act.put, List.setIfInBounds_toArray, List.set_cons_zero, List.set_cons_succ, List.getElem_toArray, List.getElem_cons_zero, List.getElem_cons_succ])
                first
                  | (refine wpAnyH_take (i := 4) rfl (by kernel_rfl) (by kernel_rfl) (by kernel_rfl) (fun _ _ _ h => h) (Or.inl ⟨by rfl, by intro w hSw; obtain ⟨g0, g1, g2, g3, g4, g5⟩ := HSC.out _ hSw; (go_simp <;> with_reducible rfl)⟩) (by assumption) ?_)
                  | (refine wpAnyH_take (i := 4) rfl (by kernel_rfl) (by kernel_rfl) (by kernel_rfl) (fun _ _ _ h => h) (Or.inr ⟨by rfl, rfl⟩) (by assumption) ?_)
                (try simp only [Act.put, List.setIfInBounds_toArray, List.set_cons_zero, List.set_cons_succ, List.getElem_toArray, List.getElem_cons_zero, List.getElem_cons_succ])
                first
                  | (refine wpAnyH_take (i := 5) rfl (by kernel_rfl) (by kernel_rfl) (by kernel_rfl) (fun _ _ _ h => h) (Or.inl ⟨by rfl, by intro w hSw; obtain ⟨g0, g1, g2, g3, g4, g5⟩ := HSC.out _ hSw; (go_simp <;> with_reducible rfl)⟩) (by assumption) ?_)
                  | (refine wpAnyH_take (i := 5) rfl (by kernel_rfl) (by kernel_rfl) (by kernel_rfl) (fun _ _ _ h => h) (Or.inr ⟨by rfl, rfl⟩) (by assumption) ?_)
                (try simp only [Act.put, List.setIfInBounds_toArray, List.set_cons_zero, List.set_cons_succ, List.getElem_toArray, List.getElem_cons_zero, List.getElem_cons_succ])
                first
                  | (refine wpAnyH_take (i := 6) rfl (by kernel_rfl) (by kernel_rfl) (by kernel_rfl) (fun _ _ _ h => h) (Or.inl ⟨by rfl, by intro w hSw; obtain ⟨g0, g1, g2, g3, g4, g5⟩ := HSC.out _ hSw; (go_simp <;> with_reducible rfl)⟩) (by assumption) ?_)
                  | (refine wpAnyH_take (i := 6) rfl (by kernel_rfl) (by kernel_rfl) (by kernel_rfl) (fun _ _ _ h => h) (Or.inr ⟨by rfl, rfl⟩) (by assumption) ?_)
                (try simp only [Act.put, List.setIfInBounds_toArray, List.set_cons_zero, List.set_cons_succ, List.getElem_toArray, List.getElem_cons_zero, List.getElem_cons_succ])
                first
                  | (refine wpAnyH_take (i := 7) rfl (by kernel_rfl) (by kernel_rfl) (by kernel_rfl) (fun _ _ _ h => h) (Or.inl ⟨by rfl, by intro w hSw; obtain ⟨g0, g1, g2, g3, g4, g5⟩ := HSC.out _ hSw; (go_simp <;> with_reducible rfl)⟩) (by assumption) ?_)
                  | (refine wpAnyH_take (i := 7) rfl (by kernel_rfl) (by kernel_rfl) (by kernel_rfl) (fun _ _ _ h => h) (Or.inr ⟨by rfl, rfl⟩) (by assumption) ?_)
                (try simp only [Act.put, List.setIfInBounds_toArray, List.set_cons_zero, List.set_cons_succ, List.getElem_toArray, List.getElem_cons_zero, List.getElem_cons_succ])
                first
                  | (refine wpAnyH_take (i := 8) rfl (by kernel_rfl) (by kernel_rfl) (by kernel_rfl) (fun _ _ _ h => h) (Or.inl ⟨by rfl, by intro w hSw; obtain ⟨g0, g1, g2, g3, g4, g5⟩ := HSC.out _ hSw; (go_simp <;> with_reducible rfl)⟩) (by assumption) ?_)
                  | (refine wpAnyH_take (i := 8) rfl (by kernel_rfl) (by kernel_rfl) (by kernel_rfl) (fun _ _ _ h => h) (Or.inr ⟨by rfl, rfl⟩) (by assumption) ?_)
                (try simp only [Act.put, List.setIfInBounds_toArray, List.set_cons_zero, List.set_cons_succ, List.getElem_toArray, List.getElem_cons_zero, List.getElem_cons_succ])
                first
                  | (refine wpAnyH_take (i := 9) rfl (by kernel_rfl) (by kernel_rfl) (by kernel_rfl) (fun _ _ _ h => h) (Or.inl ⟨by rfl, by intro w hSw; obtain ⟨g0, g1, g2, g3, g4, g5⟩ := HSC.out _ hSw; (go_simp <;> with_reducible rfl)⟩) (by assumption) ?_)
                  | (refine wpAnyH_take (i := 9) rfl (by kernel_rfl) (by kernel_rfl) (by kernel_rfl) (fun _ _ _ h => h) (Or.inr ⟨by rfl, rfl⟩) (by assumption) ?_)
                (try simp only [Act.put, List.setIfInBounds_toArray, List.set_cons_zero, List.set_cons_succ, List.getElem_toArray, List.getElem_cons_zero, List.getElem_cons_succ])
                first
                  | (refine wpAnyH_take (i := 10) rfl (by kernel_rfl) (by kernel_rfl) (by kernel_rfl) (fun _ _ _ h => h) (Or.inl ⟨by rfl, by intro w hSw; obtain ⟨g0, g1, g2, g3, g4, g5⟩ := HSC.out _ hSw; (go_simp <;> with_reducible rfl)⟩) (by assumption) ?_)
                  | (refine wpAnyH_take (i := 10) rfl (by kernel_rfl) (by kernel_rfl) (by kernel_rfl) (fun _ _ _ h => h) (Or.inr ⟨by rfl, rfl⟩) (by assumption) ?_)
                (try simp only [Act.put, List.setIfInBounds_toArray, List.set_cons_zero, List.set_cons_succ, List.getElem_toArray, List.getElem_cons_zero, List.getElem_cons_succ])
                first
                  | (refine wpAnyH_take (i := 11) rfl (by kernel_rfl) (by kernel_rfl) (by kernel_rfl) (fun _ _ _ h => h) (Or.inl ⟨by rfl, by intro w hSw; obtain ⟨g0, g1, g2, g3, g4, g5⟩ := HSC.out _ hSw; (go_simp <;> with_reducible rfl)⟩) (by assumption) ?_)
                  | (refine wpAnyH_take (i := 11) rfl (by kernel_rfl) (by kernel_rfl) (by kernel_rfl) (fun _ _ _ h => h) (Or.inr ⟨by rfl, rfl⟩) (by assumption) ?_)
                (try simp only [Act.put, List.setIfInBounds_toArray, List.set_cons_zero, List.set_cons_succ, List.getElem_toArray, List.getElem_cons_zero, List.getElem_cons_succ])
                first
                  | (refine wpAnyH_take (i := 12) rfl (by kernel_rfl) (by kernel_rfl) (by kernel_rfl) (fun _ _ _ h => h) (Or.inl ⟨by rfl, by intro w hSw; obtain ⟨g0, g1, g2, g3, g4, g5⟩ := HSC.out _ hSw; (go_simp <;> with_reducible rfl)⟩) (by assumption) ?_)
                  | (refine wpAnyH_take (i := 12) rfl (by kernel_rfl) (by kernel_rfl) (by kernel_rfl) (fun _ _ _ h => h) (Or.inr ⟨by rfl, rfl⟩) (by assumption) ?_)
                (try simp only [Act.put, List.setIfInBounds_toArray, List.set_cons_zero, List.set_cons_succ, List.getElem_toArray, List.getElem_cons_zero, List.getElem_cons_succ])
                first
                  | (refine wpAnyH_take (i := 13) rfl (by kernel_rfl) (by kernel_rfl) (by kernel_rfl) (fun _ _ _ h => h) (Or.inl ⟨by rfl, by intro w hSw; obtain ⟨g0, g1, g2, g3, g4, g5⟩ := HSC.out _ hSw; (go_simp <;> with_reducible rfl)⟩) (by assumption) ?_)
                  | (refine wpAnyH_take (i := 13) rfl (by kernel_rfl) (by kernel_rfl) (by kernel_rfl) (fun _ _ _ h => h) (Or.inr ⟨by rfl, rfl⟩) (by assumption) ?_)
                (try simp only [Act.put, List.setIfInBounds_toArray, List.set_cons_zero, List.set_cons_succ, List.getElem_toArray, List.getElem_cons_zero, List.getElem_cons_succ])
                first
                  | (refine wpAnyH_take (i := 14) rfl (by kernel_rfl) (by kernel_rfl) (by kernel_rfl) (fun _ _ _ h => h) (Or.inl ⟨by rfl, by intro w hSw; obtain ⟨g0, g1, g2, g3, g4, g5⟩ := HSC.out _ hSw; (go_simp <;> with_reducible rfl)⟩) (by assumption) ?_)
                  | (refine wpAnyH_take (i := 14) rfl (by kernel_rfl) (by kernel_rfl) (by kernel_rfl) (fun _ _ _ h => h) (Or.inr ⟨by rfl, rfl⟩) (by assumption) ?_)
                (try simp only [Act.put, List.setIfInBounds_toArray, List.set_cons_zero, List.set_cons_succ, List.getElem_toArray, List.getElem_cons_zero, List.getElem_cons_succ])
                first
                  | (refine wpAnyH_take (i := 15) rfl (by kernel_rfl) (by kernel_rfl) (by kernel_rfl) (fun _ _ _ h => h) (Or.inl ⟨by rfl, by intro w hSw; obtain ⟨g0, g1, g2, g3, g4, g5⟩ := HSC.out _ hSw; (go_simp <;> with_reducible rfl)⟩) (by assumption) ?_)
                  | (refine wpAnyH_take (i := 15) rfl (by kernel_rfl) (by kernel_rfl) (by kernel_rfl) (fun _ _ _ h => h) (Or.inr ⟨by rfl, rfl⟩) (by assumption) ?_)
                (try simp only [Act.put, List.setIfInBounds_toArray, List.set_cons_zero, List.set_cons_succ, List.getElem_toArray, List.getElem_cons_zero, List.getElem_cons_succ])
                first
                  | (refine wpAnyH_take (i := 16) rfl (by kernel_rfl) (by kernel_rfl) (by kernel_rfl) (fun _ _ _ h => h) (Or.inl ⟨by rfl, by intro w hSw; obtain ⟨g0, g1, g2, g3, g4, g5⟩ := HSC.out _ hSw; (go_simp <;> with_reducible rfl)⟩) (by assumption) ?_)
                  | (refine wpAnyH_take (i := 16) rfl (by kernel_rfl) (by kernel_rfl) (by kernel_rfl) (fun _ _ _ h => h) (Or.inr ⟨by rfl, rfl⟩) (by assumption) ?_)
                (try simp only [Act.put, List.setIfInBounds_toArray, List.set_cons_zero, List.set_cons_succ, List.getElem_toArray, List.getElem_cons_zero, List.getElem_cons_succ])
                first
                  | (refine wpAnyH_take (i := 17) rfl (by kernel_rfl) (by kernel_rfl) (by kernel_rfl) (fun _ _ _ h => h) (Or.inl ⟨by rfl, by intro w hSw; obtain ⟨g0, g1, g2, g3, g4, g5⟩ := HSC.out _ hSw; (go_simp <;> with_reducible rfl)⟩) (by assumption) ?_)
                  | (refine wpAnyH_take (i := 17) rfl (by kernel_rfl) (by kernel_rfl) (by kernel_rfl) (fun _ _ _ h => h) (Or.inr ⟨by rfl, rfl⟩) (by assumption) ?_)
                (try simp only [Act.put, List.setIfInBounds_toArray, List.set_cons_zero, List.set_cons_succ, List.getElem_toArray, List.getElem_cons_zero, List.getElem_cons_succ])
                first
                  | (refine wpAnyH_take (i := 18) rfl (by kernel_rfl) (by kernel_rfl) (by kernel_rfl) (fun _ _ _ h => h) (Or.inl ⟨by rfl, by intro w hSw; obtain ⟨g0, g1, g2, g3, g4, g5⟩ := HSC.out _ hSw; (go_simp <;> with_reducible rfl)⟩) (by assumption) ?_)
                  | (refine wpAnyH_take (i := 18) rfl (by kernel_rfl) (by kernel_rfl) (by kernel_rfl) (fun _ _ _ h => h) (Or.inr ⟨by rfl, rfl⟩) (by assumption) ?_)
                (try simp only [Act.put, List.setIfInBounds_toArray, List.set_cons_zero, List.set_cons_succ, List.getElem_toArray, List.getElem_cons_zero, List.getElem_cons_succ])
                first
                  | (refine wpAnyH_take (i := 19) rfl (by kernel_rfl) (by kernel_rfl) (by kernel_rfl) (fun _ _ _ h => h) (Or.inl ⟨by rfl, by intro w hSw; obtain ⟨g0, g1, g2, g3, g4, g5⟩ := HSC.out _ hSw; (go_simp <;> with_reducible rfl)⟩) (by assumption) ?_)
                  | (refine wpAnyH_take (i := 19) rfl (by kernel_rfl) (by kernel_rfl) (by kernel_rfl) (fun _ _ _ h => h) (Or.inr ⟨by rfl, rfl⟩) (by assumption) ?_)
                (try simp only [Act.put, List.setIfInBounds_toArray, List.set_cons_zero, List.set_cons_succ, List.getElem_toArray, List.getElem_cons_zero, List.getElem_cons_succ])
                first
                  | (refine wpAnyH_take (i := 20) rfl (by kernel_rfl) (by kernel_rfl) (by kernel_rfl) (fun _ _ _ h => h) (Or.inl ⟨by rfl, by intro w hSw; obtain ⟨g0, g1, g2, g3, g4, g5⟩ := HSC.out _ hSw; (go_simp <;> with_reducible rfl)⟩) (by assumption) ?_)
                  | (refine wpAnyH_take (i := 20) rfl (by kernel_rfl) (by kernel_rfl) (by kernel_rfl) (fun _ _ _ h => h) (Or.inr ⟨by rfl, rfl⟩) (by assumption) ?_)
                (try simp only [Act.put, List.setIfInBounds_toArray, List.set_cons_zero, List.set_cons_succ, List.getElem_toArray, List.getElem_cons_zero, List.getElem_cons_succ])
                refine wpAnyH_done (by kernel_rfl) ?_ _
                clear hHeld
                go_wp2
                go_roundw
                case rel => exact ⟨i + 1, by have := HLT.out; omega, by go_num, HSX.out.later (Below.refl _ _).drew⟩
                case measure => have := HLT.out; simp [intOf]; omega
          · have h3c := cell_at19 HSW.out.bx (i := 3) rfl
            simp only [cntL_len] at h3c
            have HSN := HSW
            clear HSW HBR hi
            go_wp2
            go_loopw [128] (fun ix wr => ∃ i : Nat, i ≤ b.length ∧ ix = .int .i64 i ∧ Seen w3 wr b6 m1 m2 m3 (cntL L 1 l.length) (cntL L 2 l.length) (cntL L 3 b.length)) (fun ix _ => b.length - (intOf ix).toNat)
            case atStart => exact ⟨0, Nat.zero_le _, rfl, HSN.out⟩
            case round =>
              clear HSN h3c
              obtain ⟨i, hi, rfl, hsw⟩ := hrel
              have HSW := Lib.hid hsw
              by_cases hlt : i < b.length
              · have hi2 : (i : Int) < (b.length : Int) := by omega
                have hkw := IntWalk.i64_in ((i : Int) + 1) (by have := HB60.out; omega)
                have hm3 : wr.cell? ⟨m3, i, none⟩ = some (.int .i64 1) := by
                  have a3 := cntL_at L 3 hlt
                  rw [HC3.out i hlt] at a3
                  simp [World.cell?, hsw.r3, icell, a3]
                clear hsw
                go_wp2
                go_roundw
                case rel => exact ⟨i + 1, by omega, by go_num, HSW.out⟩
                case measure => simp [intOf]; omega
              · have HBE := Lib.hid (HB3.out.trans (hsw.bel.mono HB3.out.size))
                clear hsw HSW
                go_wp2
                go_ret
                exact ⟨rfl, HBE.out⟩
end Go.Proofs.Ytmonneeikkgllaa
