/- Rows read from a box. No condition but those in the statements. -/
import Derived.Test.YtjknmojjodghdaaClos
namespace Go.Proofs.Ytjknmojjodghdaa
open Go.RowKit Go.Sort Go.ChangeShapes Go.WideShapes
set_option linter.unusedVariables false
set_option linter.unusedSimpArgs false

/-- n words from number k on; m rows of n words each. -/
def chunk (xs : List Int) (k n : Nat) : List Int := (List.range n).map (fun j => xs.getD (k + j) 0)
def rowsAt (xs : List Int) (k n m : Nat) : List (List Int) := (List.range m).map (fun i => chunk xs (k + n * i) n)
theorem rowsAt_succ (xs : List Int) (k n m : Nat) : rowsAt xs k n (m + 1) = rowsAt xs k n m ++ [chunk xs (k + n * m) n] := by simp [rowsAt, List.range_succ]
@[simp] theorem rowsAt_len (xs : List Int) (k n m : Nat) : (rowsAt xs k n m).length = m := by simp [rowsAt]
theorem i64_of_word {n : Int} (h : 0 ≤ n ∧ n ≤ 4294967295) : (Lit.int .i64 n).wf = true := by
  simp [Lit.wf, IntKind.min, IntKind.max, IntKind.signed, IntKind.bits]; omega
theorem u32_of_word {n : Int} (h : 0 ≤ n ∧ n ≤ 4294967295) : (Lit.int .u32 n).wf = true := by
  simp [Lit.wf, IntKind.min, IntKind.max, IntKind.signed, IntKind.bits]; omega
theorem chunk2 (xs : List Int) (k : Nat) : chunk xs k 2 = [xs.getD k 0, xs.getD (k + 1) 0] := by simp [chunk, List.range, List.range.loop]
theorem chunk2_wf {xs : List Int} (h : wfW xs) (k : Nat) : wfN [.i64, .i64] (chunk xs k 2) := by
  rw [chunk2]
  exact wfN2_mk (i64_of_word (wfW_at h k)) (i64_of_word (wfW_at h (k + 1)))
theorem rowsAt2_wf {xs : List Int} (h : wfW xs) (k m : Nat) : wfR [.i64, .i64] (rowsAt xs k 2 m) := by
  intro x hx
  obtain ⟨i, _, rfl⟩ := List.mem_map.1 hx
  exact chunk2_wf h _
theorem Try.info2 : (Try.prog.info? 55).map (fun i => (i.zero, i.size, i.bytes)) = some (some (.agg #[.int .i64 0, .int .i64 0]), 2, 16) := by kernel_rfl
theorem chunk3 (xs : List Int) (k : Nat) : chunk xs k 3 = [xs.getD k 0, xs.getD (k + 1) 0, xs.getD (k + 2) 0] := by simp [chunk, List.range, List.range.loop]
theorem chunk3_wf {xs : List Int} (h : wfW xs) (k : Nat) : wfN [.i64, .i64, .i64] (chunk xs k 3) := by
  rw [chunk3]
  exact wfN3_mk (i64_of_word (wfW_at h k)) (i64_of_word (wfW_at h (k + 1))) (i64_of_word (wfW_at h (k + 2)))
theorem rowsAt3_wf {xs : List Int} (h : wfW xs) (k m : Nat) : wfR [.i64, .i64, .i64] (rowsAt xs k 3 m) := by
  intro x hx
  obtain ⟨i, _, rfl⟩ := List.mem_map.1 hx
  exact chunk3_wf h _
theorem Try.info3 : (Try.prog.info? 51).map (fun i => (i.zero, i.size, i.bytes)) = some (some (.agg #[.int .i64 0, .int .i64 0, .int .i64 0]), 3, 24) := by kernel_rfl
theorem chunk7 (xs : List Int) (k : Nat) : chunk xs k 7 = [xs.getD k 0, xs.getD (k + 1) 0, xs.getD (k + 2) 0, xs.getD (k + 3) 0, xs.getD (k + 4) 0, xs.getD (k + 5) 0, xs.getD (k + 6) 0] := by simp [chunk, List.range, List.range.loop]
theorem chunk7_wf {xs : List Int} (h : wfW xs) (k : Nat) : wfN [.i64, .i64, .i64, .i64, .i64, .i64, .u32] (chunk xs k 7) := by
  rw [chunk7]
  exact wfN7_mk (i64_of_word (wfW_at h k)) (i64_of_word (wfW_at h (k + 1))) (i64_of_word (wfW_at h (k + 2))) (i64_of_word (wfW_at h (k + 3))) (i64_of_word (wfW_at h (k + 4))) (i64_of_word (wfW_at h (k + 5))) (u32_of_word (wfW_at h (k + 6)))
theorem rowsAt7_wf {xs : List Int} (h : wfW xs) (k m : Nat) : wfR [.i64, .i64, .i64, .i64, .i64, .i64, .u32] (rowsAt xs k 7 m) := by
  intro x hx
  obtain ⟨i, _, rfl⟩ := List.mem_map.1 hx
  exact chunk7_wf h _
theorem Try.info7 : (Try.prog.info? 59).map (fun i => (i.zero, i.size, i.bytes)) = some (some (.agg #[.int .i64 0, .int .i64 0, .int .i64 0, .int .i64 0, .int .i64 0, .int .i64 0, .int .u32 0]), 7, 56) := by kernel_rfl

theorem Env.far {w w' : World} {B b p q : Nat} {S : Nat → Prop} {xs : List Int} {k : Nat} (h : Env w B b p q xs k) (ho : Only S w w') (hb : ∀ j, S j → b ≠ j) (hp : ∀ j, S j → p ≠ j) (hq : ∀ j, S j → q ≠ j) (hB : ∀ j, S j → B ≤ j) : Env w' B b p q xs k := by
  have hs := ho.size
  have c : ∀ j, j < w.heap.size → ¬ S j → w'.cell? ⟨j, 0, none⟩ = w.cell? ⟨j, 0, none⟩ := fun j hj hb => by simp [World.cell?, ho.block j hj hb]
  exact ⟨h.box.kept ho hB (fun e => hb b e rfl), (c p h.lp (fun e => hp p e rfl)).trans h.ptr, (c q h.lq (fun e => hq q e rfl)).trans h.num, h.bp, h.bq, by have := h.lp; omega, by have := h.lq; omega, h.wf⟩
theorem news_rw (w : World) (cs : Array Value) (t : TypeId) : ∀ j u, cs.toList[j]? = some u → (w.alloc (.cells cs t)).cell? ((⟨w.heap.size, 0, none⟩ : Addr).add j) = some u := fun j u hu => by
  rw [Addr.add_lit, Nat.zero_add]
  exact cell_blk (heap_alloc_new w _) (by simpa using hu)
/-- Behind a call that reads rows: a new list, and the words as far as read. -/
def GivesRows (T : TypeId) (ks : List IntKind) (w : World) (B b p q : Nat) (xs : List Int) (k' : Nat) (l : List (List Int)) (e : Ending) (w' : World) : Prop :=
  ∃ v, e = .returned v ∧ OwnsOff w' w.heap.size T ks.length v l.length (rcells ks l) ∧ Env w' B b p q xs k' ∧ Only (fun j => j = b) w w'

set_option maxHeartbeats 1600000 in
theorem rows2_b (B b p q k m : Nat) (xs : List Int) (w : World) (hE : Env w B b p q xs k) (hm : m ≤ 64) : Calls Try.prog 20 #[.int .u32 (m : Int), .func (.func 21) #[] #[.pointer (some ⟨q, 0, none⟩)]] w (GivesRows 55 [.i64, .i64] w B b p q xs (k + 2 * m) (rowsAt xs k 2 m)) := by
  obtain ⟨i0, hi, hz0, hz1, hz2⟩ := info_parts Try.info2
  have hb : b < w.heap.size := hE.box.lt
  have hp : p < w.heap.size := hE.lp
  have hq : q < w.heap.size := hE.lq
  go_enter Try.func20, Try.ntmps20
  go_wp2
  go_loopw [5, 7] (fun v ix wr => ∃ i : Nat, i ≤ m ∧ ix = .int .u32 i ∧ OwnsOff wr w.heap.size 55 2 v (rowsAt xs k 2 i).length (rcells [.i64, .i64] (rowsAt xs k 2 i)) ∧ Env wr B b p q xs (k + 2 * i) ∧ Only (fun j => j = b) w wr) (fun _ ix _ => m - (intOf ix).toNat)
  case atStart => exact ⟨0, Nat.zero_le _, rfl, OwnsOff.nil _ _ _ _, hE, Only.refl _ _⟩
  case round =>
    clear hE
    obtain ⟨i, him, rfl, hown, hE, hO⟩ := hrel
    by_cases hlt : i < m
    · have HS := Lib.hid (rowsAt_succ xs k 2 i)
      have HC := Lib.hid (chunk2 xs (k + 2 * i))
      obtain ⟨l, hl⟩ : ∃ l, rowsAt xs k 2 i = l := ⟨_, rfl⟩
      have hll : l.length ≤ 64 := by rw [← hl, rowsAt_len]; omega
      rw [hl] at hown HS
      clear hl
      go_wp2_with fail
      refine (part_b B b p q (k + 2 * i) xs _ hE).mono ?_
      rintro e w1 ⟨rfl, hE1, hO1⟩
      have hbl := hE.box.lt
      have hbw : b < w.heap.size := hb
      have hown1 := hown.kept hO1 (fun g hg e => by have := (hown.lt g hg).1; omega)
      have hO2 := hO.trans hO1
      have hsz := hO2.size
      generalize hx0 : xs.getD (k + 2 * i) 0 = x0
      have HX0 := Lib.hid hx0
      clear hx0
      generalize hx1 : xs.getD (k + 2 * i + 1) 0 = x1
      have HX1 := Lib.hid hx1
      clear hx1
      have HE := Lib.hid hE1; have HO := Lib.hid hO2
      clear hE1 hO2 hE hO hO1 hown
      go_wp2_with (at_builtin; refine wpList_append_off _ rfl _ _ 24 rfl w.heap.size 55 i0 (.agg #[.int .i64 0, .int .i64 0]) 2 16 Try.underlying24 hi hz0 hz1 hz2 rfl (by decide) _ _ _ rfl (hown1.keptB ((Below.refl _ _).alloc (Nat.le_refl _) _)) ⟨w1.heap.size, 0, none⟩ 1 1 [.int .i64 x0, .int .i64 x1] rfl rfl (news_rw _ _ _) (by simp [Value.oneCell']) (by unfold maxLen; omega) (by omega) (by simp; omega) ?_)
      intro v' w2 hown' hgrow _
      have hon : Only (fun j => some j = u5.ownBlock) w1 w2 := (Only.of_below ((Below.refl _ _).alloc (Nat.le_refl _) _)).trans (Only.of_grown hgrow)
      have hge : ∀ j, some j = u5.ownBlock → w.heap.size ≤ j := fun j e => (hown1.lt j e.symm).1
      have hE3 : Env w2 B b p q xs (k + 2 * (i + 1)) := (show k + 2 * i + 2 = k + 2 * (i + 1) by omega) ▸ HE.out.far hon (fun j hj => by have := hge j hj; omega) (fun j hj => by have := hge j hj; omega) (fun j hj => by have := hge j hj; omega) (fun j hj => by have := hge j hj; have := HE.out.box.1; omega)
      have hO3 : Only (fun j => j = b) w w2 := ⟨hon.os.trans HO.out.os, hon.tape.trans HO.out.tape, hon.output.trans HO.out.output, Nat.le_trans HO.out.size hon.size, fun j hj hs => (hon.block j (Nat.lt_of_lt_of_le hj HO.out.size) (fun e => by have := hge j e; omega)).trans (HO.out.block j hj hs)⟩
      have hown3 : OwnsOff w2 w.heap.size 55 2 v' (l ++ [[x0, x1]]).length (rcells [.i64, .i64] (l ++ [[x0, x1]])) := by rw [List.length_append, rcells_app]; exact hown'
      have H3 := Lib.hid hE3; have O3 := Lib.hid hO3; have W3 := Lib.hid hown3
      clear hown' hgrow hon hge hE3 hO3 hown3 hown1
      go_wp2
      go_roundw
      case rel => exact ⟨i + 1, by omega, by go_num, by rw [HS.out, HC.out, HX0.out, HX1.out]; exact W3.out, H3.out, O3.out⟩
      case measure => simp [intOf]; omega
    · have him2 : i = m := by omega
      subst him2
      have HW := Lib.hid hown; have HE := Lib.hid hE; have HO := Lib.hid hO
      clear hown hE hO
      go_wp2
      go_ret
      exact ⟨_, rfl, HW.out, HE.out, HO.out⟩

set_option maxHeartbeats 1600000 in
theorem rows3_b (B b p q k m : Nat) (xs : List Int) (w : World) (hE : Env w B b p q xs k) (hm : m ≤ 64) : Calls Try.prog 24 #[.int .u32 (m : Int), .func (.func 19) #[] #[.pointer (some ⟨q, 0, none⟩)]] w (GivesRows 51 [.i64, .i64, .i64] w B b p q xs (k + 3 * m) (rowsAt xs k 3 m)) := by
  obtain ⟨i0, hi, hz0, hz1, hz2⟩ := info_parts Try.info3
  have hb : b < w.heap.size := hE.box.lt
  have hp : p < w.heap.size := hE.lp
  have hq : q < w.heap.size := hE.lq
  go_enter Try.func24, Try.ntmps24
  go_wp2
  go_loopw [5, 7] (fun v ix wr => ∃ i : Nat, i ≤ m ∧ ix = .int .u32 i ∧ OwnsOff wr w.heap.size 51 3 v (rowsAt xs k 3 i).length (rcells [.i64, .i64, .i64] (rowsAt xs k 3 i)) ∧ Env wr B b p q xs (k + 3 * i) ∧ Only (fun j => j = b) w wr) (fun _ ix _ => m - (intOf ix).toNat)
  case atStart => exact ⟨0, Nat.zero_le _, rfl, OwnsOff.nil _ _ _ _, hE, Only.refl _ _⟩
  case round =>
    clear hE
    obtain ⟨i, him, rfl, hown, hE, hO⟩ := hrel
    by_cases hlt : i < m
    · have HS := Lib.hid (rowsAt_succ xs k 3 i)
      have HC := Lib.hid (chunk3 xs (k + 3 * i))
      obtain ⟨l, hl⟩ : ∃ l, rowsAt xs k 3 i = l := ⟨_, rfl⟩
      have hll : l.length ≤ 64 := by rw [← hl, rowsAt_len]; omega
      rw [hl] at hown HS
      clear hl
      go_wp2_with fail
      refine (window_b B b p q (k + 3 * i) xs _ hE).mono ?_
      rintro e w1 ⟨rfl, hE1, hO1⟩
      have hbl := hE.box.lt
      have hbw : b < w.heap.size := hb
      have hown1 := hown.kept hO1 (fun g hg e => by have := (hown.lt g hg).1; omega)
      have hO2 := hO.trans hO1
      have hsz := hO2.size
      generalize hx0 : xs.getD (k + 3 * i) 0 = x0
      have HX0 := Lib.hid hx0
      clear hx0
      generalize hx1 : xs.getD (k + 3 * i + 1) 0 = x1
      have HX1 := Lib.hid hx1
      clear hx1
      generalize hx2 : xs.getD (k + 3 * i + 2) 0 = x2
      have HX2 := Lib.hid hx2
      clear hx2
      have HE := Lib.hid hE1; have HO := Lib.hid hO2
      clear hE1 hO2 hE hO hO1 hown
      go_wp2_with (at_builtin; refine wpList_append_off _ rfl _ _ 26 rfl w.heap.size 51 i0 (.agg #[.int .i64 0, .int .i64 0, .int .i64 0]) 3 24 Try.underlying26 hi hz0 hz1 hz2 rfl (by decide) _ _ _ rfl (hown1.keptB ((Below.refl _ _).alloc (Nat.le_refl _) _)) ⟨w1.heap.size, 0, none⟩ 1 1 [.int .i64 x0, .int .i64 x1, .int .i64 x2] rfl rfl (news_rw _ _ _) (by simp [Value.oneCell']) (by unfold maxLen; omega) (by omega) (by simp; omega) ?_)
      intro v' w2 hown' hgrow _
      have hon : Only (fun j => some j = u5.ownBlock) w1 w2 := (Only.of_below ((Below.refl _ _).alloc (Nat.le_refl _) _)).trans (Only.of_grown hgrow)
      have hge : ∀ j, some j = u5.ownBlock → w.heap.size ≤ j := fun j e => (hown1.lt j e.symm).1
      have hE3 : Env w2 B b p q xs (k + 3 * (i + 1)) := (show k + 3 * i + 3 = k + 3 * (i + 1) by omega) ▸ HE.out.far hon (fun j hj => by have := hge j hj; omega) (fun j hj => by have := hge j hj; omega) (fun j hj => by have := hge j hj; omega) (fun j hj => by have := hge j hj; have := HE.out.box.1; omega)
      have hO3 : Only (fun j => j = b) w w2 := ⟨hon.os.trans HO.out.os, hon.tape.trans HO.out.tape, hon.output.trans HO.out.output, Nat.le_trans HO.out.size hon.size, fun j hj hs => (hon.block j (Nat.lt_of_lt_of_le hj HO.out.size) (fun e => by have := hge j e; omega)).trans (HO.out.block j hj hs)⟩
      have hown3 : OwnsOff w2 w.heap.size 51 3 v' (l ++ [[x0, x1, x2]]).length (rcells [.i64, .i64, .i64] (l ++ [[x0, x1, x2]])) := by rw [List.length_append, rcells_app]; exact hown'
      have H3 := Lib.hid hE3; have O3 := Lib.hid hO3; have W3 := Lib.hid hown3
      clear hown' hgrow hon hge hE3 hO3 hown3 hown1
      go_wp2
      go_roundw
      case rel => exact ⟨i + 1, by omega, by go_num, by rw [HS.out, HC.out, HX0.out, HX1.out, HX2.out]; exact W3.out, H3.out, O3.out⟩
      case measure => simp [intOf]; omega
    · have him2 : i = m := by omega
      subst him2
      have HW := Lib.hid hown; have HE := Lib.hid hE; have HO := Lib.hid hO
      clear hown hE hO
      go_wp2
      go_ret
      exact ⟨_, rfl, HW.out, HE.out, HO.out⟩

set_option maxHeartbeats 1600000 in
theorem rows7_b (B b p q k m : Nat) (xs : List Int) (w : World) (hE : Env w B b p q xs k) (hm : m ≤ 64) : Calls Try.prog 22 #[.int .u32 (m : Int), .func (.func 23) #[] #[.pointer (some ⟨q, 0, none⟩), .pointer (some ⟨p, 0, none⟩)]] w (GivesRows 59 [.i64, .i64, .i64, .i64, .i64, .i64, .u32] w B b p q xs (k + 7 * m) (rowsAt xs k 7 m)) := by
  obtain ⟨i0, hi, hz0, hz1, hz2⟩ := info_parts Try.info7
  have hb : b < w.heap.size := hE.box.lt
  have hp : p < w.heap.size := hE.lp
  have hq : q < w.heap.size := hE.lq
  go_enter Try.func22, Try.ntmps22
  go_wp2
  go_loopw [5, 7] (fun v ix wr => ∃ i : Nat, i ≤ m ∧ ix = .int .u32 i ∧ OwnsOff wr w.heap.size 59 7 v (rowsAt xs k 7 i).length (rcells [.i64, .i64, .i64, .i64, .i64, .i64, .u32] (rowsAt xs k 7 i)) ∧ Env wr B b p q xs (k + 7 * i) ∧ Only (fun j => j = b) w wr) (fun _ ix _ => m - (intOf ix).toNat)
  case atStart => exact ⟨0, Nat.zero_le _, rfl, OwnsOff.nil _ _ _ _, hE, Only.refl _ _⟩
  case round =>
    clear hE
    obtain ⟨i, him, rfl, hown, hE, hO⟩ := hrel
    by_cases hlt : i < m
    · have HS := Lib.hid (rowsAt_succ xs k 7 i)
      have HC := Lib.hid (chunk7 xs (k + 7 * i))
      obtain ⟨l, hl⟩ : ∃ l, rowsAt xs k 7 i = l := ⟨_, rfl⟩
      have hll : l.length ≤ 64 := by rw [← hl, rowsAt_len]; omega
      rw [hl] at hown HS
      clear hl
      go_wp2_with fail
      refine (chan_b B b p q (k + 7 * i) xs _ hE).mono ?_
      rintro e w1 ⟨rfl, hE1, hO1⟩
      have hbl := hE.box.lt
      have hbw : b < w.heap.size := hb
      have hown1 := hown.kept hO1 (fun g hg e => by have := (hown.lt g hg).1; omega)
      have hO2 := hO.trans hO1
      have hsz := hO2.size
      generalize hx0 : xs.getD (k + 7 * i) 0 = x0
      have HX0 := Lib.hid hx0
      clear hx0
      generalize hx1 : xs.getD (k + 7 * i + 1) 0 = x1
      have HX1 := Lib.hid hx1
      clear hx1
      generalize hx2 : xs.getD (k + 7 * i + 2) 0 = x2
      have HX2 := Lib.hid hx2
      clear hx2
      generalize hx3 : xs.getD (k + 7 * i + 3) 0 = x3
      have HX3 := Lib.hid hx3
      clear hx3
      generalize hx4 : xs.getD (k + 7 * i + 4) 0 = x4
      have HX4 := Lib.hid hx4
      clear hx4
      generalize hx5 : xs.getD (k + 7 * i + 5) 0 = x5
      have HX5 := Lib.hid hx5
      clear hx5
      generalize hx6 : xs.getD (k + 7 * i + 6) 0 = x6
      have HX6 := Lib.hid hx6
      clear hx6
      have HE := Lib.hid hE1; have HO := Lib.hid hO2
      clear hE1 hO2 hE hO hO1 hown
      go_wp2_with (at_builtin; refine wpList_append_off _ rfl _ _ 25 rfl w.heap.size 59 i0 (.agg #[.int .i64 0, .int .i64 0, .int .i64 0, .int .i64 0, .int .i64 0, .int .i64 0, .int .u32 0]) 7 56 Try.underlying25 hi hz0 hz1 hz2 rfl (by decide) _ _ _ rfl (hown1.keptB ((Below.refl _ _).alloc (Nat.le_refl _) _)) ⟨w1.heap.size, 0, none⟩ 1 1 [.int .i64 x0, .int .i64 x1, .int .i64 x2, .int .i64 x3, .int .i64 x4, .int .i64 x5, .int .u32 x6] rfl rfl (news_rw _ _ _) (by simp [Value.oneCell']) (by unfold maxLen; omega) (by omega) (by simp; omega) ?_)
      intro v' w2 hown' hgrow _
      have hon : Only (fun j => some j = u5.ownBlock) w1 w2 := (Only.of_below ((Below.refl _ _).alloc (Nat.le_refl _) _)).trans (Only.of_grown hgrow)
      have hge : ∀ j, some j = u5.ownBlock → w.heap.size ≤ j := fun j e => (hown1.lt j e.symm).1
      have hE3 : Env w2 B b p q xs (k + 7 * (i + 1)) := (show k + 7 * i + 7 = k + 7 * (i + 1) by omega) ▸ HE.out.far hon (fun j hj => by have := hge j hj; omega) (fun j hj => by have := hge j hj; omega) (fun j hj => by have := hge j hj; omega) (fun j hj => by have := hge j hj; have := HE.out.box.1; omega)
      have hO3 : Only (fun j => j = b) w w2 := ⟨hon.os.trans HO.out.os, hon.tape.trans HO.out.tape, hon.output.trans HO.out.output, Nat.le_trans HO.out.size hon.size, fun j hj hs => (hon.block j (Nat.lt_of_lt_of_le hj HO.out.size) (fun e => by have := hge j e; omega)).trans (HO.out.block j hj hs)⟩
      have hown3 : OwnsOff w2 w.heap.size 59 7 v' (l ++ [[x0, x1, x2, x3, x4, x5, x6]]).length (rcells [.i64, .i64, .i64, .i64, .i64, .i64, .u32] (l ++ [[x0, x1, x2, x3, x4, x5, x6]])) := by rw [List.length_append, rcells_app]; exact hown'
      have H3 := Lib.hid hE3; have O3 := Lib.hid hO3; have W3 := Lib.hid hown3
      clear hown' hgrow hon hge hE3 hO3 hown3 hown1
      go_wp2
      go_roundw
      case rel => exact ⟨i + 1, by omega, by go_num, by rw [HS.out, HC.out, HX0.out, HX1.out, HX2.out, HX3.out, HX4.out, HX5.out, HX6.out]; exact W3.out, H3.out, O3.out⟩
      case measure => simp [intOf]; omega
    · have him2 : i = m := by omega
      subst him2
      have HW := Lib.hid hown; have HE := Lib.hid hE; have HO := Lib.hid hO
      clear hown hE hO
      go_wp2
      go_ret
      exact ⟨_, rfl, HW.out, HE.out, HO.out⟩
end Go.Proofs.Ytjknmojjodghdaa
