/- timedBy, as a contract. No condition but those in the statements. -/
import Derived.Test.YtogffilanioejaaSmall
import Derived.Test.YtogffilanioejaaFrames
import Derived.BigQuiet
import Derived.Deep.OwnRows
namespace Go.Proofs.Ytogffilanioejaa
open Go.RowKit Go.Sort Go.ChangeShapes Go.WideShapes
set_option linter.unusedVariables false
set_option linter.unusedSimpArgs false

/-- A block of bools. -/
def BoolsAt (w : World) (b : Nat) (bs : List Bool) : Prop := w.heap[b]? = some (.cells (bs.map Value.bool).toArray 4 (0, 0))
theorem BoolsAt.lt {w : World} {b : Nat} {bs : List Bool} (h : BoolsAt w b bs) : b < w.heap.size := (Array.getElem?_eq_some_iff.1 h).1
theorem BoolsAt.cell {w : World} {b : Nat} {bs : List Bool} (h : BoolsAt w b bs) {k : Nat} {x : Bool} (hk : bs[k]? = some x) : w.cell? ⟨b, k, none⟩ = some (.bool x) := by
  unfold BoolsAt at h
  simp [World.cell?, h, hk]
theorem BoolsAt.frozen {w : World} {b : Nat} {bs : List Bool} (h : BoolsAt w b bs) (k : Nat) : w.frozen? ⟨b, k, none⟩ = false := by
  unfold BoolsAt at h
  simp [World.frozen?, h]
theorem BoolsAt.set {w : World} {b : Nat} {bs : List Bool} (h : BoolsAt w b bs) (k : Nat) (x : Bool) : BoolsAt (w.setCell ⟨b, k, none⟩ (.bool x)) b (bs.set k x) := by
  unfold BoolsAt at h ⊢
  rw [List.map_set]
  simp [World.setCell, Array.getElem?_modify, h]
theorem BoolsAt.below {w w' : World} {b : Nat} {bs : List Bool} (h : BoolsAt w b bs) (hb : Below w.heap.size w w') : BoolsAt w' b bs := (hb.block b h.lt).trans h
theorem made_bools (n : Nat) : madeCells #[Value.bool false] n = ((List.replicate n false).map Value.bool).toArray := by
  apply Array.ext
  · simp [size_madeCells]
  · intro i h1 h2
    simp [madeCells, Nat.mod_one]
theorem Try.infoB : (Try.prog.info? 4).map (fun i => (i.zero, i.size, i.bytes)) = some (some (.bool false), 1, 1) := by kernel_rfl
theorem scan_succ (n : Nat) (f : Nat → Bool) : scan (n + 1) f = (scan n f || f n) := by
  unfold scan
  rw [List.range_succ, List.any_append]
  simp
/-- Of each of n partitions: has one of the first i windows it? -/
def timedUp (win : List (List Int)) (n i : Nat) : List Bool := (List.range n).map (fun p : Nat => scan i (fun q => decide (fld (row win q) 0 = (p : Int))))
theorem timedUp_len (win : List (List Int)) (n i : Nat) : (timedUp win n i).length = n := by simp [timedUp]
theorem timedUp_zero (win : List (List Int)) (n : Nat) : timedUp win n 0 = List.replicate n false := by
  apply List.ext_getElem
  · simp [timedUp]
  · intro i h1 h2
    simp [timedUp, scan]
theorem timedUp_in {win : List (List Int)} {n i j : Nat} {x1 x2 : Int} (h : win[i]? = some [(j : Int), x1, x2]) (hj : j < n) : (timedUp win n i).set j true = timedUp win n (i + 1) := by
  apply List.ext_getElem
  · simp [timedUp]
  · intro p h1 h2
    have hp : p < n := by simpa [timedUp] using h1
    simp only [timedUp, List.getElem_set, List.getElem_map, List.getElem_range, scan_succ, row_at h]
    by_cases e : j = p
    · subst e; simp [fld]
    · have : decide (fld [(j : Int), x1, x2] 0 = (p : Int)) = false := decide_eq_false (by show ¬ (j : Int) = p; omega)
      rw [if_neg e, this, Bool.or_false]
theorem timedUp_out {win : List (List Int)} {n i : Nat} {x0 x1 x2 : Int} (h : win[i]? = some [x0, x1, x2]) (hj : ¬ (0 ≤ x0 ∧ x0 ≤ (n : Int) - 1)) : timedUp win n i = timedUp win n (i + 1) := by
  apply List.ext_getElem
  · simp [timedUp]
  · intro p h1 h2
    have hp : p < n := by simpa [timedUp] using h1
    simp only [timedUp, List.getElem_map, List.getElem_range, scan_succ, row_at h]
    have : decide (fld [x0, x1, x2] 0 = (p : Int)) = false := decide_eq_false (by show ¬ x0 = p; omega)
    rw [this, Bool.or_false]
/-- Of each of n partitions: has a frame a window of it? -/
theorem timedUp_at (win : List (List Int)) {n p : Nat} (hp : p < n) : (timedUp win n win.length)[p]? = some (hasWin win p) := by
  simp [timedUp, hp, hasWin]
theorem timedUp_at' (win : List (List Int)) {n i p : Nat} (hp : p < n) : ∃ x, (timedUp win n i)[p]? = some x := ⟨_, List.getElem?_eq_getElem (by rw [timedUp_len]; exact hp)⟩
/-- A call that hands back a new list of bools, and turns nothing that was there. -/
def GivesBools (w : World) (bs : List Bool) (e : Ending) (w' : World) : Prop := ∃ b, e = .returned (.slice (some ⟨b, 0, none⟩) bs.length bs.length) ∧ w.heap.size ≤ b ∧ BoolsAt w' b bs ∧ Below w.heap.size w w'

set_option maxRecDepth 100000 in
set_option maxHeartbeats 4000000 in
theorem timedBy_b (n : Nat) (hn : n ≤ 1000000) (len : Int) (win : List (List Int)) (A : Option Addr) (c : Nat) (w : World) (hr : RowN [.i64, .i64, .i64] w w.heap.size A win) (wl : wfR [.i64, .i64, .i64] win) (hl : win.length ≤ 1000000) (hlen : (Lit.int .i64 len).wf = true) : Calls Try.prog 52 #[.agg #[.int .i64 len, .slice A win.length c], .int .i64 (n : Int)] w (GivesBools w (timedUp win n win.length)) := by
  obtain ⟨i0, hi, hz0, hz1, hz2⟩ := info_parts Try.infoB
  obtain ⟨W, HW, hB, hWs, bx⟩ := fbox_new w len A win.length c 26
  have HB := Lib.hid hB
  have hr := (hr.below hB).more hB.size
  clear hB
  have hb1 : Below W.heap.size W (W.alloc (.cells (madeCells #[Value.bool false] n) 4)) := (Below.refl _ _).alloc (Nat.le_refl _) _
  have hs1 : BoolsAt (W.alloc (.cells (madeCells #[Value.bool false] n) 4)) W.heap.size (timedUp win n 0) := by rw [timedUp_zero, made_bools]; exact heap_alloc_new _ _
  obtain ⟨c0, c1⟩ := bx _ hb1
  have HB1 := Lib.hid hb1; have HS1 := Lib.hid hs1
  clear hb1 hs1
  go_enter Try.func52, Try.ntmps52
  go_wp2_with (first | (rw [← HW.out]) | (refine wpList_make_row _ rfl _ _ 64 rfl 4 i0 (.bool false) Try.underlying64 hi hz0 hz1 rfl .i64 .i64 n rfl rfl (by rw [hz2]; omega) (by omega) ?_))
  clear c0 c1
  go_loopw [13] (fun ix wr => ∃ i : Nat, i ≤ win.length ∧ ix = .int .i64 i ∧ BoolsAt wr W.heap.size (timedUp win n i) ∧ Below W.heap.size W wr) (fun ix _ => win.length - (intOf ix).toNat)
  case atStart => exact ⟨0, Nat.zero_le _, rfl, HS1.out, HB1.out⟩
  case round =>
    obtain ⟨i, hi2, rfl, hbs, hbc⟩ := hrel
    by_cases hlt : i < win.length
    · obtain ⟨b, o, x0, x1, x2, e0, _, e1, ⟨hw0, hw1, hw2⟩, k0⟩ := hr.at3 wl hlt
      subst e0
      have k0 := k0 _ hbc
      obtain ⟨p0, k0⟩ := k0
      obtain ⟨p1, p2⟩ := k0
      have E1 := Lib.hid e1
      clear e1
      obtain ⟨wa, hwa⟩ : ∃ u, Hid (u = wr.alloc (.cells #[.int .i64 x0, .int .i64 x1, .int .i64 x2] 38)) := ⟨_, rfl⟩
      have hba : Below wr.heap.size wr wa := by rw [hwa.out]; exact (Below.refl _ _).alloc (Nat.le_refl _) _
      have hxa : wa.heap[wr.heap.size]? = some (.cells #[.int .i64 x0, .int .i64 x1, .int .i64 x2] 38 (0, 0)) := by rw [hwa.out]; exact heap_alloc_new _ _
      have hwb := hbc.trans (hba.mono hbc.size)
      have hla : wr.heap.size < wa.heap.size := (Array.getElem?_eq_some_iff.1 hxa).1
      have a0 := cell_blk hxa (i := 0) rfl
      have hbs' := hbs.below hba
      have HWB := Lib.hid hwb
      have HBS := Lib.hid hbs'
      by_cases hA : decide (0 ≤ x0 ∧ x0 ≤ (n : Int) - 1) = true
      · obtain ⟨d1, d2⟩ := of_decide_eq_true hA
        obtain ⟨j, rfl⟩ := Int.eq_ofNat_of_zero_le d1
        have hj : j < n := by omega
        have d3 : (j : Int) < (n : Int) := by omega
        have HX := Lib.hid (timedUp_in E1.out hj)
        obtain ⟨q, hq⟩ := timedUp_at' win (i := i) hj
        have s0 := HBS.out.cell hq
        have s1 := HBS.out.frozen j
        clear hbs hbs' hba hwb hxa hq hbc
        go_wp2_with (first | (rw [← hwa.out]) | (go_at_call 21; ((with_reducible refine (within_is _ _ _ _ _ (by assumption)).mono ?_); rintro e w5 ⟨rfl, rfl⟩)))
        go_roundw
        case rel => exact ⟨i + 1, by omega, by go_num, by rw [← HX.out]; exact HBS.out.set j true, HWB.out.setCell (p := ⟨W.heap.size, j, none⟩) (Nat.le_refl _) _⟩
        case measure => simp [intOf]; omega
      · have hA : decide (0 ≤ x0 ∧ x0 ≤ (n : Int) - 1) = false := by simpa using hA
        have HX := Lib.hid (timedUp_out E1.out (of_decide_eq_false hA))
        clear hbs hbs' hba hwb hxa hbc
        go_wp2_with (first | (rw [← hwa.out]) | (go_at_call 21; ((with_reducible refine (within_is _ _ _ _ _ (by assumption)).mono ?_); rintro e w5 ⟨rfl, rfl⟩)))
        go_roundw
        case rel => exact ⟨i + 1, by omega, by go_num, by rw [← HX.out]; exact HBS.out, HWB.out⟩
        case measure => simp [intOf]; omega
    · have HS := Lib.hid (show BoolsAt wr W.heap.size (timedUp win n win.length) by rw [show win.length = i by omega]; exact hbs)
      clear hbs
      go_wp2
      go_ret
      exact ⟨W.heap.size, by simp [timedUp_len], HB.out.size, HS.out, HB.out.trans (hbc.mono HB.out.size)⟩
end Go.Proofs.Ytogffilanioejaa
