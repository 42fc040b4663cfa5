/- The layout's small functions, as contracts. No condition but those in the statements. The lists of a layout's spans; three rows and an end under way. No condition but those in the statements. No condition but those in the statements. sourceSize, as a contract. No condition but those in the statements. -/
import Derived.Test.YtmhpcgcloojfbaaGreatDoorTill
import Derived.Test.YtmhpcgcloojfbaaGreatDoorRK
import Derived.BigQuiet
import Derived.IntWalk
import Derived.BigRegion
import Derived.Deep.RegionHeld3
namespace Go.Proofs.YtmhpcgcloojfbaaGreatDoor
open Go.RowKit Go.Sort Go.ChangeShapes Go.WideShapes
set_option linter.unusedVariables false
set_option linter.unusedSimpArgs false

theorem below_b (n m : Int) (w : World) : Calls Tryz.prog 133 #[.int .i64 n, .int .i64 m] w fun e w' => e = .returned (.bool (decide (0 ≤ n ∧ n < m))) ∧ w = w' := by
  by_cases h1 : 0 ≤ n
  · by_cases h2 : n < m
    · have HX := Lib.hid (show decide (0 ≤ n ∧ n < m) = true from decide_eq_true ⟨h1, h2⟩)
      go_enter Tryz.func133, Tryz.ntmps133
      go_wp2
      go_ret
      exact ⟨by first | (rw [HX.out]; rfl) | rfl, rfl⟩
    · have h2d : decide (n < m) = false := decide_eq_false h2
      have HX := Lib.hid (show decide (0 ≤ n ∧ n < m) = false from decide_eq_false (fun h => h2 h.2))
      go_enter Tryz.func133, Tryz.ntmps133
      go_wp2
      go_ret
      exact ⟨by first | (rw [HX.out]; rfl) | rfl, rfl⟩
  · have h1d : decide (0 ≤ n) = false := decide_eq_false h1
    have HX := Lib.hid (show decide (0 ≤ n ∧ n < m) = false from decide_eq_false (fun h => h1 h.1))
    go_enter Tryz.func133, Tryz.ntmps133
    go_wp2
    go_ret
    exact ⟨by first | (rw [HX.out]; rfl) | rfl, rfl⟩
theorem below_is (n m : Int) (q : Bool) (w : World) (h : decide (0 ≤ n ∧ n < m) = q) : Calls Tryz.prog 133 #[.int .i64 n, .int .i64 m] w fun e w' => e = .returned (.bool q) ∧ w = w' := by subst h; exact below_b n m w
/-- Place n of a list of spans; noughts, if there is none. -/
def nthS (l : List (List Int)) (n : Int) : Int × Int := if 0 ≤ n ∧ n < (l.length : Int) then (fld (row l n.toNat) 0, fld (row l n.toNat) 1) else (0, 0)
set_option maxHeartbeats 1600000 in
theorem nth_b (l : List (List Int)) (A : Option Addr) (cap : Nat) (n : Int) (w : World) (hr : RowN [.i64, .i64] w w.heap.size A l) (hw : wfR [.i64, .i64] l) (hl : l.length ≤ 1000000) :
    Calls Tryz.prog 130 #[.slice A l.length cap, .int .i64 n] w fun e w' => e = .returned (.agg #[.int .i64 (nthS l n).1, .int .i64 (nthS l n).2]) ∧ Below w.heap.size w w' := by
  obtain ⟨W, hW⟩ : ∃ u, Hid (u = w.alloc (.cells #[.int .i64 0, .int .i64 0] 176)) := ⟨_, rfl⟩
  have hB : Below w.heap.size w W := by rw [hW.out]; exact (Below.refl _ _).alloc (Nat.le_refl _) _
  have hR : W.heap[w.heap.size]? = some (.cells #[.int .i64 0, .int .i64 0] 176 (0, 0)) := by rw [hW.out]; exact heap_alloc_new _ _
  have z0 := cell_blk hR (i := 0) rfl
  have z1 := cell_blk hR (i := 1) rfl
  have f0 : W.frozen? ⟨w.heap.size, 0, none⟩ = false := by simp [World.frozen?, hR]
  have f1 : W.frozen? ⟨w.heap.size, 1, none⟩ = false := by simp [World.frozen?, hR]
  have HR := Lib.hid hR; have HB := Lib.hid hB
  by_cases hn : 0 ≤ n ∧ n < (l.length : Int)
  · obtain ⟨k, rfl⟩ := Int.eq_ofNat_of_zero_le hn.1
    have hk : k < l.length := by omega
    obtain ⟨b, o, x0, x1, rfl, hb, e1, -, k0⟩ := hr.at2 hw hk
    obtain ⟨q0, q1⟩ := k0 _ hB
    have HX := Lib.hid (show nthS l (k : Int) = (x0, x1) by rw [nthS, if_pos hn, Int.toNat_natCast, row_at e1]; rfl)
    have hbe := below_is (k : Int) (l.length : Int) true W (decide_eq_true hn)
    have i0 := hn.1
    have i1 := hn.2
    clear hn e1 k0 hR hB hr hw
    go_enter Tryz.func130, Tryz.ntmps130
    go_wp2_with (first | (rw [← hW.out]) | (go_at_call 133; ((with_reducible refine hbe.mono ?_); rintro e w5 ⟨rfl, rfl⟩)))
    have hRz : ((W.setCell ⟨w.heap.size, 0, none⟩ (.int .i64 x0)).setCell ⟨w.heap.size, 1, none⟩ (.int .i64 x1)).heap[w.heap.size]? = some (.cells #[.int .i64 x0, .int .i64 x1] 176 (0, 0)) := by simp [World.setCell, Array.getElem?_modify, HR.out]
    exact bodyPost_ret (results_cell_span rfl _ _ w.heap.size _ _ rfl (cell_blk hRz (i := 0) rfl) (cell_blk hRz (i := 1) rfl)) rfl ⟨by rw [HX.out], (HB.out.setCell (p := ⟨w.heap.size, 0, none⟩) (Nat.le_refl _) _).setCell (p := ⟨w.heap.size, 1, none⟩) (Nat.le_refl _) _⟩
  · have HX := Lib.hid (show nthS l n = (0, 0) from if_neg hn)
    have hbe := below_is n (l.length : Int) false W (decide_eq_false hn)
    clear hn hR hB hr hw
    go_enter Tryz.func130, Tryz.ntmps130
    go_wp2_with (first | (rw [← hW.out]) | (go_at_call 133; ((with_reducible refine hbe.mono ?_); rintro e w5 ⟨rfl, rfl⟩)))
    have hRz : ((W.setCell ⟨w.heap.size, 0, none⟩ (.int .i64 0)).setCell ⟨w.heap.size, 1, none⟩ (.int .i64 0)).heap[w.heap.size]? = some (.cells #[.int .i64 0, .int .i64 0] 176 (0, 0)) := by simp [World.setCell, Array.getElem?_modify, HR.out]
    exact bodyPost_ret (results_cell_span rfl _ _ w.heap.size _ _ rfl (cell_blk hRz (i := 0) rfl) (cell_blk hRz (i := 1) rfl)) rfl ⟨by rw [HX.out], (HB.out.setCell (p := ⟨w.heap.size, 0, none⟩) (Nat.le_refl _) _).setCell (p := ⟨w.heap.size, 1, none⟩) (Nat.le_refl _) _⟩
theorem bufsz_b (x0 x1 x2 x3 x4 x5 x6 : Int) (w : World) (h : 0 ≤ x3) (h2 : x3 ≤ 16) : Calls Tryz.prog 134 #[.agg #[.int .i64 x0, .int .i64 x1, .int .i64 x2, .int .i64 x3, .int .i64 x4, .int .i64 x5, .int .u32 x6]] w fun e w' => e = .returned (.int .i64 (2 + x3)) ∧ Below w.heap.size w w' := by
  have v0 := IntWalk.i64_in (2 + x3) (by omega)
  go_enter Tryz.func134, Tryz.ntmps134
  go_wp2
  go_ret
  exact ⟨rfl, (Below.refl _ _).alloc (Nat.le_refl _) _⟩
theorem cellsz_b (x0 x1 x2 x3 x4 x5 x6 : Int) (w : World) (h : 0 ≤ x3) (h2 : x3 ≤ 16) : Calls Tryz.prog 139 #[.agg #[.int .i64 x0, .int .i64 x1, .int .i64 x2, .int .i64 x3, .int .i64 x4, .int .i64 x5, .int .u32 x6]] w fun e w' => e = .returned (.int .i64 (1 + x3)) ∧ Below w.heap.size w w' := by
  have v0 := IntWalk.i64_in (1 + x3) (by omega)
  go_enter Tryz.func139, Tryz.ntmps139
  go_wp2
  go_ret
  exact ⟨rfl, (Below.refl _ _).alloc (Nat.le_refl _) _⟩
/-- A row's end, in its block. -/
def EndAt (w : World) (rb : Nat) (e : Int) : Prop := w.heap[rb]? = some (.cells #[.int .i64 e] 218 (0, 0))
set_option maxHeartbeats 1600000 in
theorem put_b (rb : Nat) (e s : Int) (w : World) (h : EndAt w rb e) (hs : -9223372036854775808 ≤ e + s ∧ e + s ≤ 9223372036854775807) :
    Calls Tryz.prog 148 #[.pointer (some ⟨rb, 0, none⟩), .int .i64 s] w fun x w' => x = .returned (.agg #[.int .i64 e, .int .i64 s]) ∧ EndAt w' rb (e + s) ∧ Only (fun k => k = rb) w w' := by
  have v0 := IntWalk.i64_in (e + s) (by omega)
  have hlt : rb < w.heap.size := (Array.getElem?_eq_some_iff.1 h).1
  obtain ⟨W, hW⟩ : ∃ u, Hid (u = w.alloc (.cells #[.int .i64 0, .int .i64 0] 176)) := ⟨_, rfl⟩
  have hB : Below w.heap.size w W := by rw [hW.out]; exact (Below.refl _ _).alloc (Nat.le_refl _) _
  have hR : W.heap[w.heap.size]? = some (.cells #[.int .i64 0, .int .i64 0] 176 (0, 0)) := by rw [hW.out]; exact heap_alloc_new _ _
  have hE : EndAt W rb e := (hB.block _ hlt).trans h
  have hWs : w.heap.size < W.heap.size := (Array.getElem?_eq_some_iff.1 hR).1
  have a0 := cell_blk hE (i := 0) rfl
  obtain ⟨V, hV⟩ : ∃ u, Hid (u = W.alloc (.cells #[.int .i64 e, .int .i64 s] 176)) := ⟨_, rfl⟩
  have hB2 : Below W.heap.size W V := by rw [hV.out]; exact (Below.refl _ _).alloc (Nat.le_refl _) _
  have hV2 : V.heap[W.heap.size]? = some (.cells #[.int .i64 e, .int .i64 s] 176 (0, 0)) := by rw [hV.out]; exact heap_alloc_new _ _
  have hEV : EndAt V rb e := (hB2.block _ (by omega)).trans hE
  have hRV : V.heap[w.heap.size]? = some (.cells #[.int .i64 0, .int .i64 0] 176 (0, 0)) := (hB2.block _ hWs).trans hR
  have c0 := cell_blk hEV (i := 0) rfl
  have g0 : V.frozen? ⟨rb, 0, none⟩ = false := by have h := hEV; unfold EndAt at h; simp [World.frozen?, h]
  have HO := Lib.hid (show Only (fun k => k = rb) w V from (Only.of_below hB).trans (Only.of_below hB2))
  have HV2 := Lib.hid hV2; have HEV := Lib.hid hEV; have HRV := Lib.hid hRV; have HWS := Lib.hid hWs
  clear hB hR hE h hB2 hV2 hEV hRV hWs
  obtain ⟨U, hU⟩ : ∃ u, Hid (u = V.setCell ⟨rb, 0, none⟩ (.int .i64 (e + s))) := ⟨_, rfl⟩
  have hOU : Only (fun k => k = rb) V U := by rw [hU.out]; exact Only.setCell V ⟨rb, 0, none⟩ _
  have hEU : EndAt U rb (e + s) := by rw [hU.out]; have := HEV.out; unfold EndAt at this ⊢; simp [World.setCell, Array.getElem?_modify, this]
  have hw := HWS.out
  have hVU : U.heap[W.heap.size]? = some (.cells #[.int .i64 e, .int .i64 s] 176 (0, 0)) := (hOU.block _ (Array.getElem?_eq_some_iff.1 HV2.out).1 (by omega)).trans HV2.out
  have hRU : U.heap[w.heap.size]? = some (.cells #[.int .i64 0, .int .i64 0] 176 (0, 0)) := (hOU.block _ (Array.getElem?_eq_some_iff.1 HRV.out).1 (by omega)).trans HRV.out
  have z0 := cell_blk hVU (i := 0) rfl
  have z1 := cell_blk hVU (i := 1) rfl
  have y0 := cell_blk hRU (i := 0) rfl
  have y1 := cell_blk hRU (i := 1) rfl
  have f0 : U.frozen? ⟨w.heap.size, 0, none⟩ = false := by simp [World.frozen?, hRU]
  have f1 : U.frozen? ⟨w.heap.size, 1, none⟩ = false := by simp [World.frozen?, hRU]
  have HOU := Lib.hid (HO.out.trans hOU); have HEU := Lib.hid hEU; have HRU := Lib.hid hRU
  clear hOU hEU hVU hRU hw
  go_enter Tryz.func148, Tryz.ntmps148
  go_wp2_with (first | (rw [← hW.out]) | (rw [← hV.out]) | (rw [← hU.out]))
  have hRz : ((U.setCell ⟨w.heap.size, 0, none⟩ (.int .i64 e)).setCell ⟨w.heap.size, 1, none⟩ (.int .i64 s)).heap[w.heap.size]? = some (.cells #[.int .i64 e, .int .i64 s] 176 (0, 0)) := by simp [World.setCell, Array.getElem?_modify, HRU.out]
  have hOz := (Only.setCell U ⟨w.heap.size, 0, none⟩ (.int .i64 e)).trans (Only.setCell _ ⟨w.heap.size, 1, none⟩ (.int .i64 s))
  refine bodyPost_ret (results_cell_span rfl _ _ w.heap.size _ _ rfl (cell_blk hRz (i := 0) rfl) (cell_blk hRz (i := 1) rfl)) rfl ⟨rfl, ?_, ?_⟩
  · exact (hOz.block rb (Array.getElem?_eq_some_iff.1 HEU.out).1 (by show ¬ rb = w.heap.size; omega)).trans HEU.out
  · exact ⟨HOU.out.os, HOU.out.tape, HOU.out.output, by simpa using HOU.out.size, fun k hk hne => (hOz.block k (Nat.lt_of_lt_of_le hk HOU.out.size) (by show ¬ k = w.heap.size; omega)).trans (HOU.out.block k hk hne)⟩
end Go.Proofs.YtmhpcgcloojfbaaGreatDoor

namespace Go.Proofs.YtmhpcgcloojfbaaGreatDoor
open Go.RowKit Go.Sort Go.ChangeShapes Go.WideShapes
set_option linter.unusedVariables false
set_option linter.unusedSimpArgs false

/-- The spans of the first n partitions; the source and the destination spans of the first n channels. -/
def pvL (c : Cfg) (n : Nat) : List (List Int) := (List.range n).map (fun i => [privUp c.parts i, fld (row c.parts i) 1])
def srL (c : Cfg) (n : Nat) : List (List Int) := (List.range n).map (fun k => [beforeN c k, srcN (row c.chans k)])
def dsL (c : Cfg) (n : Nat) : List (List Int) := (List.range n).map (fun k => [beforeN c k + srcN (row c.chans k), 1])
theorem pvL_len (c : Cfg) (n : Nat) : (pvL c n).length = n := by simp [pvL]
theorem srL_len (c : Cfg) (n : Nat) : (srL c n).length = n := by simp [srL]
theorem dsL_len (c : Cfg) (n : Nat) : (dsL c n).length = n := by simp [dsL]
theorem pvL_succ (c : Cfg) (n : Nat) : pvL c (n + 1) = pvL c n ++ [[privUp c.parts n, fld (row c.parts n) 1]] := by simp [pvL, List.range_succ]
theorem srL_succ (c : Cfg) (n : Nat) : srL c (n + 1) = srL c n ++ [[beforeN c n, srcN (row c.chans n)]] := by simp [srL, List.range_succ]
theorem dsL_succ (c : Cfg) (n : Nat) : dsL c (n + 1) = dsL c n ++ [[beforeN c n + srcN (row c.chans n), 1]] := by simp [dsL, List.range_succ]
theorem beforeN_zero (c : Cfg) : beforeN c 0 = privUp c.parts c.parts.length := by unfold beforeN; simp [chanUp]
theorem beforeN_succ (c : Cfg) (n : Nat) : beforeN c (n + 1) = beforeN c n + srcN (row c.chans n) + 1 := by
  unfold beforeN
  show privUp c.parts c.parts.length + (chanUp c.chans n + srcN (row c.chans n) + 1) = _
  omega
/-- Two slices own no block together. -/
def Asunder (v u : Value) : Prop := ∀ g, v.ownBlock = some g → u.ownBlock ≠ some g
/-- Three rows of spans under way: their struct lies in block X, the end in block rb below it; W: the world at the start. -/
structure Rows3 (W : World) (X rb : Nat) (vp vs vd : Value) (lp ls ld : List (List Int)) (e : Int) (w : World) : Prop where
  head : w.heap[X]? = some (.cells #[vp, vs, vd] 203 (0, 0))
  rp : OwnsOff w (X + 1) 176 2 vp lp.length (rcells [.i64, .i64] lp)
  rs : OwnsOff w (X + 1) 176 2 vs ls.length (rcells [.i64, .i64] ls)
  rd : OwnsOff w (X + 1) 176 2 vd ld.length (rcells [.i64, .i64] ld)
  ps : Asunder vp vs
  pd : Asunder vp vd
  sd : Asunder vs vd
  en : EndAt w rb e
  lt : rb < X
  only : Only (fun k => k = rb ∨ X ≤ k) W w
section
variable {W w w' : World} {X rb : Nat} {vp vs vd : Value} {lp ls ld : List (List Int)} {e : Int}
theorem Rows3.hx (h : Rows3 W X rb vp vs vd lp ls ld e w) : X < w.heap.size := (Array.getElem?_eq_some_iff.1 h.head).1
theorem Rows3.keptB (h : Rows3 W X rb vp vs vd lp ls ld e w) (hb : Below w.heap.size w w') : Rows3 W X rb vp vs vd lp ls ld e w' :=
  ⟨(hb.block _ h.hx).trans h.head, h.rp.keptB hb, h.rs.keptB hb, h.rd.keptB hb, h.ps, h.pd, h.sd, (hb.block _ (Nat.lt_trans h.lt h.hx)).trans h.en, h.lt, h.only.trans (Only.of_below hb)⟩
theorem Rows3.put {e' : Int} (h : Rows3 W X rb vp vs vd lp ls ld e w) (ho : Only (fun k => k = rb) w w') (he : EndAt w' rb e') : Rows3 W X rb vp vs vd lp ls ld e' w' := by
  have hlt := h.lt
  exact ⟨(ho.block _ h.hx (by show ¬ X = rb; omega)).trans h.head, h.rp.kept ho (fun k hk e => by have := (h.rp.lt k hk).1; have : k = rb := e; omega), h.rs.kept ho (fun k hk e => by have := (h.rs.lt k hk).1; have : k = rb := e; omega),
    h.rd.kept ho (fun k hk e => by have := (h.rd.lt k hk).1; have : k = rb := e; omega), h.ps, h.pd, h.sd, he, h.lt, h.only.trans (ho.mono fun k _ hk => .inl hk)⟩
theorem Rows3.below (h : Rows3 W X rb vp vs vd lp ls ld e w) (hX : X ≤ W.heap.size) : Below rb W w := h.only.below (by have := h.lt; omega) (fun k hk => by have := h.lt; rcases hk with hk | hk <;> omega)
theorem Rows3.free (h : Rows3 W X rb vp vs vd lp ls ld e w) (o : Nat) : w.frozen? ⟨X, o, none⟩ = false := by simp [World.frozen?, h.head]

/-- Behind an append to one of the rows, and the store of what it gave. -/
theorem Rows3.appp {w2 : World} {v' : Value} {l' : List (List Int)} (h : Rows3 W X rb vp vs vd lp ls ld e w) (hX : X ≤ W.heap.size) (hgrow : w.grownBy w2 vp.ownBlock) (hown' : OwnsOff w2 (X + 1) 176 2 v' l'.length (rcells [.i64, .i64] l')) (hfr : ∀ g, v'.ownBlock = some g → vp.ownBlock = some g ∨ w.heap.size ≤ g) :
    w2.heap[X]? = some (.cells #[vp, vs, vd] 203 (0, 0)) ∧ w2.cell? ⟨X, 0, none⟩ = some vp ∧ w2.frozen? ⟨X, 0, none⟩ = false ∧ Rows3 W X rb v' vs vd l' ls ld e (w2.setCell ⟨X, 0, none⟩ v') := by
  have ho := Only.of_grown hgrow
  have hne : ∀ k, some k = vp.ownBlock → X + 1 ≤ k := fun k hk => (h.rp.lt k hk.symm).1
  have hlt := h.lt
  have hhead : w2.heap[X]? = some (.cells #[vp, vs, vd] 203 (0, 0)) := (ho.block X h.hx (fun e => by have := hne X e; omega)).trans h.head
  have hen : EndAt w2 rb e := (ho.block rb (Nat.lt_trans h.lt h.hx) (fun e => by have := hne rb e; omega)).trans h.en
  refine ⟨hhead, by simp [World.cell?, hhead], by simp [World.frozen?, hhead], ?_, (hown'.kept (Only.setCell w2 ⟨X, 0, none⟩ v') (fun k hk e => by have := (hown'.lt k hk).1; have : k = X := e; omega)), ((h.rs.kept ho (fun k hk e => h.ps k e.symm hk)).kept (Only.setCell w2 ⟨X, 0, none⟩ v') (fun k hk e => by have := (h.rs.lt k hk).1; have : k = X := e; omega)), ((h.rd.kept ho (fun k hk e => h.pd k e.symm hk)).kept (Only.setCell w2 ⟨X, 0, none⟩ v') (fun k hk e => by have := (h.rd.lt k hk).1; have : k = X := e; omega)), (fun g hv' hg => by rcases hfr g hv' with h1 | h1; exact h.ps g h1 hg; have := (h.rs.lt g hg).2; omega), (fun g hv' hg => by rcases hfr g hv' with h1 | h1; exact h.pd g h1 hg; have := (h.rd.lt g hg).2; omega), h.sd, ?_, h.lt, ?_⟩
  · simp [World.setCell, Array.getElem?_modify, hhead]
  · exact (Below.heap_setCell _ _ _ _ (by show rb ≠ X; omega)).trans hen
  · exact (h.only.trans (ho.mono fun k _ hk => .inr (by have := hne k hk; omega))).trans ((Only.setCell w2 ⟨X, 0, none⟩ v').mono fun k _ hk => .inr (by have : k = X := hk; omega))

/-- Behind an append to one of the rows, and the store of what it gave. -/
theorem Rows3.apps {w2 : World} {v' : Value} {l' : List (List Int)} (h : Rows3 W X rb vp vs vd lp ls ld e w) (hX : X ≤ W.heap.size) (hgrow : w.grownBy w2 vs.ownBlock) (hown' : OwnsOff w2 (X + 1) 176 2 v' l'.length (rcells [.i64, .i64] l')) (hfr : ∀ g, v'.ownBlock = some g → vs.ownBlock = some g ∨ w.heap.size ≤ g) :
    w2.heap[X]? = some (.cells #[vp, vs, vd] 203 (0, 0)) ∧ w2.cell? ⟨X, 1, none⟩ = some vs ∧ w2.frozen? ⟨X, 1, none⟩ = false ∧ Rows3 W X rb vp v' vd lp l' ld e (w2.setCell ⟨X, 1, none⟩ v') := by
  have ho := Only.of_grown hgrow
  have hne : ∀ k, some k = vs.ownBlock → X + 1 ≤ k := fun k hk => (h.rs.lt k hk.symm).1
  have hlt := h.lt
  have hhead : w2.heap[X]? = some (.cells #[vp, vs, vd] 203 (0, 0)) := (ho.block X h.hx (fun e => by have := hne X e; omega)).trans h.head
  have hen : EndAt w2 rb e := (ho.block rb (Nat.lt_trans h.lt h.hx) (fun e => by have := hne rb e; omega)).trans h.en
  refine ⟨hhead, by simp [World.cell?, hhead], by simp [World.frozen?, hhead], ?_, ((h.rp.kept ho (fun k hk e => h.ps k hk e.symm)).kept (Only.setCell w2 ⟨X, 1, none⟩ v') (fun k hk e => by have := (h.rp.lt k hk).1; have : k = X := e; omega)), (hown'.kept (Only.setCell w2 ⟨X, 1, none⟩ v') (fun k hk e => by have := (hown'.lt k hk).1; have : k = X := e; omega)), ((h.rd.kept ho (fun k hk e => h.sd k e.symm hk)).kept (Only.setCell w2 ⟨X, 1, none⟩ v') (fun k hk e => by have := (h.rd.lt k hk).1; have : k = X := e; omega)), (fun g hg hv' => by rcases hfr g hv' with h1 | h1; exact h.ps g hg h1; have := (h.rp.lt g hg).2; omega), h.pd, (fun g hv' hg => by rcases hfr g hv' with h1 | h1; exact h.sd g h1 hg; have := (h.rd.lt g hg).2; omega), ?_, h.lt, ?_⟩
  · simp [World.setCell, Array.getElem?_modify, hhead]
  · exact (Below.heap_setCell _ _ _ _ (by show rb ≠ X; omega)).trans hen
  · exact (h.only.trans (ho.mono fun k _ hk => .inr (by have := hne k hk; omega))).trans ((Only.setCell w2 ⟨X, 1, none⟩ v').mono fun k _ hk => .inr (by have : k = X := hk; omega))

/-- Behind an append to one of the rows, and the store of what it gave. -/
theorem Rows3.appd {w2 : World} {v' : Value} {l' : List (List Int)} (h : Rows3 W X rb vp vs vd lp ls ld e w) (hX : X ≤ W.heap.size) (hgrow : w.grownBy w2 vd.ownBlock) (hown' : OwnsOff w2 (X + 1) 176 2 v' l'.length (rcells [.i64, .i64] l')) (hfr : ∀ g, v'.ownBlock = some g → vd.ownBlock = some g ∨ w.heap.size ≤ g) :
    w2.heap[X]? = some (.cells #[vp, vs, vd] 203 (0, 0)) ∧ w2.cell? ⟨X, 2, none⟩ = some vd ∧ w2.frozen? ⟨X, 2, none⟩ = false ∧ Rows3 W X rb vp vs v' lp ls l' e (w2.setCell ⟨X, 2, none⟩ v') := by
  have ho := Only.of_grown hgrow
  have hne : ∀ k, some k = vd.ownBlock → X + 1 ≤ k := fun k hk => (h.rd.lt k hk.symm).1
  have hlt := h.lt
  have hhead : w2.heap[X]? = some (.cells #[vp, vs, vd] 203 (0, 0)) := (ho.block X h.hx (fun e => by have := hne X e; omega)).trans h.head
  have hen : EndAt w2 rb e := (ho.block rb (Nat.lt_trans h.lt h.hx) (fun e => by have := hne rb e; omega)).trans h.en
  refine ⟨hhead, by simp [World.cell?, hhead], by simp [World.frozen?, hhead], ?_, ((h.rp.kept ho (fun k hk e => h.pd k hk e.symm)).kept (Only.setCell w2 ⟨X, 2, none⟩ v') (fun k hk e => by have := (h.rp.lt k hk).1; have : k = X := e; omega)), ((h.rs.kept ho (fun k hk e => h.sd k hk e.symm)).kept (Only.setCell w2 ⟨X, 2, none⟩ v') (fun k hk e => by have := (h.rs.lt k hk).1; have : k = X := e; omega)), (hown'.kept (Only.setCell w2 ⟨X, 2, none⟩ v') (fun k hk e => by have := (hown'.lt k hk).1; have : k = X := e; omega)), h.ps, (fun g hg hv' => by rcases hfr g hv' with h1 | h1; exact h.pd g hg h1; have := (h.rp.lt g hg).2; omega), (fun g hg hv' => by rcases hfr g hv' with h1 | h1; exact h.sd g hg h1; have := (h.rs.lt g hg).2; omega), ?_, h.lt, ?_⟩
  · simp [World.setCell, Array.getElem?_modify, hhead]
  · exact (Below.heap_setCell _ _ _ _ (by show rb ≠ X; omega)).trans hen
  · exact (h.only.trans (ho.mono fun k _ hk => .inr (by have := hne k hk; omega))).trans ((Only.setCell w2 ⟨X, 2, none⟩ v').mono fun k _ hk => .inr (by have : k = X := hk; omega))
end
end Go.Proofs.YtmhpcgcloojfbaaGreatDoor

namespace Go.Proofs.YtmhpcgcloojfbaaGreatDoor
open Go.RowKit Go.Sort Go.ChangeShapes Go.WideShapes
set_option linter.unusedVariables false
set_option linter.unusedSimpArgs false

set_option maxRecDepth 100000 in
set_option maxHeartbeats 1600000 in
theorem srcsz_b (x0 x1 x2 x3 x4 x5 x6 : Int) (w : World) (h0 : x0 = 1 ∨ x0 = 2) (h1 : 1 ≤ x3) (h2 : x3 ≤ 16) (h3 : 0 ≤ x4) (h4 : x4 ≤ 8) : Calls Tryz.prog 175 #[.agg #[.int .i64 x0, .int .i64 x1, .int .i64 x2, .int .i64 x3, .int .i64 x4, .int .i64 x5, .int .u32 x6]] w fun e w' => e = .returned (.int .i64 (srcN [x0, x1, x2, x3, x4, x5, x6])) ∧ Below w.heap.size w w' := by
  have h5 : 0 ≤ x4 * x3 := Int.mul_nonneg h3 (by omega)
  have h6 : x4 * x3 ≤ 8 * 16 := Int.mul_le_mul h4 h2 (by omega) (by omega)
  have hm : x4 * (1 + x3) = x4 + x4 * x3 := by rw [Int.mul_add, Int.mul_one]
  obtain ⟨W, hW⟩ : ∃ u, Hid (u = w.alloc (.cells #[.int .i64 x0, .int .i64 x1, .int .i64 x2, .int .i64 x3, .int .i64 x4, .int .i64 x5, .int .u32 x6] 58)) := ⟨_, rfl⟩
  have hBW : Below w.heap.size w W := by rw [hW.out]; exact (Below.refl _ _).alloc (Nat.le_refl _) _
  have hcW : W.heap[w.heap.size]? = some (.cells #[.int .i64 x0, .int .i64 x1, .int .i64 x2, .int .i64 x3, .int .i64 x4, .int .i64 x5, .int .u32 x6] 58 (0, 0)) := by rw [hW.out]; exact heap_alloc_new _ _
  have hlW : w.heap.size < W.heap.size := (Array.getElem?_eq_some_iff.1 hcW).1
  have c0 := cell_blk hcW (i := 0) rfl
  have c1 := cell_blk hcW (i := 1) rfl
  have c2 := cell_blk hcW (i := 2) rfl
  have c3 := cell_blk hcW (i := 3) rfl
  have c4 := cell_blk hcW (i := 4) rfl
  have c5 := cell_blk hcW (i := 5) rfl
  have c6 := cell_blk hcW (i := 6) rfl
  have HB := Lib.hid hBW
  by_cases hk : x0 = 1
  · have HX := Lib.hid (show srcN [x0, x1, x2, x3, x4, x5, x6] = 3 + 4 * (2 + x3) from (if_pos hk).trans (by show 11 + 4 * x3 = _; omega))
    have hka : (x0 == 1) = true := by simp [hk]
    have v0 := IntWalk.i64_in (4 * (2 + x3)) (by omega)
    have v1 := IntWalk.i64_in (3 + 4 * (2 + x3)) (by omega)
    have HC := Lib.hid (bufsz_b x0 x1 x2 x3 x4 x5 x6 W (by omega) h2)
    clear hk h0 hBW hm h5 h6
    go_enter Tryz.func175, Tryz.ntmps175
    go_wp2_with (rw [← hW.out])
    refine HC.out.mono ?_
    rintro e w5 ⟨rfl, hb5⟩
    have HF := Lib.hid (HB.out.trans (hb5.mono HB.out.size))
    clear hb5
    go_wp2
    go_ret
    exact ⟨by rw [HX.out]; rfl, HF.out⟩
  · have HX := Lib.hid (show srcN [x0, x1, x2, x3, x4, x5, x6] = 1 + x4 * (1 + x3) from (if_neg hk).trans (by show 1 + x4 + x4 * x3 = _; omega))
    have hka : (x0 == 1) = false := by simp [hk]
    have v0 := IntWalk.i64_in (x4 * (1 + x3)) (by omega)
    have v1 := IntWalk.i64_in (1 + x4 * (1 + x3)) (by omega)
    have HC := Lib.hid (fun w' => cellsz_b x0 x1 x2 x3 x4 x5 x6 w' (by omega) h2)
    clear hk h0 hm h5 h6
    go_enter Tryz.func175, Tryz.ntmps175
    go_wp2_with (rw [← hW.out])
    clear c0 c1 c2 c3 c4 c5 c6
    refine wp_region_held_drew (S := fun W' => Below W.heap.size W W') (by kernel_rfl) ((Below.refl _ _).drew) (fun hHeld => ?_)
    refine wpAnyH_take (i := 0) rfl (by kernel_rfl) (by kernel_rfl) (by kernel_rfl) (fun _ _ _ h => h) (Or.inl ⟨by rfl, by intro w hSw; (have hq := (hSw.block _ hlW).trans hcW; have q0 := cell_blk hq (i := 0) rfl; have q1 := cell_blk hq (i := 1) rfl; have q2 := cell_blk hq (i := 2) rfl; have q3 := cell_blk hq (i := 3) rfl; have q4 := cell_blk hq (i := 4) rfl; have q5 := cell_blk hq (i := 5) rfl; have q6 := cell_blk hq (i := 6) rfl); (go_simp <;> with_reducible rfl)⟩) (by assumption) ?_
    (try simp only [Act.put, List.setIfInBounds_toArray, List.set_cons_zero, List.set_cons_succ, List.getElem_toArray, List.getElem_cons_zero, List.getElem_cons_succ])
    refine wpAnyH_take (i := 1) rfl (by kernel_rfl) (by kernel_rfl) (by kernel_rfl) (fun _ _ _ h => h) (Or.inl ⟨by rfl, by intro w hSw; (have hq := (hSw.block _ hlW).trans hcW; have q0 := cell_blk hq (i := 0) rfl; have q1 := cell_blk hq (i := 1) rfl; have q2 := cell_blk hq (i := 2) rfl; have q3 := cell_blk hq (i := 3) rfl; have q4 := cell_blk hq (i := 4) rfl; have q5 := cell_blk hq (i := 5) rfl; have q6 := cell_blk hq (i := 6) rfl); (go_simp <;> with_reducible rfl)⟩) (by assumption) ?_
    (try simp only [Act.put, List.setIfInBounds_toArray, List.set_cons_zero, List.set_cons_succ, List.getElem_toArray, List.getElem_cons_zero, List.getElem_cons_succ])
    refine wpAnyH_take (i := 2) rfl (by kernel_rfl) (by kernel_rfl) (by kernel_rfl) (fun _ _ _ h => h) (Or.inl ⟨by rfl, by intro w hSw; (have hq := (hSw.block _ hlW).trans hcW; have q0 := cell_blk hq (i := 0) rfl; have q1 := cell_blk hq (i := 1) rfl; have q2 := cell_blk hq (i := 2) rfl; have q3 := cell_blk hq (i := 3) rfl; have q4 := cell_blk hq (i := 4) rfl; have q5 := cell_blk hq (i := 5) rfl; have q6 := cell_blk hq (i := 6) rfl); (go_simp <;> with_reducible rfl)⟩) (by assumption) ?_
    (try simp only [Act.put, List.setIfInBounds_toArray, List.set_cons_zero, List.set_cons_succ, List.getElem_toArray, List.getElem_cons_zero, List.getElem_cons_succ])
    refine wpAnyH_ready (rs := [3]) (by kernel_rfl) (by simp) (AllReadyH.cons rfl (fun K hK => ?_) AllReadyH.nil)
    go_simp
    refine (HC.out _).mono ?_
    rintro e w6 ⟨rfl, hl⟩
    (try go_wp2_with fail)
    have hB6 := hHeld.trans (hl.mono hHeld.size)
    clear hl hHeld
    refine hK.out _ _ hB6 (fun hHeld => ?_)
    clear hK K
    (try simp only [Act.put, List.setIfInBounds_toArray, List.set_cons_zero, List.set_cons_succ, List.getElem_toArray, List.getElem_cons_zero, List.getElem_cons_succ])
    refine wpAnyH_take (i := 4) rfl (by kernel_rfl) (by kernel_rfl) (by kernel_rfl) (fun _ _ _ h => h) (Or.inl ⟨by rfl, by intro w hSw; (have hq := (hSw.block _ hlW).trans hcW; have q0 := cell_blk hq (i := 0) rfl; have q1 := cell_blk hq (i := 1) rfl; have q2 := cell_blk hq (i := 2) rfl; have q3 := cell_blk hq (i := 3) rfl; have q4 := cell_blk hq (i := 4) rfl; have q5 := cell_blk hq (i := 5) rfl; have q6 := cell_blk hq (i := 6) rfl); (go_simp <;> with_reducible rfl)⟩) (by assumption) ?_
    (try simp only [Act.put, List.setIfInBounds_toArray, List.set_cons_zero, List.set_cons_succ, List.getElem_toArray, List.getElem_cons_zero, List.getElem_cons_succ])
    refine wpAnyH_take (i := 5) rfl (by kernel_rfl) (by kernel_rfl) (by kernel_rfl) (fun _ _ _ h => h) (Or.inl ⟨by rfl, by intro w hSw; (have hq := (hSw.block _ hlW).trans hcW; have q0 := cell_blk hq (i := 0) rfl; have q1 := cell_blk hq (i := 1) rfl; have q2 := cell_blk hq (i := 2) rfl; have q3 := cell_blk hq (i := 3) rfl; have q4 := cell_blk hq (i := 4) rfl; have q5 := cell_blk hq (i := 5) rfl; have q6 := cell_blk hq (i := 6) rfl); (go_simp <;> with_reducible rfl)⟩) (by assumption) ?_
    (try simp only [Act.put, List.setIfInBounds_toArray, List.set_cons_zero, List.set_cons_succ, List.getElem_toArray, List.getElem_cons_zero, List.getElem_cons_succ])
    refine wpAnyH_take (i := 6) rfl (by kernel_rfl) (by kernel_rfl) (by kernel_rfl) (fun _ _ _ h => h) (Or.inl ⟨by rfl, by intro w hSw; (have hq := (hSw.block _ hlW).trans hcW; have q0 := cell_blk hq (i := 0) rfl; have q1 := cell_blk hq (i := 1) rfl; have q2 := cell_blk hq (i := 2) rfl; have q3 := cell_blk hq (i := 3) rfl; have q4 := cell_blk hq (i := 4) rfl; have q5 := cell_blk hq (i := 5) rfl; have q6 := cell_blk hq (i := 6) rfl); (go_simp <;> with_reducible rfl)⟩) (by assumption) ?_
    (try simp only [Act.put, List.setIfInBounds_toArray, List.set_cons_zero, List.set_cons_succ, List.getElem_toArray, List.getElem_cons_zero, List.getElem_cons_succ])
    refine wpAnyH_done (by kernel_rfl) ?_ _
    have HF := Lib.hid (HB.out.trans (hB6.mono HB.out.size))
    clear hHeld hB6 hBW
    go_wp2
    go_ret
    exact ⟨by rw [HX.out]; rfl, HF.out⟩
end Go.Proofs.YtmhpcgcloojfbaaGreatDoor
