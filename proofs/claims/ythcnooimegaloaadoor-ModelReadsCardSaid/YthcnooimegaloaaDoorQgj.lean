/- Texts of the ring, joined, what is used of them. No condition but those in the statements. -/
import Derived.Test.YthcnooimegaloaaDoorProg
import Derived.BigQuiet
import Derived.BigRegion
import Derived.IntWalk
import Derived.Laws.EntriesVeiled
import Derived.Lib.SmallJoins
import Derived.Test.YthcnooimegaloaaDoorQga
import Derived.Test.YthcnooimegaloaaDoorQgc
import Derived.Test.YthcnooimegaloaaDoorQge
import Derived.Test.YthcnooimegaloaaDoorQgi
section
namespace Go.Proofs.YthcnooimegaloaaDoor
open Go.RowKit Go.Sort
theorem same17 {c : Cfg} (h2 : holdsB c 2 = false) : holdsP c 17 = holdsB c 17 := by
  have b2 : ∀ i, i < c.parts.length → partBad c 2 i = false := scan_false.1 h2
  unfold holdsP
  rw [if_pos rfl]
  show _ = scan c.parts.length (fun i => partBad c 17 i)
  refine scan_congr fun i hi => ?_
  show (!windowP c i) = !windowB c i
  congr 1
  have hc := of_decide_eq_false (show decide (fld (row c.parts i) 0 ≠ 0 ∧ fld (row c.parts i) 0 ≠ 1) = false from b2 i hi)
  unfold windowP windowB
  by_cases h0 : fld (row c.parts i) 0 = 0
  · rw [if_pos h0, if_pos h0]; rfl
  · have h1 : fld (row c.parts i) 0 = 1 := by omega
    rw [if_neg h0, if_neg h0, if_pos h1, if_pos h1]; rfl
theorem nil_of {f : Int → Bool} (h : ∀ k : Int, 1 ≤ k → k ≤ 17 → f k = false) : ((List.range 17).map (fun i : Nat => (i : Int) + 1)).filter f = [] := by
  rw [List.filter_eq_nil_iff]
  intro k hk
  obtain ⟨i, hi, rfl⟩ := List.mem_map.1 hk
  have hi := List.mem_range.1 hi
  rw [h _ (by omega) (by omega)]
  decide
theorem same_list {c : Cfg} : allP c 17 = [] ↔ allB c 17 = [] := by
  constructor
  · intro h
    have h2 : holdsB c 2 = false := by rw [← holdsP_not (c := c) (k := 2) (by decide)]; exact allP_nil h (by decide) (by decide)
    refine nil_of fun k a b => ?_
    by_cases h17 : k = 17
    · subst h17; rw [← same17 h2]; exact allP_nil h (by decide) (by decide)
    · rw [← holdsP_not h17]; exact allP_nil h a b
  · intro h
    have h2 : holdsB c 2 = false := allB_nil h (by decide) (by decide)
    refine nil_of fun k a b => ?_
    by_cases h17 : k = 17
    · subst h17; rw [same17 h2]; exact allB_nil h (by decide) (by decide)
    · rw [holdsP_not h17]; exact allB_nil h a b
/-- With acceptsP as in l07z.py: decide (allP c 17 = []). -/
theorem accepts_same (c : Cfg) : decide (allP c 17 = []) = acceptsB c := by
  unfold acceptsB
  exact decide_eq_decide.2 same_list
end Go.Proofs.YthcnooimegaloaaDoor
end
section
namespace Go.Proofs.YthcnooimegaloaaDoor
open Go.RowKit Go.Sort Go.ChangeShapes Go.WideShapes
set_option linter.unusedVariables false
set_option linter.unusedSimpArgs false
/-- The spans of a layout: none, of a configuration that isn't accepted. -/
def PV (c : Cfg) : List (List Int) := if acceptsB c = true then pvL c c.parts.length else []
def SR (c : Cfg) : List (List Int) := if acceptsB c = true then srL c c.chans.length else []
def DS (c : Cfg) : List (List Int) := if acceptsB c = true then dsL c c.chans.length else []
/-- A call that hands back the three rows of a configuration's layout, in new memory. -/
def GivesPlaces (w : World) (c : Cfg) (e : Ending) (w' : World) : Prop := ∃ vp vs vd, e = .returned (.agg #[vp, vs, vd]) ∧ OwnsOff w' w.heap.size 119 2 vp (PV c).length (rcells [.i64, .i64] (PV c)) ∧
  OwnsOff w' w.heap.size 119 2 vs (SR c).length (rcells [.i64, .i64] (SR c)) ∧ OwnsOff w' w.heap.size 119 2 vd (DS c).length (rcells [.i64, .i64] (DS c)) ∧ Below w.heap.size w w'
set_option maxRecDepth 100000 in
set_option maxHeartbeats 1600000 in
theorem lay_b (c : Cfg) (x : CfgAt) (w : World) (hx : CfgIn w w.heap.size c x) (wx : CfgWf c) (lx : CfgFew c) : Calls Tryd.prog 55 #[.agg (cfgCells c x)] w (GivesPlaces w c) := by
  obtain ⟨W, hW⟩ : ∃ u, Hid (u = (w.alloc (.cells (cfgCells c x) 31)).alloc (.cells #[.slice none 0 0, .slice none 0 0, .slice none 0 0] 127)) := ⟨_, rfl⟩
  have hb0 : Below w.heap.size w W := by rw [hW.out]; exact ((Below.refl _ w).alloc (Nat.le_refl _) _).alloc (by simp) _
  have hs0 : W.heap.size = w.heap.size + 2 := by rw [hW.out]; simp
  have hCb : CBox W w.heap.size c x := by rw [hW.out]; exact (cbox_new w c x 31).on ((Below.refl _ _).alloc (Nat.le_refl _) _)
  have hR : W.heap[w.heap.size + 1]? = some (.cells #[.slice none 0 0, .slice none 0 0, .slice none 0 0] 127 (0, 0)) := by
    rw [hW.out]
    have := heap_alloc_new (w.alloc (.cells (cfgCells c x) 31)) (.cells #[.slice none 0 0, .slice none 0 0, .slice none 0 0] 127)
    simpa using this
  obtain ⟨c0, c1, c2, c3, c4, c5⟩ := hCb W (Below.refl _ _)
  have hxW := hx.later hb0
  obtain ⟨q, hq⟩ : ∃ q, acceptsB c = q := ⟨_, rfl⟩
  have HA := Lib.hid (accepts_b c x q W hxW wx lx (by rw [← hq, ← accepts_same]; rfl))
  have HQ := Lib.hid hq; have HB := Lib.hid hb0; have HS := Lib.hid hs0; have HR := Lib.hid hR; have HX := Lib.hid hxW
  simp only [cfgCells] at hW HA ⊢
  clear hb0 hs0 hR hx hxW hq
  cases q with
  | false =>
    have hp : PV c = [] := if_neg (by rw [HQ.out]; decide)
    have hs : SR c = [] := if_neg (by rw [HQ.out]; decide)
    have hd : DS c = [] := if_neg (by rw [HQ.out]; decide)
    have HP := Lib.hid hp; have HSS := Lib.hid hs; have HD := Lib.hid hd
    clear hp hs hd
    go_enter Tryd.func55, Tryd.ntmps55
    go_wp2_with (rw [← hW.out])
    refine HA.out.mono ?_
    rintro e w5 ⟨rfl, hb5⟩
    have hR5 := (hb5.block _ (Array.getElem?_eq_some_iff.1 HR.out).1).trans HR.out
    have f0 : w5.frozen? ⟨w.heap.size + 1, 0, none⟩ = false := by simp [World.frozen?, hR5]
    have f1 : w5.frozen? ⟨w.heap.size + 1, 1, none⟩ = false := by simp [World.frozen?, hR5]
    have f2 : w5.frozen? ⟨w.heap.size + 1, 2, none⟩ = false := by simp [World.frozen?, hR5]
    have y0 := cell_blk hR5 (i := 0) rfl
    have y1 := cell_blk hR5 (i := 1) rfl
    have y2 := cell_blk hR5 (i := 2) rfl
    have HR5 := Lib.hid hR5
    have HF := Lib.hid (HB.out.trans (hb5.mono HB.out.size))
    clear hb5 hR5 c0 c1 c2 c3 c4 c5 HA
    go_wp2
    have hRz : (((w5.setCell ⟨w.heap.size + 1, 0, none⟩ (.slice none 0 0)).setCell ⟨w.heap.size + 1, 1, none⟩ (.slice none 0 0)).setCell ⟨w.heap.size + 1, 2, none⟩ (.slice none 0 0)).heap[w.heap.size + 1]? = some (.cells #[.slice none 0 0, .slice none 0 0, .slice none 0 0] 127 (0, 0)) := by simp [World.setCell, Array.getElem?_modify, HR5.out]
    exact bodyPost_ret (results_cell_places rfl _ _ (w.heap.size + 1) _ _ _ rfl (cell_blk hRz (i := 0) rfl) (cell_blk hRz (i := 1) rfl) (cell_blk hRz (i := 2) rfl)) rfl
      ⟨_, _, _, rfl, by rw [HP.out]; exact OwnsOff.nil _ _ _ _, by rw [HSS.out]; exact OwnsOff.nil _ _ _ _, by rw [HD.out]; exact OwnsOff.nil _ _ _ _, ((HF.out.setCell (p := ⟨w.heap.size + 1, 0, none⟩) (by simp) _).setCell (p := ⟨w.heap.size + 1, 1, none⟩) (by simp) _).setCell (p := ⟨w.heap.size + 1, 2, none⟩) (by simp) _⟩
  | true =>
    have hp : PV c = pvL c c.parts.length := if_pos HQ.out
    have hs : SR c = srL c c.chans.length := if_pos HQ.out
    have hd : DS c = dsL c c.chans.length := if_pos HQ.out
    have HP := Lib.hid hp; have HSS := Lib.hid hs; have HD := Lib.hid hd; have HAC := Lib.hid (accd_of HQ.out)
    clear hp hs hd
    go_enter Tryd.func55, Tryd.ntmps55
    go_wp2_with (rw [← hW.out])
    refine HA.out.mono ?_
    rintro e w5 ⟨rfl, hb5⟩
    have hEa := heap_alloc_new w5 (.cells #[.int .i64 0] 135)
    obtain ⟨w6, hw6⟩ : ∃ u, Hid (u = w5.alloc (.cells #[.int .i64 0] 135)) := ⟨_, rfl⟩
    rw [← hw6.out] at hEa
    have hb6 : Below w5.heap.size w5 w6 := by rw [hw6.out]; exact (Below.refl _ _).alloc (Nat.le_refl _) _
    have hB6 := hb5.trans (hb6.mono hb5.size)
    have hR6 := (hB6.block _ (Array.getElem?_eq_some_iff.1 HR.out).1).trans HR.out
    have hin : CfgIn w6 w5.heap.size c x := (HX.out.below hB6).more hb5.size
    have HST := Lib.hid (stand_b c x w5.heap.size w6 hin wx HAC.out hEa)
    obtain ⟨d0, d1, d2, d3, d4, d5⟩ := hCb _ hB6
    have HB6 := Lib.hid hB6; have HR6 := Lib.hid hR6; have H5S := Lib.hid hb5.size
    simp only [cfgCells] at HST
    clear hb5 hR6 c0 c1 c2 c3 c4 c5 HA hEa hb6 hB6 hin
    go_wp2_with (rw [← hw6.out])
    refine HST.out.mono ?_
    rintro e w7 ⟨vp, vs, vd, rfl, r1, r2, r3, ho⟩
    have hb7 : Below W.heap.size W w7 := HB6.out.trans (ho.below (B := W.heap.size) HB6.out.size (fun k hk => by have : k = w5.heap.size := hk; have := H5S.out; omega))
    have hR7 := (hb7.block _ (Array.getElem?_eq_some_iff.1 HR.out).1).trans HR.out
    have f0 : w7.frozen? ⟨w.heap.size + 1, 0, none⟩ = false := by simp [World.frozen?, hR7]
    have f1 : w7.frozen? ⟨w.heap.size + 1, 1, none⟩ = false := by simp [World.frozen?, hR7]
    have f2 : w7.frozen? ⟨w.heap.size + 1, 2, none⟩ = false := by simp [World.frozen?, hR7]
    have y0 := cell_blk hR7 (i := 0) rfl
    have y1 := cell_blk hR7 (i := 1) rfl
    have y2 := cell_blk hR7 (i := 2) rfl
    have s6 := HB6.out.size
    have s0 := HS.out
    have HR7 := Lib.hid hR7; have HB7 := Lib.hid hb7; have H1 := Lib.hid r1; have H2 := Lib.hid r2; have H3 := Lib.hid r3
    obtain ⟨A1, k1, rfl, _⟩ := r1.slice
    obtain ⟨A2, k2, rfl, _⟩ := r2.slice
    obtain ⟨A3, k3, rfl, _⟩ := r3.slice
    clear hb7 hR7 r1 r2 r3 ho d0 d1 d2 d3 d4 d5
    go_wp2
    have hRz : (((w7.setCell ⟨w.heap.size + 1, 0, none⟩ (.slice A1 c.parts.length k1)).setCell ⟨w.heap.size + 1, 1, none⟩ (.slice A2 c.chans.length k2)).setCell ⟨w.heap.size + 1, 2, none⟩ (.slice A3 c.chans.length k3)).heap[w.heap.size + 1]? = some (.cells #[.slice A1 c.parts.length k1, .slice A2 c.chans.length k2, .slice A3 c.chans.length k3] 127 (0, 0)) := by simp [World.setCell, Array.getElem?_modify, HR7.out]
    have hO := ((Only.setCell w7 ⟨w.heap.size + 1, 0, none⟩ (.slice A1 c.parts.length k1)).trans (Only.setCell _ ⟨w.heap.size + 1, 1, none⟩ (.slice A2 c.chans.length k2))).trans (Only.setCell _ ⟨w.heap.size + 1, 2, none⟩ (.slice A3 c.chans.length k3))
    have keep : ∀ {v n xs}, OwnsOff w7 w6.heap.size 119 2 v n xs → OwnsOff _ w.heap.size 119 2 v n xs := fun h => (h.kept hO (fun k hk e => by have := (h.lt k hk).1; have : k = w.heap.size + 1 := e; omega)).mono (by omega)
    refine bodyPost_ret (results_cell_places rfl _ _ (w.heap.size + 1) _ _ _ rfl (cell_blk hRz (i := 0) rfl) (cell_blk hRz (i := 1) rfl) (cell_blk hRz (i := 2) rfl)) rfl ⟨_, _, _, rfl, ?_, ?_, ?_, ?_⟩
    · rw [HP.out, pvL_len]; exact keep H1.out
    · rw [HSS.out, srL_len]; exact keep H2.out
    · rw [HD.out, dsL_len]; exact keep H3.out
    · exact (HB.out.trans (HB7.out.mono HB.out.size)).trans (hO.below (Nat.le_trans HB.out.size HB7.out.size) (fun k hk => by have : k = w.heap.size + 1 := hk; omega))
end Go.Proofs.YthcnooimegaloaaDoor
end
section
namespace Go.Proofs.YthcnooimegaloaaDoor
open Go.RowKit Go.Sort Go.ChangeShapes Go.WideShapes
set_option linter.unusedVariables false
set_option linter.unusedSimpArgs false
theorem i64_of {n : Int} (h : -9223372036854775808 ≤ n ∧ n ≤ 9223372036854775807) : (Lit.int .i64 n).wf = true := by
  simp [Lit.wf, IntKind.min, IntKind.max, IntKind.signed, IntKind.bits]; omega
theorem span2_wf {a b : Int} (h0 : -9223372036854775808 ≤ a ∧ a ≤ 9223372036854775807) (h1 : -9223372036854775808 ≤ b ∧ b ≤ 9223372036854775807) : wfN [.i64, .i64] [a, b] :=
  wfN2_mk (i64_of h0) (i64_of h1)
theorem pvL_at (c : Cfg) {n i : Nat} (h : i < n) : (pvL c n)[i]? = some [privUp c.parts i, fld (row c.parts i) 1] := by simp [pvL, h]
theorem PV_len (c : Cfg) : (PV c).length ≤ 1000000 := by
  unfold PV
  split
  · rw [pvL_len]; have := (accd_of (by assumption)).parts; omega
  · simp
theorem PV_wf (c : Cfg) : wfR [.i64, .i64] (PV c) := by
  unfold PV
  split
  · rename_i h
    have ha := accd_of h
    intro q hq
    obtain ⟨i, hi, rfl⟩ := List.mem_map.1 hq
    have hi := List.mem_range.1 hi
    have h1 := privUp_in ha i (by omega)
    have h2 := ha.priv i hi
    have h3 := ha.parts
    exact span2_wf (by omega) (by omega)
  · intro q hq; cases hq
theorem nthS_at {l : List (List Int)} {i : Nat} {a b : Int} (h : l[i]? = some [a, b]) : nthS l (i : Int) = (a, b) := by
  have hi := (List.getElem?_eq_some_iff.1 h).1
  unfold nthS
  rw [if_pos (by omega), Int.toNat_natCast, row_at h]
  rfl
theorem nthS_out {l : List (List Int)} {n : Int} (h : ¬ (0 ≤ n ∧ n < (l.length : Int))) : nthS l n = (0, 0) := if_neg h
theorem nthS_pv (c : Cfg) (p : Int) : nthS (PV c) p = privSpan c p := by
  unfold PV privSpan
  cases hq : acceptsB c with
  | false => rw [if_neg (by decide), if_neg (by simp)]; exact nthS_out (by simp)
  | true =>
    rw [if_pos rfl]
    by_cases h : 0 ≤ p ∧ p < (c.parts.length : Int)
    · obtain ⟨k, rfl⟩ := Int.eq_ofNat_of_zero_le h.1
      rw [if_pos ⟨rfl, h⟩, Int.toNat_natCast]
      exact nthS_at (pvL_at c (by omega))
    · rw [if_neg (fun h' => h h'.2)]
      exact nthS_out (by rw [pvL_len]; exact h)
end Go.Proofs.YthcnooimegaloaaDoor
namespace Go.Proofs.YthcnooimegaloaaDoor
open Go.RowKit Go.Sort Go.ChangeShapes Go.WideShapes
set_option linter.unusedVariables false
set_option linter.unusedSimpArgs false
theorem run_places0 (A1 A2 A3 : Option Addr) (n1 n2 n3 k1 k2 k3 : Nat) (w : World) : (Instr.field 127 (.agg #[.slice A1 n1 k1, .slice A2 n2 k2, .slice A3 n3 k3]) 0).run Tryd.prog w = .ok (.slice A1 n1 k1) w := by kernel_rfl
set_option maxRecDepth 100000 in
set_option maxHeartbeats 1600000 in
theorem private_b (c : Cfg) (x : CfgAt) (p : Int) (w : World) (hx : CfgIn w w.heap.size c x) (wx : CfgWf c) (lx : CfgFew c) : Calls Tryd.prog 50 #[.agg (cfgCells c x), .int .i64 p] w fun e w' => e = .returned (.agg #[.int .i64 (privSpan c p).1, .int .i64 (privSpan c p).2]) ∧ Below w.heap.size w w' := by
  obtain ⟨Wc, HWc, hBc, hWs, bx⟩ := one_cbox w c x 31
  obtain ⟨pa, pc, ca, cc, aa, ac, ba, bc⟩ := x
  obtain ⟨W, HW⟩ : ∃ u, Hid (u = Wc.alloc (.cells #[.int .i64 0, .int .i64 0] 119)) := ⟨_, rfl⟩
  obtain ⟨r, hr⟩ : ∃ r, r = Wc.heap.size := ⟨_, rfl⟩
  have hrr : Wc.heap.size ≤ r := by omega
  have hR : W.heap[r]? = some (.cells #[.int .i64 0, .int .i64 0] 119 (0, 0)) := by rw [HW.out, hr]; exact heap_alloc_new _ _
  have hBW : Below Wc.heap.size Wc W := by rw [HW.out]; exact (Below.refl _ _).alloc (Nat.le_refl _) _
  have hxW := hx.later (hBc.trans (hBW.mono hBc.size))
  obtain ⟨c0, c1, c2, c3, c4, c5⟩ := bx _ hBW
  have HB := Lib.hid hBc; have HR0 := Lib.hid hR; have HBW := Lib.hid hBW; have HXW := Lib.hid hxW; have HXC := Lib.hid (hx.later hBc); have HRR := Lib.hid hr
  simp only [cfgCells] at HWc ⊢
  clear hBc hR hBW hxW hx hr hWs
  have HLY := Lib.hid (lay_b c ⟨pa, pc, ca, cc, aa, ac, ba, bc⟩ W HXW.out wx lx)
  have HN := Lib.hid (fun A cap w' (hr : RowN [.i64, .i64] w' w'.heap.size A (PV c)) => nth_b (PV c) A cap p w' hr (PV_wf c) (PV_len c))
  rw [nthS_pv] at HN
  simp only [cfgCells] at HLY
  go_enter Tryd.func50, Tryd.ntmps50
  go_wp2_with (first | (rw [← HWc.out]) | (rw [← HW.out]))
  refine HLY.out.mono ?_
  rintro e w5 ⟨vp, vs, vd, rfl, r1, r2, r3, hb5⟩
  obtain ⟨A, cap, rfl, _, _, hrow, _, _⟩ := OwnsOff.rowN (ks := [.i64, .i64]) r1 (PV_wf c)
  obtain ⟨A2, k2, rfl, _⟩ := r2.slice
  obtain ⟨A3, k3, rfl, _⟩ := r3.slice
  have HC := Lib.hid (HN.out A cap w5 hrow)
  have HR5 := Lib.hid ((hb5.block r (Array.getElem?_eq_some_iff.1 HR0.out).1).trans HR0.out)
  have HB5 := Lib.hid (HBW.out.trans (hb5.mono HBW.out.size))
  clear hb5 r1 r2 r3 c0 c1 c2 c3 c4 c5 hrow
  have hfd := run_places0
  go_wp2_with fail
  clear hfd
  refine HC.out.mono ?_
  rintro e w6 ⟨rfl, hb6⟩
  have hR6 := (hb6.block r (Array.getElem?_eq_some_iff.1 HR5.out).1).trans HR5.out
  have z0 := cell_blk hR6 (i := 0) rfl
  have z1 := cell_blk hR6 (i := 1) rfl
  have f0 : w6.frozen? ⟨r, 0, none⟩ = false := by simp [World.frozen?, hR6]
  have f1 : w6.frozen? ⟨r, 1, none⟩ = false := by simp [World.frozen?, hR6]
  have HR6 := Lib.hid hR6
  have HF := Lib.hid (HB.out.trans ((HB5.out.trans (hb6.mono HB5.out.size)).mono HB.out.size))
  obtain ⟨y0, hy0⟩ : ∃ y0, (privSpan c p).1 = y0 := ⟨_, rfl⟩
  obtain ⟨y1, hy1⟩ : ∃ y1, (privSpan c p).2 = y1 := ⟨_, rfl⟩
  simp only [hy0, hy1]
  have HY0 := Lib.hid hy0; have HY1 := Lib.hid hy1
  clear hb6 hR6 hy0 hy1
  simp only [← HRR.out]
  go_wp2
  have hRz : ((w6.setCell ⟨r, 0, none⟩ (.int .i64 y0)).setCell ⟨r, 1, none⟩ (.int .i64 y1)).heap[r]? = some (.cells #[.int .i64 y0, .int .i64 y1] 119 (0, 0)) := by simp [World.setCell, Array.getElem?_modify, HR6.out]
  refine bodyPost_ret (results_cell_span rfl _ _ r y0 y1 rfl (cell_blk hRz (i := 0) rfl) (cell_blk hRz (i := 1) rfl)) rfl ⟨by rw [HY0.out, HY1.out], (HF.out.setCell (p := ⟨r, 0, none⟩) ?_ _).setCell (p := ⟨r, 1, none⟩) ?_ _⟩ <;> (have := HB.out.size; show w.heap.size ≤ r; omega)
end Go.Proofs.YthcnooimegaloaaDoor
end
section
namespace Go.Proofs.YthcnooimegaloaaDoor
namespace One
/-- Is a span right? -/
def rightB (f s : Int) : Bool := decide (0 ≤ f ∧ f ≤ 2147483647 ∧ 0 ≤ s ∧ s ≤ 2147483647 - f)
/-- Has it that address? -/
def hasB (f s x : Int) : Bool := rightB f s && decide (f ≤ x ∧ x < f + s)
theorem rightB_yes {f s : Int} : rightB f s = true ↔ 0 ≤ f ∧ f ≤ 2147483647 ∧ 0 ≤ s ∧ s ≤ 2147483647 - f := by
  unfold rightB; exact decide_eq_true_iff
theorem rightB_no {f s : Int} : rightB f s = false ↔ ¬ (0 ≤ f ∧ f ≤ 2147483647 ∧ 0 ≤ s ∧ s ≤ 2147483647 - f) := by
  unfold rightB; exact decide_eq_false_iff_not
theorem hasB_yes {f s x : Int} : hasB f s x = true ↔ (0 ≤ f ∧ f ≤ 2147483647 ∧ 0 ≤ s ∧ s ≤ 2147483647 - f) ∧ f ≤ x ∧ x < f + s := by
  unfold hasB; rw [Bool.and_eq_true, rightB_yes, decide_eq_true_iff]
end One
end Go.Proofs.YthcnooimegaloaaDoor
end
section
namespace Go.Proofs.YthcnooimegaloaaDoor
namespace One
open Go.RowKit Go.Sort
set_option linter.unusedVariables false
set_option linter.unusedSimpArgs false
theorem right_b (f s : Int) (w : World) :
    Calls Tryd.prog 52 #[.agg #[.int .i64 f, .int .i64 s]] w fun e w' => e = .returned (.bool (rightB f s)) ∧ Below w.heap.size w w' := by
  by_cases h1 : 0 ≤ f
  · by_cases h2 : f ≤ 2147483647
    · by_cases h3 : 0 ≤ s
      · by_cases h4 : s ≤ 2147483647 - f
        · rw [rightB_yes.2 ⟨h1, h2, h3, by omega⟩]
          go_enter Tryd.func52, Tryd.ntmps52
          go_wp2
          go_ret
          exact ⟨rfl, (Below.refl _ _).alloc (Nat.le_refl _) _⟩
        · rw [rightB_no.2 (by omega)]
          go_enter Tryd.func52, Tryd.ntmps52
          go_wp2
          go_ret
          exact ⟨rfl, (Below.refl _ _).alloc (Nat.le_refl _) _⟩
      · rw [rightB_no.2 (by omega)]
        go_enter Tryd.func52, Tryd.ntmps52
        go_wp2
        go_ret
        exact ⟨rfl, (Below.refl _ _).alloc (Nat.le_refl _) _⟩
    · rw [rightB_no.2 (by omega)]
      go_enter Tryd.func52, Tryd.ntmps52
      go_wp2
      go_ret
      exact ⟨rfl, (Below.refl _ _).alloc (Nat.le_refl _) _⟩
  · rw [rightB_no.2 (by omega)]
    go_enter Tryd.func52, Tryd.ntmps52
    go_wp2
    go_ret
    exact ⟨rfl, (Below.refl _ _).alloc (Nat.le_refl _) _⟩
theorem end_b (f s : Int) (w : World) (h : rightB f s = true) :
    Calls Tryd.prog 53 #[.agg #[.int .i64 f, .int .i64 s]] w fun e w' => e = .returned (.int .i64 (f + s)) ∧ Below w.heap.size w w' := by
  obtain ⟨h1, h2, h3, h4⟩ := rightB_yes.1 h
  clear h
  go_enter Tryd.func53, Tryd.ntmps53
  go_wp2
  go_ret
  exact ⟨rfl, (Below.refl _ _).alloc (Nat.le_refl _) _⟩
theorem has_b (f s x : Int) (w : World) :
    Calls Tryd.prog 49 #[.agg #[.int .i64 f, .int .i64 s], .int .i64 x] w fun e w' => e = .returned (.bool (hasB f s x)) ∧ Below w.heap.size w w' := by
  obtain ⟨W, HW, hbw, hsz, k0, k1⟩ := one_box w (.int .i64 f) (.int .i64 s) 119
  by_cases hr : rightB f s = true
  · by_cases h0 : f ≤ x
    · rw [show hasB f s x = decide (x < f + s) by unfold hasB; simp [hr, h0]]
      go_enter Tryd.func49, Tryd.ntmps49
      have hbc := Below.refl W.heap.size W
      go_wp2_with ((try rw [← HW.out]); (first | with_reducible refine wpList_on hbc ?_ | with_reducible refine wp_on hbc (by kernel_rfl) (by kernel_rfl) ?_); (repeat (go_big_quiet_step (first | exact regrown_is (by assumption) (right_b _ _ _) | exact Calls.regrown_of (right_b _ _ _) | exact Calls.regrown_of (end_b _ _ _ (by assumption))))); with_reducible refine wpQuiet_nil ?_; intro wc hbc)
      go_ret
      exact ⟨by simp [*], hbw.trans (hbc.mono (by omega))⟩
    · rw [(bool_of hasB_yes).2 (by omega)]
      have h0' : decide (f ≤ x) = false := by simpa using h0
      go_enter Tryd.func49, Tryd.ntmps49
      have hbc := Below.refl W.heap.size W
      go_wp2_with ((try rw [← HW.out]); (first | with_reducible refine wpList_on hbc ?_ | with_reducible refine wp_on hbc (by kernel_rfl) (by kernel_rfl) ?_); (repeat (go_big_quiet_step (first | exact regrown_is (by assumption) (right_b _ _ _) | exact Calls.regrown_of (right_b _ _ _) | exact Calls.regrown_of (end_b _ _ _ (by assumption))))); with_reducible refine wpQuiet_nil ?_; intro wc hbc)
      go_ret
      exact ⟨by simp [*], hbw.trans (hbc.mono (by omega))⟩
  · have hr' : rightB f s = false := by simpa using hr
    rw [show hasB f s x = false by unfold hasB; simp [hr']]
    go_enter Tryd.func49, Tryd.ntmps49
    have hbc := Below.refl W.heap.size W
    go_wp2_with ((try rw [← HW.out]); (first | with_reducible refine wpList_on hbc ?_ | with_reducible refine wp_on hbc (by kernel_rfl) (by kernel_rfl) ?_); (repeat (go_big_quiet_step (first | exact regrown_is (by assumption) (right_b _ _ _) | exact Calls.regrown_of (right_b _ _ _) | exact Calls.regrown_of (end_b _ _ _ (by assumption))))); with_reducible refine wpQuiet_nil ?_; intro wc hbc)
    go_ret
    exact ⟨by simp [*], hbw.trans (hbc.mono (by omega))⟩
end One
end Go.Proofs.YthcnooimegaloaaDoor
end
section
namespace Go.Proofs.YthcnooimegaloaaDoor
open Go.RowKit Go.Sort Go.ChangeShapes Go.WideShapes
set_option linter.unusedVariables false
set_option linter.unusedSimpArgs false
theorem heap_new_at10 (w : World) (o : Obj) {k : Nat} (h : k = w.heap.size) : (w.alloc o).heap[k]? = some o := by subst h; exact heap_alloc_new w o
end Go.Proofs.YthcnooimegaloaaDoor
end
