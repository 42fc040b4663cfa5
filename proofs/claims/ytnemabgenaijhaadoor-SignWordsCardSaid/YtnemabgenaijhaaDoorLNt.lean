/- The layout's rows of spans: their places, their numbers. No condition but those in the statements. Private, Source, Dest, as contracts. No condition but those in the statements. -/
import Derived.Test.YtnemabgenaijhaaDoorLLay
import Derived.BigQuiet
import Derived.IntWalk
namespace Go.Proofs.YtnemabgenaijhaaDoor
open Go.RowKit Go.Sort Go.ChangeShapes Go.WideShapes
set_option linter.unusedVariables false
set_option linter.unusedSimpArgs false

theorem i64_of {n : Int} (h : -9223372036854775808 ≤ n ∧ n ≤ 9223372036854775807) : (Lit.int .i64 n).wf = true := by
  simp [Lit.wf, IntKind.min, IntKind.max, IntKind.signed, IntKind.bits]; omega
theorem span2_wf {a b : Int} (h0 : -9223372036854775808 ≤ a ∧ a ≤ 9223372036854775807) (h1 : -9223372036854775808 ≤ b ∧ b ≤ 9223372036854775807) : wfN [.i64, .i64] [a, b] :=
  wfN2_mk (i64_of h0) (i64_of h1)
theorem pvL_at (c : Cfg) {n i : Nat} (h : i < n) : (pvL c n)[i]? = some [privUp c.parts i, fld (row c.parts i) 1] := by simp [pvL, h]
theorem srL_at (c : Cfg) {n i : Nat} (h : i < n) : (srL c n)[i]? = some [beforeN c i, srcN (row c.chans i)] := by simp [srL, h]
theorem dsL_at (c : Cfg) {n i : Nat} (h : i < n) : (dsL c n)[i]? = some [beforeN c i + srcN (row c.chans i), 1] := by simp [dsL, h]
theorem srcN_of {c : Cfg} (h : Accd c) {i : Nat} (hi : i < c.chans.length) : 1 ≤ srcN (row c.chans i) ∧ srcN (row c.chans i) ≤ 137 := by
  obtain ⟨a, b, d, e, f, _⟩ := h.chan i hi
  exact srcN_in a b d e f
theorem PV_len (c : Cfg) : (PV c).length ≤ 1000000 := by
  unfold PV
  split
  · rw [pvL_len]; have := (accd_of (by assumption)).parts; omega
  · simp
theorem SR_len (c : Cfg) : (SR c).length ≤ 1000000 := by
  unfold SR
  split
  · rw [srL_len]; have := (accd_of (by assumption)).chans; omega
  · simp
theorem DS_len (c : Cfg) : (DS c).length ≤ 1000000 := by
  unfold DS
  split
  · rw [dsL_len]; have := (accd_of (by assumption)).chans; omega
  · simp
theorem PV_wf (c : Cfg) : wfR [.i64, .i64] (PV c) := by
  unfold PV
  split
  · rename_i h
    have ha := accd_of h
    intro q hq
    obtain ⟨i, hi, rfl⟩ := List.mem_map.1 hq
    have hi := List.mem_range.1 hi
    have h1 := privUp_in ha i (by omega)
    have h2 := ha.priv i hi
    have h3 := ha.parts
    exact span2_wf (by omega) (by omega)
  · intro q hq; cases hq
theorem SR_wf (c : Cfg) : wfR [.i64, .i64] (SR c) := by
  unfold SR
  split
  · rename_i h
    have ha := accd_of h
    intro q hq
    obtain ⟨i, hi, rfl⟩ := List.mem_map.1 hq
    have hi := List.mem_range.1 hi
    have h1 := beforeN_in ha (k := i) (by omega)
    have h2 := srcN_of ha hi
    exact span2_wf (by omega) (by omega)
  · intro q hq; cases hq
theorem DS_wf (c : Cfg) : wfR [.i64, .i64] (DS c) := by
  unfold DS
  split
  · rename_i h
    have ha := accd_of h
    intro q hq
    obtain ⟨i, hi, rfl⟩ := List.mem_map.1 hq
    have hi := List.mem_range.1 hi
    have h1 := beforeN_in ha (k := i) (by omega)
    have h2 := srcN_of ha hi
    exact span2_wf (by omega) (by omega)
  · intro q hq; cases hq
theorem nthS_at {l : List (List Int)} {i : Nat} {a b : Int} (h : l[i]? = some [a, b]) : nthS l (i : Int) = (a, b) := by
  have hi := (List.getElem?_eq_some_iff.1 h).1
  unfold nthS
  rw [if_pos (by omega), Int.toNat_natCast, row_at h]
  rfl
theorem nthS_out {l : List (List Int)} {n : Int} (h : ¬ (0 ≤ n ∧ n < (l.length : Int))) : nthS l n = (0, 0) := if_neg h
theorem nthS_pv (c : Cfg) (p : Int) : nthS (PV c) p = privSpan c p := by
  unfold PV privSpan
  cases hq : acceptsB c with
  | false => rw [if_neg (by decide), if_neg (by simp)]; exact nthS_out (by simp)
  | true =>
    rw [if_pos rfl]
    by_cases h : 0 ≤ p ∧ p < (c.parts.length : Int)
    · obtain ⟨k, rfl⟩ := Int.eq_ofNat_of_zero_le h.1
      rw [if_pos ⟨rfl, h⟩, Int.toNat_natCast]
      exact nthS_at (pvL_at c (by omega))
    · rw [if_neg (fun h' => h h'.2)]
      exact nthS_out (by rw [pvL_len]; exact h)
theorem chanB_iff {c : Cfg} (hq : acceptsB c = true) (k : Int) : chanB c k = true ↔ 0 ≤ k ∧ k < (c.chans.length : Int) := by
  unfold chanB
  rw [hq, Bool.and_true, decide_eq_true_eq]
theorem nthS_sr (c : Cfg) (k : Int) : nthS (SR c) k = srcSpan c k := by
  unfold SR srcSpan
  cases hq : acceptsB c with
  | false => rw [if_neg (by decide), if_neg (by unfold chanB; rw [hq]; simp)]; exact nthS_out (by simp)
  | true =>
    rw [if_pos rfl]
    by_cases h : 0 ≤ k ∧ k < (c.chans.length : Int)
    · rw [if_pos ((chanB_iff hq k).2 h)]
      obtain ⟨n, rfl⟩ := Int.eq_ofNat_of_zero_le h.1
      rw [Int.toNat_natCast]
      exact nthS_at (srL_at c (by omega))
    · rw [if_neg (fun h' => h ((chanB_iff hq k).1 h'))]
      exact nthS_out (by rw [srL_len]; exact h)
theorem nthS_ds (c : Cfg) (k : Int) : nthS (DS c) k = dstSpan c k := by
  unfold DS dstSpan
  cases hq : acceptsB c with
  | false => rw [if_neg (by decide), if_neg (by unfold chanB; rw [hq]; simp)]; exact nthS_out (by simp)
  | true =>
    rw [if_pos rfl]
    by_cases h : 0 ≤ k ∧ k < (c.chans.length : Int)
    · rw [if_pos ((chanB_iff hq k).2 h)]
      obtain ⟨n, rfl⟩ := Int.eq_ofNat_of_zero_le h.1
      rw [Int.toNat_natCast]
      exact nthS_at (dsL_at c (by omega))
    · rw [if_neg (fun h' => h ((chanB_iff hq k).1 h'))]
      exact nthS_out (by rw [dsL_len]; exact h)
end Go.Proofs.YtnemabgenaijhaaDoor

namespace Go.Proofs.YtnemabgenaijhaaDoor
open Go.RowKit Go.Sort Go.ChangeShapes Go.WideShapes
set_option linter.unusedVariables false
set_option linter.unusedSimpArgs false
theorem run_places0 (A1 A2 A3 : Option Addr) (n1 n2 n3 k1 k2 k3 : Nat) (w : World) : (Instr.field 98 (.agg #[.slice A1 n1 k1, .slice A2 n2 k2, .slice A3 n3 k3]) 0).run Tryd.prog w = .ok (.slice A1 n1 k1) w := by kernel_rfl
theorem run_places1 (A1 A2 A3 : Option Addr) (n1 n2 n3 k1 k2 k3 : Nat) (w : World) : (Instr.field 98 (.agg #[.slice A1 n1 k1, .slice A2 n2 k2, .slice A3 n3 k3]) 1).run Tryd.prog w = .ok (.slice A2 n2 k2) w := by kernel_rfl
theorem run_places2 (A1 A2 A3 : Option Addr) (n1 n2 n3 k1 k2 k3 : Nat) (w : World) : (Instr.field 98 (.agg #[.slice A1 n1 k1, .slice A2 n2 k2, .slice A3 n3 k3]) 2).run Tryd.prog w = .ok (.slice A3 n3 k3) w := by kernel_rfl

set_option maxRecDepth 100000 in
set_option maxHeartbeats 1600000 in
theorem private_b (c : Cfg) (x : CfgAt) (p : Int) (w : World) (hx : CfgIn w w.heap.size c x) (wx : CfgWf c) (lx : CfgFew c) : Calls Tryd.prog 56 #[.agg (cfgCells c x), .int .i64 p] w fun e w' => e = .returned (.agg #[.int .i64 (privSpan c p).1, .int .i64 (privSpan c p).2]) ∧ Below w.heap.size w w' := by
  obtain ⟨Wc, HWc, hBc, hWs, bx⟩ := one_cbox w c x 35
  obtain ⟨pa, pc, ca, cc, aa, ac, ba, bc⟩ := x
  obtain ⟨W, HW⟩ : ∃ u, Hid (u = Wc.alloc (.cells #[.int .i64 0, .int .i64 0] 75)) := ⟨_, rfl⟩
  obtain ⟨r, hr⟩ : ∃ r, r = Wc.heap.size := ⟨_, rfl⟩
  have hrr : Wc.heap.size ≤ r := by omega
  have hR : W.heap[r]? = some (.cells #[.int .i64 0, .int .i64 0] 75 (0, 0)) := by rw [HW.out, hr]; exact heap_alloc_new _ _
  have hBW : Below Wc.heap.size Wc W := by rw [HW.out]; exact (Below.refl _ _).alloc (Nat.le_refl _) _
  have hxW := hx.later (hBc.trans (hBW.mono hBc.size))
  obtain ⟨c0, c1, c2, c3, c4, c5⟩ := bx _ hBW
  have HB := Lib.hid hBc; have HR0 := Lib.hid hR; have HBW := Lib.hid hBW; have HXW := Lib.hid hxW; have HXC := Lib.hid (hx.later hBc); have HRR := Lib.hid hr
  simp only [cfgCells] at HWc ⊢
  clear hBc hR hBW hxW hx hr hWs
  have HLY := Lib.hid (lay_b c ⟨pa, pc, ca, cc, aa, ac, ba, bc⟩ W HXW.out wx lx)
  have HN := Lib.hid (fun A cap w' (hr : RowN [.i64, .i64] w' w'.heap.size A (PV c)) => nth_b (PV c) A cap p w' hr (PV_wf c) (PV_len c))
  rw [nthS_pv] at HN
  simp only [cfgCells] at HLY
  go_enter Tryd.func56, Tryd.ntmps56
  go_wp2_with (first | (rw [← HWc.out]) | (rw [← HW.out]))
  refine HLY.out.mono ?_
  rintro e w5 ⟨vp, vs, vd, rfl, r1, r2, r3, hb5⟩
  obtain ⟨A, cap, rfl, _, _, hrow, _, _⟩ := OwnsOff.rowN (ks := [.i64, .i64]) r1 (PV_wf c)
  obtain ⟨A2, k2, rfl, _⟩ := r2.slice
  obtain ⟨A3, k3, rfl, _⟩ := r3.slice
  have HC := Lib.hid (HN.out A cap w5 hrow)
  have HR5 := Lib.hid ((hb5.block r (Array.getElem?_eq_some_iff.1 HR0.out).1).trans HR0.out)
  have HB5 := Lib.hid (HBW.out.trans (hb5.mono HBW.out.size))
  clear hb5 r1 r2 r3 c0 c1 c2 c3 c4 c5 hrow
  have hfd := run_places0
  go_wp2_with fail
  clear hfd
  refine HC.out.mono ?_
  rintro e w6 ⟨rfl, hb6⟩
  have hR6 := (hb6.block r (Array.getElem?_eq_some_iff.1 HR5.out).1).trans HR5.out
  have z0 := cell_blk hR6 (i := 0) rfl
  have z1 := cell_blk hR6 (i := 1) rfl
  have f0 : w6.frozen? ⟨r, 0, none⟩ = false := by simp [World.frozen?, hR6]
  have f1 : w6.frozen? ⟨r, 1, none⟩ = false := by simp [World.frozen?, hR6]
  have HR6 := Lib.hid hR6
  have HF := Lib.hid (HB.out.trans ((HB5.out.trans (hb6.mono HB5.out.size)).mono HB.out.size))
  obtain ⟨y0, hy0⟩ : ∃ y0, (privSpan c p).1 = y0 := ⟨_, rfl⟩
  obtain ⟨y1, hy1⟩ : ∃ y1, (privSpan c p).2 = y1 := ⟨_, rfl⟩
  simp only [hy0, hy1]
  have HY0 := Lib.hid hy0; have HY1 := Lib.hid hy1
  clear hb6 hR6 hy0 hy1
  simp only [← HRR.out]
  go_wp2
  have hRz : ((w6.setCell ⟨r, 0, none⟩ (.int .i64 y0)).setCell ⟨r, 1, none⟩ (.int .i64 y1)).heap[r]? = some (.cells #[.int .i64 y0, .int .i64 y1] 75 (0, 0)) := by simp [World.setCell, Array.getElem?_modify, HR6.out]
  refine bodyPost_ret (results_cell_span rfl _ _ r y0 y1 rfl (cell_blk hRz (i := 0) rfl) (cell_blk hRz (i := 1) rfl)) rfl ⟨by rw [HY0.out, HY1.out], (HF.out.setCell (p := ⟨r, 0, none⟩) ?_ _).setCell (p := ⟨r, 1, none⟩) ?_ _⟩ <;> (have := HB.out.size; show w.heap.size ≤ r; omega)

end Go.Proofs.YtnemabgenaijhaaDoor
