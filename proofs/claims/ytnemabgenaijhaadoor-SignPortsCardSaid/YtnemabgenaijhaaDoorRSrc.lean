/- The document's Source and Dest, as contracts. No condition but those in the statements. -/
import Derived.Test.YtnemabgenaijhaaDoorRLayA
import Derived.BigQuiet
import Derived.IntWalk
import Derived.BigRegion
import Derived.Deep.RegionHeld3
namespace Go.Proofs.YtnemabgenaijhaaDoor
open Go.RowKit Go.Sort Go.ChangeShapes Go.WideShapes
set_option linter.unusedVariables false
set_option linter.unusedSimpArgs false

theorem Tryd.infoS : (Tryd.prog.info? 75).map (fun i => (i.size)) = some 2 := by kernel_rfl
theorem results_cell_span {fn : Func} {p : Tmp} (h : fn.results = #[.cell p 75]) (tmps : Array Value) (w : World) (g : Nat) (a b : Int)
    (hp : tmps.getD p undef = .pointer (some ⟨g, 0, none⟩)) (h0 : w.cell? ⟨g, 0, none⟩ = some (.int .i64 a)) (h1 : w.cell? ⟨g, 1, none⟩ = some (.int .i64 b)) : (results fn tmps).run Tryd.prog w = .ok (.agg #[.int .i64 a, .int .i64 b]) w := by
  have hp' : tmps[p]?.getD undef = .pointer (some ⟨g, 0, none⟩) := by simpa using hp
  obtain ⟨i, hi, hs⟩ : ∃ i, Tryd.prog.info? 75 = some i ∧ i.size = 2 := by
    have h := Tryd.infoS
    cases hh : Tryd.prog.info? 75 with
    | none => rw [hh] at h; cases h
    | some i => rw [hh] at h; exact ⟨i, rfl, by simpa using h⟩
  simp [results, h, hp', asAddr, loadVar, isAgg, run_underlying Tryd.underlying75, sizeOf, typeInfo, hi, hs]
  go_simp
/-- A channel's source span and destination span, From and Size; noughts, if there is none. -/
def srcSpan (c : Cfg) (k : Int) : Int × Int := if chanB c k = true then (beforeN c k.toNat, srcN (row c.chans k.toNat)) else (0, 0)
def dstSpan (c : Cfg) (k : Int) : Int × Int := if chanB c k = true then (beforeN c k.toNat + srcN (row c.chans k.toNat), 1) else (0, 0)

set_option maxRecDepth 100000 in
set_option maxHeartbeats 4000000 in
theorem rsource_b (c : Cfg) (x : CfgAt) (k : Int) (w : World) (hx : CfgIn w w.heap.size c x) (wx : CfgWf c) (lx : CfgFew c) : Calls Tryd.prog 32 #[.agg (cfgCells c x), .int .i64 k] w fun e w' => e = .returned (.agg #[.int .i64 (srcSpan c k).1, .int .i64 (srcSpan c k).2]) ∧ Below w.heap.size w w' := by
  obtain ⟨Wc, HWc, hBc, hWs, bx⟩ := one_cbox w c x 35
  obtain ⟨pa, pc, ca, cc, aa, ac, ba, bc⟩ := x
  obtain ⟨W, HW⟩ : ∃ u, Hid (u = Wc.alloc (.cells #[.int .i64 0, .int .i64 0] 75)) := ⟨_, rfl⟩
  obtain ⟨r, hr⟩ : ∃ r, r = Wc.heap.size := ⟨_, rfl⟩
  have hrr : Wc.heap.size ≤ r := by omega
  have hR : W.heap[r]? = some (.cells #[.int .i64 0, .int .i64 0] 75 (0, 0)) := by rw [HW.out, hr]; exact heap_alloc_new _ _
  have hBW : Below Wc.heap.size Wc W := by rw [HW.out]; exact (Below.refl _ _).alloc (Nat.le_refl _) _
  have hxW := hx.later (hBc.trans (hBW.mono hBc.size))
  obtain ⟨c0, c1, c2, c3, c4, c5⟩ := bx _ hBW
  have HB := Lib.hid hBc; have HR0 := Lib.hid hR; have HBW := Lib.hid hBW; have HXW := Lib.hid hxW; have HXC := Lib.hid (hx.later hBc); have HRR := Lib.hid hr
  have hRc := cell_blk hR (i := 0) rfl
  have hRd := cell_blk hR (i := 1) rfl
  simp only [cfgCells] at HWc ⊢
  clear hBc hR hBW hxW hx hr hWs
  cases hq : chanB c k with
  | false =>
    have HX := Lib.hid (show srcSpan c k = (0, 0) from if_neg (by rw [hq]; decide))
    have HC := Lib.hid (rchan_is c ⟨pa, pc, ca, cc, aa, ac, ba, bc⟩ k false W HXW.out wx lx hq)
    clear hq
    go_enter Tryd.func32, Tryd.ntmps32
    go_wp2_with (first | (rw [← HWc.out]) | (rw [← HW.out]))
    refine HC.out.mono ?_
    rintro e w5 ⟨rfl, hb5⟩
    have hR5 := (hb5.block r (Array.getElem?_eq_some_iff.1 HR0.out).1).trans HR0.out
    have z0 := cell_blk hR5 (i := 0) rfl
    have z1 := cell_blk hR5 (i := 1) rfl
    have f0 : w5.frozen? ⟨r, 0, none⟩ = false := by simp [World.frozen?, hR5]
    have f1 : w5.frozen? ⟨r, 1, none⟩ = false := by simp [World.frozen?, hR5]
    have HR5 := Lib.hid hR5
    have HF := Lib.hid (HB.out.trans ((HBW.out.trans (hb5.mono HBW.out.size)).mono HB.out.size))
    clear hb5 hR5
    simp only [← HRR.out]
    go_wp2
    have hRz : ((w5.setCell ⟨r, 0, none⟩ (.int .i64 0)).setCell ⟨r, 1, none⟩ (.int .i64 0)).heap[r]? = some (.cells #[.int .i64 0, .int .i64 0] 75 (0, 0)) := by simp [World.setCell, Array.getElem?_modify, HR5.out]
    refine bodyPost_ret (results_cell_span rfl _ _ r 0 0 rfl (cell_blk hRz (i := 0) rfl) (cell_blk hRz (i := 1) rfl)) rfl ⟨by rw [HX.out], (HF.out.setCell (p := ⟨r, 0, none⟩) ?_ _).setCell (p := ⟨r, 1, none⟩) ?_ _⟩ <;> (have := HB.out.size; show w.heap.size ≤ r; omega)
  | true =>
    have hq2 : (0 ≤ k ∧ k < (c.chans.length : Int)) ∧ acceptsB c = true := by
      unfold chanB at hq
      rw [Bool.and_eq_true] at hq
      exact ⟨of_decide_eq_true hq.1, hq.2⟩
    have HX := Lib.hid (show srcSpan c k = _ from if_pos hq)
    have HC := Lib.hid (rchan_is c ⟨pa, pc, ca, cc, aa, ac, ba, bc⟩ k true W HXW.out wx lx hq)
    have HA := Lib.hid (accd_of hq2.2)
    obtain ⟨⟨k0, k1⟩, -⟩ := hq2
    obtain ⟨n, rfl⟩ := Int.eq_ofNat_of_zero_le k0
    have hn : n < c.chans.length := by omega
    obtain ⟨b, o, x0, x1, x2, x3, x4, x5, x6, e0, _, e1, -, hrow⟩ := HXC.out.rc.at7 wx.wc hn
    obtain ⟨a1, a2, a3, a4, a5, _⟩ := HA.out.chan n hn
    rw [row_at e1] at a1 a2 a3 a4 a5
    have hsr := srcN_in a1 a2 a3 a4 a5
    have hbn := beforeN_in HA.out (k := n) (by omega)
    have HS1 := Lib.hid (show ∀ W', Below Wc.heap.size Wc W' → Calls Tryd.prog 49 #[.agg #[.int .i64 x0, .int .i64 x1, .int .i64 x2, .int .i64 x3, .int .i64 x4, .int .i64 x5, .int .u32 x6]] W' (fun e w' => e = .returned (.int .i64 (srcN [x0, x1, x2, x3, x4, x5, x6])) ∧ Below W'.heap.size W' w') from fun W' _ => rsrc_b x0 x1 x2 x3 x4 x5 x6 W' a1 a2 a3 a4 a5)
    have HB1 := Lib.hid (show ∀ W', Below Wc.heap.size Wc W' → Calls Tryd.prog 29 #[.agg (cfgCells c ⟨pa, pc, ca, cc, aa, ac, ba, bc⟩), .int .i64 (n : Int)] W' (fun e w' => e = .returned (.int .i64 (beforeN c n)) ∧ Below W'.heap.size W' w') from fun W' hb => rbefore_is c ⟨pa, pc, ca, cc, aa, ac, ba, bc⟩ n W' (HXC.out.later hb) wx lx HA.out (by omega))
    simp only [cfgCells] at HB1
    obtain ⟨s, hs⟩ : ∃ s, srcN [x0, x1, x2, x3, x4, x5, x6] = s := ⟨_, rfl⟩
    obtain ⟨p, hp⟩ : ∃ p, beforeN c n = p := ⟨_, rfl⟩
    have HX2 := Lib.hid (show (srcSpan c (n : Int)) = (p, s) by
      rw [HX.out]
      simp only [Int.toNat_natCast, row_at e1, hs, hp])
    rw [hs] at HS1 hsr
    rw [hp] at HB1 hbn
    have v0 := IntWalk.i64_in (p + s) (by omega)
    have v1 := IntWalk.i64_in p (by omega)
    clear hs hp HX hq a1 a2 a3 a4 a5
    have HX := HX2
    subst e0
    go_enter Tryd.func32, Tryd.ntmps32
    go_wp2_with (first | (rw [← HWc.out]) | (rw [← HW.out]))
    refine HC.out.mono ?_
    rintro e w5 ⟨rfl, hb5⟩
    have hR := (hb5.block r (Array.getElem?_eq_some_iff.1 HR0.out).1).trans HR0.out
    have hB := HBW.out.trans (hb5.mono HBW.out.size)
    have s0 : (0 : Int) ≤ (n : Int) := by omega
    have s1 : (n : Int) < (c.chans.length : Int) := by omega
    clear hb5 hRc hRd c0 c1 c2 c3 c4 c5
    simp only [← HRR.out]
    go_wp2_with fail
    refine wp_region_held_drew (S := fun W' => Below Wc.heap.size Wc W') (by kernel_rfl) (hB.drew) (fun hHeld => ?_)
    refine wpAnyH_take (i := 0) rfl (by kernel_rfl) (by kernel_rfl) (by kernel_rfl) (fun _ _ _ h => h) (Or.inl ⟨by rfl, by intro w hSw; (obtain ⟨c0, c1, c2, c3, c4, c5⟩ := bx _ hSw; obtain ⟨k0, k1, k2, k3, k4, k5, k6⟩ := hrow _ hSw); (go_simp <;> with_reducible rfl)⟩) (by assumption) ?_
    (try simp only [Act.put, List.setIfInBounds_toArray, List.set_cons_zero, List.set_cons_succ, List.getElem_toArray, List.getElem_cons_zero, List.getElem_cons_succ])
    refine wpAnyH_take (i := 1) rfl (by kernel_rfl) (by kernel_rfl) (by kernel_rfl) (fun _ _ _ h => h) (Or.inl ⟨by rfl, by intro w hSw; (obtain ⟨c0, c1, c2, c3, c4, c5⟩ := bx _ hSw; obtain ⟨k0, k1, k2, k3, k4, k5, k6⟩ := hrow _ hSw); (go_simp <;> with_reducible rfl)⟩) (by assumption) ?_
    (try simp only [Act.put, List.setIfInBounds_toArray, List.set_cons_zero, List.set_cons_succ, List.getElem_toArray, List.getElem_cons_zero, List.getElem_cons_succ])
    refine wpAnyH_take (i := 3) rfl (by kernel_rfl) (by kernel_rfl) (by kernel_rfl) (fun _ _ _ h => h) (Or.inl ⟨by rfl, by intro w hSw; (obtain ⟨c0, c1, c2, c3, c4, c5⟩ := bx _ hSw; obtain ⟨k0, k1, k2, k3, k4, k5, k6⟩ := hrow _ hSw); (go_simp <;> with_reducible rfl)⟩) (by assumption) ?_
    (try simp only [Act.put, List.setIfInBounds_toArray, List.set_cons_zero, List.set_cons_succ, List.getElem_toArray, List.getElem_cons_zero, List.getElem_cons_succ])
    refine wpAnyH_take (i := 4) rfl (by kernel_rfl) (by kernel_rfl) (by kernel_rfl) (fun _ _ _ h => h) (Or.inl ⟨by rfl, by intro w hSw; (obtain ⟨c0, c1, c2, c3, c4, c5⟩ := bx _ hSw; obtain ⟨k0, k1, k2, k3, k4, k5, k6⟩ := hrow _ hSw); (go_simp <;> with_reducible rfl)⟩) (by assumption) ?_
    (try simp only [Act.put, List.setIfInBounds_toArray, List.set_cons_zero, List.set_cons_succ, List.getElem_toArray, List.getElem_cons_zero, List.getElem_cons_succ])
    refine wpAnyH_take (i := 5) rfl (by kernel_rfl) (by kernel_rfl) (by kernel_rfl) (fun _ _ _ h => h) (Or.inl ⟨by rfl, by intro w hSw; (obtain ⟨c0, c1, c2, c3, c4, c5⟩ := bx _ hSw; obtain ⟨k0, k1, k2, k3, k4, k5, k6⟩ := hrow _ hSw); (go_simp <;> with_reducible rfl)⟩) (by assumption) ?_
    (try simp only [Act.put, List.setIfInBounds_toArray, List.set_cons_zero, List.set_cons_succ, List.getElem_toArray, List.getElem_cons_zero, List.getElem_cons_succ])
    refine wpAnyH_take (i := 6) rfl (by kernel_rfl) (by kernel_rfl) (by kernel_rfl) (fun _ _ _ h => h) (Or.inl ⟨by rfl, by intro w hSw; (obtain ⟨c0, c1, c2, c3, c4, c5⟩ := bx _ hSw; obtain ⟨k0, k1, k2, k3, k4, k5, k6⟩ := hrow _ hSw); (go_simp <;> with_reducible rfl)⟩) (by assumption) ?_
    (try simp only [Act.put, List.setIfInBounds_toArray, List.set_cons_zero, List.set_cons_succ, List.getElem_toArray, List.getElem_cons_zero, List.getElem_cons_succ])
    refine wpAnyH_take (i := 7) rfl (by kernel_rfl) (by kernel_rfl) (by kernel_rfl) (fun _ _ _ h => h) (Or.inl ⟨by rfl, by intro w hSw; (obtain ⟨c0, c1, c2, c3, c4, c5⟩ := bx _ hSw; obtain ⟨k0, k1, k2, k3, k4, k5, k6⟩ := hrow _ hSw); (go_simp <;> with_reducible rfl)⟩) (by assumption) ?_
    (try simp only [Act.put, List.setIfInBounds_toArray, List.set_cons_zero, List.set_cons_succ, List.getElem_toArray, List.getElem_cons_zero, List.getElem_cons_succ])
    have hR := (show w5.drew.heap[r]? = _ from hR)
    have hB := hB.drew
    refine wpAnyH_ready (rs := [2]) (by kernel_rfl) (by simp) (AllReadyH.cons rfl (fun K hK => ?_) AllReadyH.nil)
    go_simp
    refine (HB1.out _ hB).mono ?_
    rintro e w6 ⟨rfl, hl⟩
    (try go_wp2_with fail)
    have hR' := (hl.block r (Array.getElem?_eq_some_iff.1 hR).1).trans hR
    have hB' := hB.trans (hl.mono hB.size)
    clear hR hB hl hHeld
    have hR := hR'; have hB := hB'
    clear hR' hB'
    refine hK.out _ _ hB (fun hHeld => ?_)
    clear hK K
    (try simp only [Act.put, List.setIfInBounds_toArray, List.set_cons_zero, List.set_cons_succ, List.getElem_toArray, List.getElem_cons_zero, List.getElem_cons_succ])
    refine wpAnyH_ready (rs := [8]) (by kernel_rfl) (by simp) (AllReadyH.cons rfl (fun K hK => ?_) AllReadyH.nil)
    go_simp
    refine (HS1.out _ hB).mono ?_
    rintro e w7 ⟨rfl, hl⟩
    (try go_wp2_with fail)
    have hR' := (hl.block r (Array.getElem?_eq_some_iff.1 hR).1).trans hR
    have hB' := hB.trans (hl.mono hB.size)
    clear hR hB hl hHeld
    have hR := hR'; have hB := hB'
    clear hR' hB'
    refine hK.out _ _ hB (fun hHeld => ?_)
    clear hK K
    (try simp only [Act.put, List.setIfInBounds_toArray, List.set_cons_zero, List.set_cons_succ, List.getElem_toArray, List.getElem_cons_zero, List.getElem_cons_succ])
    refine wpAnyH_take (i := 9) rfl (by kernel_rfl) (by kernel_rfl) (by kernel_rfl) (fun _ _ _ h => h) (Or.inl ⟨by rfl, by intro w hSw; (obtain ⟨c0, c1, c2, c3, c4, c5⟩ := bx _ hSw; obtain ⟨k0, k1, k2, k3, k4, k5, k6⟩ := hrow _ hSw); (go_simp <;> with_reducible rfl)⟩) (by assumption) ?_
    (try simp only [Act.put, List.setIfInBounds_toArray, List.set_cons_zero, List.set_cons_succ, List.getElem_toArray, List.getElem_cons_zero, List.getElem_cons_succ])
    refine wpAnyH_ready (rs := [10]) (by kernel_rfl) (by simp) (AllReadyH.cons rfl (fun K hK => ?_) AllReadyH.nil)
    have z0 := cell_blk hR (i := 0) rfl
    have z1 := cell_blk hR (i := 1) rfl
    have f0 : w7.frozen? ⟨r, 0, none⟩ = false := by simp [World.frozen?, hR]
    have f1 : w7.frozen? ⟨r, 1, none⟩ = false := by simp [World.frozen?, hR]
    go_simp
    obtain ⟨wz, hwz⟩ : ∃ v, Hid (v = (w7.setCell ⟨r, 0, none⟩ (.int .i64 (p))).setCell ⟨r, 1, none⟩ (.int .i64 (s))) := ⟨_, rfl⟩
    rw [← hwz.out]
    have hRz : wz.heap[r]? = some (.cells #[.int .i64 (p), .int .i64 (s)] 75 (0, 0)) := by rw [hwz.out]; simp [World.setCell, Array.getElem?_modify, hR]
    have hBz : Below Wc.heap.size Wc wz := by rw [hwz.out]; exact (hB.setCell (p := ⟨r, 0, none⟩) hrr _).setCell (p := ⟨r, 1, none⟩) hrr _
    clear z0 z1 f0 f1 hR hB hHeld hwz
    refine hK.out _ _ hBz (fun hHeld => ?_)
    clear hK K
    (try simp only [Act.put, List.setIfInBounds_toArray, List.set_cons_zero, List.set_cons_succ, List.getElem_toArray, List.getElem_cons_zero, List.getElem_cons_succ])
    refine wpAnyH_done (by kernel_rfl) ?_ _
    have HRZ := Lib.hid hRz; have HBZ := Lib.hid hBz
    clear hRz hBz hHeld
    go_wp2
    exact bodyPost_ret (results_cell_span rfl _ _ r _ _ rfl (cell_blk HRZ.out (i := 0) rfl) (cell_blk HRZ.out (i := 1) rfl)) rfl ⟨by rw [HX.out], HB.out.trans (HBZ.out.mono HB.out.size)⟩

set_option maxRecDepth 100000 in
set_option maxHeartbeats 4000000 in
theorem rdest_b (c : Cfg) (x : CfgAt) (k : Int) (w : World) (hx : CfgIn w w.heap.size c x) (wx : CfgWf c) (lx : CfgFew c) : Calls Tryd.prog 33 #[.agg (cfgCells c x), .int .i64 k] w fun e w' => e = .returned (.agg #[.int .i64 (dstSpan c k).1, .int .i64 (dstSpan c k).2]) ∧ Below w.heap.size w w' := by
  obtain ⟨Wc, HWc, hBc, hWs, bx⟩ := one_cbox w c x 35
  obtain ⟨pa, pc, ca, cc, aa, ac, ba, bc⟩ := x
  obtain ⟨W, HW⟩ : ∃ u, Hid (u = Wc.alloc (.cells #[.int .i64 0, .int .i64 0] 75)) := ⟨_, rfl⟩
  obtain ⟨r, hr⟩ : ∃ r, r = Wc.heap.size := ⟨_, rfl⟩
  have hrr : Wc.heap.size ≤ r := by omega
  have hR : W.heap[r]? = some (.cells #[.int .i64 0, .int .i64 0] 75 (0, 0)) := by rw [HW.out, hr]; exact heap_alloc_new _ _
  have hBW : Below Wc.heap.size Wc W := by rw [HW.out]; exact (Below.refl _ _).alloc (Nat.le_refl _) _
  have hxW := hx.later (hBc.trans (hBW.mono hBc.size))
  obtain ⟨c0, c1, c2, c3, c4, c5⟩ := bx _ hBW
  have HB := Lib.hid hBc; have HR0 := Lib.hid hR; have HBW := Lib.hid hBW; have HXW := Lib.hid hxW; have HXC := Lib.hid (hx.later hBc); have HRR := Lib.hid hr
  have hRc := cell_blk hR (i := 0) rfl
  have hRd := cell_blk hR (i := 1) rfl
  simp only [cfgCells] at HWc ⊢
  clear hBc hR hBW hxW hx hr hWs
  cases hq : chanB c k with
  | false =>
    have HX := Lib.hid (show dstSpan c k = (0, 0) from if_neg (by rw [hq]; decide))
    have HC := Lib.hid (rchan_is c ⟨pa, pc, ca, cc, aa, ac, ba, bc⟩ k false W HXW.out wx lx hq)
    clear hq
    go_enter Tryd.func33, Tryd.ntmps33
    go_wp2_with (first | (rw [← HWc.out]) | (rw [← HW.out]))
    refine HC.out.mono ?_
    rintro e w5 ⟨rfl, hb5⟩
    have hR5 := (hb5.block r (Array.getElem?_eq_some_iff.1 HR0.out).1).trans HR0.out
    have z0 := cell_blk hR5 (i := 0) rfl
    have z1 := cell_blk hR5 (i := 1) rfl
    have f0 : w5.frozen? ⟨r, 0, none⟩ = false := by simp [World.frozen?, hR5]
    have f1 : w5.frozen? ⟨r, 1, none⟩ = false := by simp [World.frozen?, hR5]
    have HR5 := Lib.hid hR5
    have HF := Lib.hid (HB.out.trans ((HBW.out.trans (hb5.mono HBW.out.size)).mono HB.out.size))
    clear hb5 hR5
    simp only [← HRR.out]
    go_wp2
    have hRz : ((w5.setCell ⟨r, 0, none⟩ (.int .i64 0)).setCell ⟨r, 1, none⟩ (.int .i64 0)).heap[r]? = some (.cells #[.int .i64 0, .int .i64 0] 75 (0, 0)) := by simp [World.setCell, Array.getElem?_modify, HR5.out]
    refine bodyPost_ret (results_cell_span rfl _ _ r 0 0 rfl (cell_blk hRz (i := 0) rfl) (cell_blk hRz (i := 1) rfl)) rfl ⟨by rw [HX.out], (HF.out.setCell (p := ⟨r, 0, none⟩) ?_ _).setCell (p := ⟨r, 1, none⟩) ?_ _⟩ <;> (have := HB.out.size; show w.heap.size ≤ r; omega)
  | true =>
    have hq2 : (0 ≤ k ∧ k < (c.chans.length : Int)) ∧ acceptsB c = true := by
      unfold chanB at hq
      rw [Bool.and_eq_true] at hq
      exact ⟨of_decide_eq_true hq.1, hq.2⟩
    have HX := Lib.hid (show dstSpan c k = _ from if_pos hq)
    have HC := Lib.hid (rchan_is c ⟨pa, pc, ca, cc, aa, ac, ba, bc⟩ k true W HXW.out wx lx hq)
    have HA := Lib.hid (accd_of hq2.2)
    obtain ⟨⟨k0, k1⟩, -⟩ := hq2
    obtain ⟨n, rfl⟩ := Int.eq_ofNat_of_zero_le k0
    have hn : n < c.chans.length := by omega
    obtain ⟨b, o, x0, x1, x2, x3, x4, x5, x6, e0, _, e1, -, hrow⟩ := HXC.out.rc.at7 wx.wc hn
    obtain ⟨a1, a2, a3, a4, a5, _⟩ := HA.out.chan n hn
    rw [row_at e1] at a1 a2 a3 a4 a5
    have hsr := srcN_in a1 a2 a3 a4 a5
    have hbn := beforeN_in HA.out (k := n) (by omega)
    have HS1 := Lib.hid (show ∀ W', Below Wc.heap.size Wc W' → Calls Tryd.prog 49 #[.agg #[.int .i64 x0, .int .i64 x1, .int .i64 x2, .int .i64 x3, .int .i64 x4, .int .i64 x5, .int .u32 x6]] W' (fun e w' => e = .returned (.int .i64 (srcN [x0, x1, x2, x3, x4, x5, x6])) ∧ Below W'.heap.size W' w') from fun W' _ => rsrc_b x0 x1 x2 x3 x4 x5 x6 W' a1 a2 a3 a4 a5)
    have HB1 := Lib.hid (show ∀ W', Below Wc.heap.size Wc W' → Calls Tryd.prog 29 #[.agg (cfgCells c ⟨pa, pc, ca, cc, aa, ac, ba, bc⟩), .int .i64 (n : Int)] W' (fun e w' => e = .returned (.int .i64 (beforeN c n)) ∧ Below W'.heap.size W' w') from fun W' hb => rbefore_is c ⟨pa, pc, ca, cc, aa, ac, ba, bc⟩ n W' (HXC.out.later hb) wx lx HA.out (by omega))
    simp only [cfgCells] at HB1
    obtain ⟨s, hs⟩ : ∃ s, srcN [x0, x1, x2, x3, x4, x5, x6] = s := ⟨_, rfl⟩
    obtain ⟨p, hp⟩ : ∃ p, beforeN c n = p := ⟨_, rfl⟩
    have HX2 := Lib.hid (show (dstSpan c (n : Int)) = (p + s, 1) by
      rw [HX.out]
      simp only [Int.toNat_natCast, row_at e1, hs, hp])
    rw [hs] at HS1 hsr
    rw [hp] at HB1 hbn
    have v0 := IntWalk.i64_in (p + s) (by omega)
    have v1 := IntWalk.i64_in p (by omega)
    clear hs hp HX hq a1 a2 a3 a4 a5
    have HX := HX2
    subst e0
    go_enter Tryd.func33, Tryd.ntmps33
    go_wp2_with (first | (rw [← HWc.out]) | (rw [← HW.out]))
    refine HC.out.mono ?_
    rintro e w5 ⟨rfl, hb5⟩
    have hR := (hb5.block r (Array.getElem?_eq_some_iff.1 HR0.out).1).trans HR0.out
    have hB := HBW.out.trans (hb5.mono HBW.out.size)
    have s0 : (0 : Int) ≤ (n : Int) := by omega
    have s1 : (n : Int) < (c.chans.length : Int) := by omega
    clear hb5 hRc hRd c0 c1 c2 c3 c4 c5
    simp only [← HRR.out]
    go_wp2_with fail
    refine wp_region_held_drew (S := fun W' => Below Wc.heap.size Wc W') (by kernel_rfl) (hB.drew) (fun hHeld => ?_)
    refine wpAnyH_take (i := 0) rfl (by kernel_rfl) (by kernel_rfl) (by kernel_rfl) (fun _ _ _ h => h) (Or.inl ⟨by rfl, by intro w hSw; (obtain ⟨c0, c1, c2, c3, c4, c5⟩ := bx _ hSw; obtain ⟨k0, k1, k2, k3, k4, k5, k6⟩ := hrow _ hSw); (go_simp <;> with_reducible rfl)⟩) (by assumption) ?_
    (try simp only [Act.put, List.setIfInBounds_toArray, List.set_cons_zero, List.set_cons_succ, List.getElem_toArray, List.getElem_cons_zero, List.getElem_cons_succ])
    refine wpAnyH_take (i := 1) rfl (by kernel_rfl) (by kernel_rfl) (by kernel_rfl) (fun _ _ _ h => h) (Or.inl ⟨by rfl, by intro w hSw; (obtain ⟨c0, c1, c2, c3, c4, c5⟩ := bx _ hSw; obtain ⟨k0, k1, k2, k3, k4, k5, k6⟩ := hrow _ hSw); (go_simp <;> with_reducible rfl)⟩) (by assumption) ?_
    (try simp only [Act.put, List.setIfInBounds_toArray, List.set_cons_zero, List.set_cons_succ, List.getElem_toArray, List.getElem_cons_zero, List.getElem_cons_succ])
    refine wpAnyH_take (i := 3) rfl (by kernel_rfl) (by kernel_rfl) (by kernel_rfl) (fun _ _ _ h => h) (Or.inl ⟨by rfl, by intro w hSw; (obtain ⟨c0, c1, c2, c3, c4, c5⟩ := bx _ hSw; obtain ⟨k0, k1, k2, k3, k4, k5, k6⟩ := hrow _ hSw); (go_simp <;> with_reducible rfl)⟩) (by assumption) ?_
    (try simp only [Act.put, List.setIfInBounds_toArray, List.set_cons_zero, List.set_cons_succ, List.getElem_toArray, List.getElem_cons_zero, List.getElem_cons_succ])
    refine wpAnyH_take (i := 4) rfl (by kernel_rfl) (by kernel_rfl) (by kernel_rfl) (fun _ _ _ h => h) (Or.inl ⟨by rfl, by intro w hSw; (obtain ⟨c0, c1, c2, c3, c4, c5⟩ := bx _ hSw; obtain ⟨k0, k1, k2, k3, k4, k5, k6⟩ := hrow _ hSw); (go_simp <;> with_reducible rfl)⟩) (by assumption) ?_
    (try simp only [Act.put, List.setIfInBounds_toArray, List.set_cons_zero, List.set_cons_succ, List.getElem_toArray, List.getElem_cons_zero, List.getElem_cons_succ])
    refine wpAnyH_take (i := 5) rfl (by kernel_rfl) (by kernel_rfl) (by kernel_rfl) (fun _ _ _ h => h) (Or.inl ⟨by rfl, by intro w hSw; (obtain ⟨c0, c1, c2, c3, c4, c5⟩ := bx _ hSw; obtain ⟨k0, k1, k2, k3, k4, k5, k6⟩ := hrow _ hSw); (go_simp <;> with_reducible rfl)⟩) (by assumption) ?_
    (try simp only [Act.put, List.setIfInBounds_toArray, List.set_cons_zero, List.set_cons_succ, List.getElem_toArray, List.getElem_cons_zero, List.getElem_cons_succ])
    refine wpAnyH_take (i := 6) rfl (by kernel_rfl) (by kernel_rfl) (by kernel_rfl) (fun _ _ _ h => h) (Or.inl ⟨by rfl, by intro w hSw; (obtain ⟨c0, c1, c2, c3, c4, c5⟩ := bx _ hSw; obtain ⟨k0, k1, k2, k3, k4, k5, k6⟩ := hrow _ hSw); (go_simp <;> with_reducible rfl)⟩) (by assumption) ?_
    (try simp only [Act.put, List.setIfInBounds_toArray, List.set_cons_zero, List.set_cons_succ, List.getElem_toArray, List.getElem_cons_zero, List.getElem_cons_succ])
    refine wpAnyH_take (i := 7) rfl (by kernel_rfl) (by kernel_rfl) (by kernel_rfl) (fun _ _ _ h => h) (Or.inl ⟨by rfl, by intro w hSw; (obtain ⟨c0, c1, c2, c3, c4, c5⟩ := bx _ hSw; obtain ⟨k0, k1, k2, k3, k4, k5, k6⟩ := hrow _ hSw); (go_simp <;> with_reducible rfl)⟩) (by assumption) ?_
    (try simp only [Act.put, List.setIfInBounds_toArray, List.set_cons_zero, List.set_cons_succ, List.getElem_toArray, List.getElem_cons_zero, List.getElem_cons_succ])
    have hR := (show w5.drew.heap[r]? = _ from hR)
    have hB := hB.drew
    refine wpAnyH_ready (rs := [2]) (by kernel_rfl) (by simp) (AllReadyH.cons rfl (fun K hK => ?_) AllReadyH.nil)
    go_simp
    refine (HB1.out _ hB).mono ?_
    rintro e w6 ⟨rfl, hl⟩
    (try go_wp2_with fail)
    have hR' := (hl.block r (Array.getElem?_eq_some_iff.1 hR).1).trans hR
    have hB' := hB.trans (hl.mono hB.size)
    clear hR hB hl hHeld
    have hR := hR'; have hB := hB'
    clear hR' hB'
    refine hK.out _ _ hB (fun hHeld => ?_)
    clear hK K
    (try simp only [Act.put, List.setIfInBounds_toArray, List.set_cons_zero, List.set_cons_succ, List.getElem_toArray, List.getElem_cons_zero, List.getElem_cons_succ])
    refine wpAnyH_ready (rs := [8]) (by kernel_rfl) (by simp) (AllReadyH.cons rfl (fun K hK => ?_) AllReadyH.nil)
    go_simp
    refine (HS1.out _ hB).mono ?_
    rintro e w7 ⟨rfl, hl⟩
    (try go_wp2_with fail)
    have hR' := (hl.block r (Array.getElem?_eq_some_iff.1 hR).1).trans hR
    have hB' := hB.trans (hl.mono hB.size)
    clear hR hB hl hHeld
    have hR := hR'; have hB := hB'
    clear hR' hB'
    refine hK.out _ _ hB (fun hHeld => ?_)
    clear hK K
    (try simp only [Act.put, List.setIfInBounds_toArray, List.set_cons_zero, List.set_cons_succ, List.getElem_toArray, List.getElem_cons_zero, List.getElem_cons_succ])
    refine wpAnyH_take (i := 9) rfl (by kernel_rfl) (by kernel_rfl) (by kernel_rfl) (fun _ _ _ h => h) (Or.inl ⟨by rfl, by intro w hSw; (obtain ⟨c0, c1, c2, c3, c4, c5⟩ := bx _ hSw; obtain ⟨k0, k1, k2, k3, k4, k5, k6⟩ := hrow _ hSw); (go_simp <;> with_reducible rfl)⟩) (by assumption) ?_
    (try simp only [Act.put, List.setIfInBounds_toArray, List.set_cons_zero, List.set_cons_succ, List.getElem_toArray, List.getElem_cons_zero, List.getElem_cons_succ])
    refine wpAnyH_take (i := 10) rfl (by kernel_rfl) (by kernel_rfl) (by kernel_rfl) (fun _ _ _ h => h) (Or.inl ⟨by rfl, by intro w hSw; (obtain ⟨c0, c1, c2, c3, c4, c5⟩ := bx _ hSw; obtain ⟨k0, k1, k2, k3, k4, k5, k6⟩ := hrow _ hSw); (go_simp <;> with_reducible rfl)⟩) (by assumption) ?_
    (try simp only [Act.put, List.setIfInBounds_toArray, List.set_cons_zero, List.set_cons_succ, List.getElem_toArray, List.getElem_cons_zero, List.getElem_cons_succ])
    refine wpAnyH_ready (rs := [11]) (by kernel_rfl) (by simp) (AllReadyH.cons rfl (fun K hK => ?_) AllReadyH.nil)
    have z0 := cell_blk hR (i := 0) rfl
    have z1 := cell_blk hR (i := 1) rfl
    have f0 : w7.frozen? ⟨r, 0, none⟩ = false := by simp [World.frozen?, hR]
    have f1 : w7.frozen? ⟨r, 1, none⟩ = false := by simp [World.frozen?, hR]
    go_simp
    obtain ⟨wz, hwz⟩ : ∃ v, Hid (v = (w7.setCell ⟨r, 0, none⟩ (.int .i64 (p + s))).setCell ⟨r, 1, none⟩ (.int .i64 (1))) := ⟨_, rfl⟩
    rw [← hwz.out]
    have hRz : wz.heap[r]? = some (.cells #[.int .i64 (p + s), .int .i64 (1)] 75 (0, 0)) := by rw [hwz.out]; simp [World.setCell, Array.getElem?_modify, hR]
    have hBz : Below Wc.heap.size Wc wz := by rw [hwz.out]; exact (hB.setCell (p := ⟨r, 0, none⟩) hrr _).setCell (p := ⟨r, 1, none⟩) hrr _
    clear z0 z1 f0 f1 hR hB hHeld hwz
    refine hK.out _ _ hBz (fun hHeld => ?_)
    clear hK K
    (try simp only [Act.put, List.setIfInBounds_toArray, List.set_cons_zero, List.set_cons_succ, List.getElem_toArray, List.getElem_cons_zero, List.getElem_cons_succ])
    refine wpAnyH_done (by kernel_rfl) ?_ _
    have HRZ := Lib.hid hRz; have HBZ := Lib.hid hBz
    clear hRz hBz hHeld
    go_wp2
    exact bodyPost_ret (results_cell_span rfl _ _ r _ _ rfl (cell_blk HRZ.out (i := 0) rfl) (cell_blk HRZ.out (i := 1) rfl)) rfl ⟨by rw [HX.out], HB.out.trans (HBZ.out.mono HB.out.size)⟩
end Go.Proofs.YtnemabgenaijhaaDoor
