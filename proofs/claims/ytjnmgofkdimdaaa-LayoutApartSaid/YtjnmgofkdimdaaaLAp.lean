/- LayoutApart: told as pairs; a channel's pieces; the early ends. No condition but those in the statements. LayoutApart answers true at an accepted configuration. No condition but those in the statements. LayoutApart answers true. No condition but those in the statements. -/
import Derived.Test.YtjnmgofkdimdaaaLChain
import Derived.Test.YtjnmgofkdimdaaaLCells
import Derived.Test.YtjnmgofkdimdaaaLWakes
import Derived.BigQuiet
import Derived.IntWalk
namespace Go.Proofs.Ytjnmgofkdimdaaa
open Go.RowKit Go.Sort Go.ChangeShapes Go.WideShapes
set_option linter.unusedVariables false
set_option linter.unusedSimpArgs false

theorem CBox.cells {W w' : World} {b : Nat} {c : Cfg} {x : CfgAt} (h : CBox W b c x) (hb : Below W.heap.size W w') : w'.cell? ⟨b, 0, none⟩ = some (.slice x.pa c.parts.length x.pc) ∧ w'.cell? ⟨b, 1, none⟩ = some (.slice x.ca c.chans.length x.cc) ∧ w'.cell? ⟨b, 2, none⟩ = some (.int .i64 c.len0) ∧
  w'.cell? ⟨b, 3, none⟩ = some (.slice x.aa c.win0.length x.ac) ∧ w'.cell? ⟨b, 4, none⟩ = some (.int .i64 c.len1) ∧ w'.cell? ⟨b, 5, none⟩ = some (.slice x.ba c.win1.length x.bc) := h w' hb
theorem allS_wf (c : Cfg) : wfR [.i64, .i64] ((allS c).map two) := by rw [allS_two]; exact spansL_wf c
theorem told_pairs (c : Cfg) (xa : CfgAt) (w : World) (hx : CfgIn w w.heap.size c xa) (wx : CfgWf c) (lx : CfgFew c) :
    Calls Try.prog 20 #[.agg (cfgCells c xa), .int .i64 99] w fun e w' => ∃ A cap, e = .returned (.slice A (allS c).length cap) ∧ PairRow w' w'.heap.size A (allS c) ∧ Below w.heap.size w w' :=
  (told8_all c xa w hx wx lx).mono fun e w' h => by
    obtain ⟨A, cap, rfl, hr, hb⟩ := h.row (allS_wf c)
    exact ⟨A, cap, by rw [List.length_map], hr.pairs, hb⟩
/-- Where the pieces of channel k begin, of what size each is, how many there are. -/
theorem buf_pcs {c : Cfg} (hq : acceptsB c = true) {k : Nat} (hk : k < c.chans.length) (h0 : fld (row c.chans k) 0 = 1) {i : Nat} (hi : i < 4) :
    bufSpan c (k : Int) ((i : Int) / 2) ((i : Int) % 2) = (beforeN c k + 3 + (i : Int) * (fld (row c.chans k) 3 + 2), fld (row c.chans k) 3 + 2) := by
  have e : bufSpan c (k : Int) ((i : Int) / 2) ((i : Int) % 2) = (beforeN c k + 3 + ((i : Int) / 2) * 2 * (fld (row c.chans k) 3 + 2) + ((i : Int) % 2) * (fld (row c.chans k) 3 + 2), fld (row c.chans k) 3 + 2) := by
    refine (if_pos ⟨(chanB_iff hq _).2 (by omega), ?_⟩).trans ?_
    · rw [Int.toNat_natCast]
    · rw [Int.toNat_natCast]; exact ⟨h0, by omega, by omega, by omega, by omega⟩
  rw [e, Int.add_assoc (beforeN c k + 3), ← Int.add_mul]
  rw [show (i : Int) / 2 * 2 + (i : Int) % 2 = (i : Int) by omega]
theorem cell_pcs {c : Cfg} (hq : acceptsB c = true) {k : Nat} (hk : k < c.chans.length) (h0 : fld (row c.chans k) 0 = 2) {i : Nat} (hi : (i : Int) < fld (row c.chans k) 4) :
    cellSpan c (k : Int) (i : Int) = (beforeN c k + 1 + (i : Int) * (fld (row c.chans k) 3 + 1), fld (row c.chans k) 3 + 1) := by
  refine (if_pos ⟨(chanB_iff hq _).2 (by omega), ?_⟩).trans ?_
  · rw [Int.toNat_natCast]
  · rw [Int.toNat_natCast]; exact ⟨h0, by omega, hi⟩
theorem pcsN_get (B sz : Int) {m i : Nat} (hi : i < m) : (pcsN B sz m).getD i (0, 0) = (B + (i : Int) * sz, sz) := by
  simp [pcsN, List.getD_eq_getElem?_getD, hi]

set_option maxRecDepth 100000 in
set_option maxHeartbeats 1600000 in
theorem lapart_great (c : Cfg) (x : CfgAt) (w : World) (hx : CfgIn w w.heap.size c x) (wx : CfgWf c) (hg : (!cfgLe 100 c) = true) : Calls Try.prog 5 #[.agg (cfgCells c x)] w fun e w' => e = .returned (.bool true) ∧ Below w.heap.size w w' := by
  obtain ⟨W, HW, hB0, -, bx⟩ := one_cbox w c x 29
  have hxW := hx.later hB0
  have HB0 := Lib.hid hB0; have HXW := Lib.hid hxW
  simp only [cfgCells] at HW ⊢
  clear hx hB0 hxW
  go_enter Try.func5, Try.ntmps5
  go_wp2_with (rw [← HW.out])
  refine (wakes_b W).mono ?_
  rintro e V ⟨rfl, hbV⟩
  have hxV := HXW.out.later hbV
  obtain ⟨q0, q1, q2, q3, q4, q5⟩ := (bx.on hbV).quiet
  have HB := Lib.hid (HB0.out.trans (hbV.mono HB0.out.size))
  have hbc := Below.refl V.heap.size V
  clear bx hbV
  have HG := Lib.hid (fun d os => Calls.regrown_of (great_is c x true (grow (redrawn V d) os) hg))
  simp only [cfgCells] at HG
  clear hxV
  go_wp2_with (((first | with_reducible refine wpList_on hbc ?_ | with_reducible refine wp_on hbc (by kernel_rfl) (by kernel_rfl) ?_); (repeat (first | go_big_quiet_step (first | with_reducible exact HG.out _ _))); with_reducible refine wpQuiet_nil ?_; intro wc hbc))
  go_ret
  exact ⟨rfl, HB.out.trans (hbc.mono HB.out.size)⟩

set_option maxRecDepth 100000 in
set_option maxHeartbeats 1600000 in
theorem lapart_not (c : Cfg) (x : CfgAt) (w : World) (hx : CfgIn w w.heap.size c x) (wx : CfgWf c) (hg : (!cfgLe 100 c) = false) (lx : CfgFew c) (hq : acceptsB c = false) : Calls Try.prog 5 #[.agg (cfgCells c x)] w fun e w' => e = .returned (.bool true) ∧ Below w.heap.size w w' := by
  obtain ⟨W, HW, hB0, -, bx⟩ := one_cbox w c x 29
  have hxW := hx.later hB0
  have HB0 := Lib.hid hB0; have HXW := Lib.hid hxW
  simp only [cfgCells] at HW ⊢
  clear hx hB0 hxW
  go_enter Try.func5, Try.ntmps5
  go_wp2_with (rw [← HW.out])
  refine (wakes_b W).mono ?_
  rintro e V ⟨rfl, hbV⟩
  have hxV := HXW.out.later hbV
  obtain ⟨q0, q1, q2, q3, q4, q5⟩ := (bx.on hbV).quiet
  have HB := Lib.hid (HB0.out.trans (hbV.mono HB0.out.size))
  have hbc := Below.refl V.heap.size V
  clear bx hbV
  have HG := Lib.hid (fun d os => Calls.regrown_of (great_is c x false (grow (redrawn V d) os) hg))
  have HA := Lib.hid (fun d os => Calls.regrown_of (racc_b c x false (grow (redrawn V d) os) (hxV.later (below_regrown V d os)) wx lx hq))
  simp only [cfgCells] at HG HA
  clear hxV
  go_wp2_with (((first | with_reducible refine wpList_on hbc ?_ | with_reducible refine wp_on hbc (by kernel_rfl) (by kernel_rfl) ?_); (repeat (first | go_big_quiet_step (first | with_reducible exact HG.out _ _ | with_reducible exact HA.out _ _))); with_reducible refine wpQuiet_nil ?_; intro wc hbc))
  go_ret
  exact ⟨rfl, HB.out.trans (hbc.mono HB.out.size)⟩
end Go.Proofs.Ytjnmgofkdimdaaa

namespace Go.Proofs.Ytjnmgofkdimdaaa
open Go.RowKit Go.Sort Go.ChangeShapes Go.WideShapes
set_option linter.unusedVariables false
set_option linter.unusedSimpArgs false

set_option maxRecDepth 100000 in
set_option maxHeartbeats 8000000 in
theorem lapart_acc (c : Cfg) (x : CfgAt) (w : World) (hx : CfgIn w w.heap.size c x) (wx : CfgWf c) (hg : (!cfgLe 100 c) = false) (lx : CfgFew c) (hq : acceptsB c = true) : Calls Try.prog 5 #[.agg (cfgCells c x)] w fun e w' => e = .returned (.bool true) ∧ Below w.heap.size w w' := by
  obtain ⟨i0, hi0, hz0, hz1, hz2⟩ := info_parts Try.infoSp
  obtain ⟨W, HW, hB0, -, bx⟩ := one_cbox w c x 29
  obtain ⟨pa, pc, ca, cc, aa, ac, ba, bc⟩ := x
  have hxW := hx.later hB0
  have HB0 := Lib.hid hB0; have HXW := Lib.hid hxW
  simp only [cfgCells] at HW ⊢
  clear hx hB0 hxW
  go_enter Try.func5, Try.ntmps5
  go_wp2_with (rw [← HW.out])
  refine (wakes_b W).mono ?_
  rintro e V ⟨rfl, hbV⟩
  have hxV := HXW.out.later hbV
  obtain ⟨q0, q1, q2, q3, q4, q5⟩ := (bx.on hbV).quiet
  have HB := Lib.hid (HB0.out.trans (hbV.mono HB0.out.size))
  have bxV := bx.on hbV
  have HXV := Lib.hid hxV
  have hbc := Below.refl V.heap.size V
  clear bx hbV
  have HG := Lib.hid (fun d os => Calls.regrown_of (great_is c ⟨pa, pc, ca, cc, aa, ac, ba, bc⟩ false (grow (redrawn V d) os) hg))
  have HA := Lib.hid (fun d os => Calls.regrown_of (racc_b c ⟨pa, pc, ca, cc, aa, ac, ba, bc⟩ true (grow (redrawn V d) os) (hxV.later (below_regrown V d os)) wx lx hq))
  simp only [cfgCells] at HG HA
  have HQ := Lib.hid hq
  clear hxV hg hq
  go_wp2_with (((first | with_reducible refine wpList_on hbc ?_ | with_reducible refine wp_on hbc (by kernel_rfl) (by kernel_rfl) ?_); (repeat (first | go_big_quiet_step (first | with_reducible exact HG.out _ _ | with_reducible exact HA.out _ _))); with_reducible refine wpQuiet_nil ?_; intro wc hbc; obtain ⟨c0, c1, c2, c3, c4, c5⟩ := CBox.cells bxV hbc))
  have HTL := Lib.hid (told_pairs c ⟨pa, pc, ca, cc, aa, ac, ba, bc⟩ wc (HXV.out.later hbc) wx lx)
  simp only [cfgCells] at HTL
  refine HTL.out.mono ?_
  rintro e V1 ⟨AT, capT, rfl, hrow, hb1⟩
  have hB1 := hbc.trans (hb1.mono hbc.size)
  have HB1 := Lib.hid hB1
  have bx1 := bxV.on hB1
  have HX1 := Lib.hid (HXV.out.later hB1)
  obtain ⟨hch, hsum⟩ := chained_all HQ.out
  have hxl := allS_len c
  have hz22 : 0 ≤ sizeN c ∧ sizeN c ≤ 1488 := by rw [show sizeN c = beforeN c c.chans.length from if_pos HQ.out]; exact beforeN_in (accd_of HQ.out) (Nat.le_refl _)
  have HAP := Lib.hid (chained_apart hch)
  have HSZ := Lib.hid (fun W' (hb : Below V1.heap.size V1 W') => size8_b c ⟨pa, pc, ca, cc, aa, ac, ba, bc⟩ W' (HX1.out.later hb) wx lx)
  have HTO := Lib.hid (fun W' (hb : Below V1.heap.size V1 W') => told_pairs c ⟨pa, pc, ca, cc, aa, ac, ba, bc⟩ W' (HX1.out.later hb) wx lx)
  obtain ⟨z, hz⟩ : ∃ z, sizeN c = z := ⟨_, rfl⟩
  obtain ⟨xs, hxs⟩ : ∃ xs, allS c = xs := ⟨_, rfl⟩
  rw [hz] at hsum hz22 HSZ
  rw [hxs] at hch hsum hxl HAP HTO hrow
  simp only [hxs]
  have HCS := Lib.hid (And.intro hch hsum)
  simp only [cfgCells] at HSZ HTO
  clear hbc hb1 hB1 bxV q0 q1 q2 q3 q4 q5 c0 c1 c2 c3 c4 c5 HG HA hz hxs hch hsum HTL
  go_wp2
  go_loopw [3, 27] (fun ee ix wr => ∃ (k : Nat) (e : Int), k ≤ xs.length ∧ ix = .int .i64 k ∧ ee = .int .i64 e ∧ chained e (xs.drop k) ∧ e + sumS (xs.drop k) = z ∧ 0 ≤ e ∧ Below V1.heap.size V1 wr) (fun _ ix _ => xs.length - (intOf ix).toNat)
  case atStart => exact ⟨0, 0, Nat.zero_le _, rfl, rfl, by simpa using HCS.out.1, by simpa using HCS.out.2, by omega, Below.refl _ _⟩
  case round =>
    obtain ⟨k, e, hk, rfl, rfl, hc, hs, he, hbr⟩ := hrel
    by_cases hlt : k < xs.length
    · obtain ⟨b, o, rfl, k0, k1⟩ := hrow.at_ hlt
      have hd : xs.drop k = xs.getD k (0, 0) :: xs.drop (k + 1) := by rw [List.drop_eq_getElem_cons hlt]; simp [List.getD_eq_getElem?_getD, hlt]
      obtain ⟨f, s, hp⟩ : ∃ f s, xs.getD k (0, 0) = (f, s) := ⟨_, _, rfl⟩
      rw [hp] at k0 k1 hd
      rw [hd] at hc hs
      obtain ⟨rfl, h0, hc2⟩ := hc
      have hs2 : f + (s + sumS (xs.drop (k + 1))) = z := hs
      have hn2 := sumS_nonneg hc2
      simp only at k0 k1
      have c0 := cell_of (cell_on k0 hbr)
      have c1 := cell_of (cell_on k1 hbr)
      obtain ⟨U, HU, hbu, hsu, j0, j1⟩ := one_box wr (.int .i64 f) (.int .i64 s) 36
      have hbc := Below.refl U.heap.size U
      have HBU := Lib.hid (hbr.trans (hbu.mono hbr.size))
      have HC2 := Lib.hid hc2
      have HS2 := Lib.hid (show f + s + sumS (xs.drop (k + 1)) = z by omega)
      have s0 : decide (s < 0) = false := decide_eq_false (by omega)
      have v0 := IntWalk.i64_in (f + s) (by omega)
      have v1 := IntWalk.i64_in ((k : Int) + 1) (by omega)
      have hfs : 0 ≤ f + s := by omega
      clear hp hd hs hs2 hn2 hc2 hbu hbr k0 k1 hrow
      go_wp2_with ((try rw [← HU.out]); (first | with_reducible refine wpList_on hbc ?_ | with_reducible refine wp_on hbc (by kernel_rfl) (by kernel_rfl) ?_); (repeat (first | go_big_quiet_step (first | fail))); with_reducible refine wpQuiet_nil ?_; intro wc hbc)
      go_roundw
      case rel => exact ⟨k + 1, f + s, by omega, by go_num, rfl, HC2.out, HS2.out, hfs, HBU.out.trans (hbc.mono HBU.out.size)⟩
      case measure => simp [intOf]; omega
    · have hkk : k = xs.length := by omega
      subst hkk
      have hez : e = z := by rw [List.drop_length] at hs; simpa [sumS] using hs
      subst hez
      obtain ⟨c0, c1, c2, c3, c4, c5⟩ := bx1 _ hbr
      clear hs hc hrow HCS
      go_wp2_with fail
      refine (HSZ.out _ hbr).mono ?_
      rintro e1 w2 ⟨rfl, hb2⟩
      have hB2 := hbr.trans (hb2.mono hbr.size)
      obtain ⟨d0, d1, d2, d3, d4, d5⟩ := bx1 _ hB2
      clear c0 c1 c2 c3 c4 c5 hb2
      go_wp2_with fail
      refine (HTO.out _ hB2).mono ?_
      rintro e1 w3 ⟨A3, cap3, rfl, hrow3, hb3⟩
      have hB3 := hB2.trans (hb3.mono hB2.size)
      have HSA := Lib.hid (One.sapart_b One.sort_b xs A3 cap3 w3 (by omega) hrow3)
      rw [HAP.out] at HSA
      clear hrow3 hb3 hB2 d0 d1 d2 d3 d4 d5
      go_wp2_with fail
      refine HSA.out.mono ?_
      rintro e1 V3 ⟨rfl, hb4⟩
      have hB4 := hB3.trans (hb4.mono hB3.size)
      have HF3 := Lib.hid (HB.out.trans ((HB1.out.trans (hB4.mono HB1.out.size)).mono HB.out.size))
      have bx3 := bx1.on hB4
      have HX3 := Lib.hid (HX1.out.later hB4)
      obtain ⟨d0, d1, d2, d3, d4, d5⟩ := bx1 _ hB4
      have hc8 := (accd_of HQ.out).chans
      clear hbr hB3 hb4 hB4 HSA HSZ HTO HAP bx1 he
      go_wp2
      clear d0 d1 d2 d3 d4 d5
      go_loopw [58] (fun ix wr => ∃ k : Nat, k ≤ c.chans.length ∧ ix = .int .i64 k ∧ Below V3.heap.size V3 wr) (fun ix _ => c.chans.length - (intOf ix).toNat)
      case atStart => exact ⟨0, Nat.zero_le _, rfl, Below.refl _ _⟩
      case round =>
        obtain ⟨k, hk, rfl, hbc⟩ := hrel
        obtain ⟨wo, rfl⟩ : ∃ wo, wo = wr := ⟨_, rfl⟩
        by_cases hlt : k < c.chans.length
        · obtain ⟨b, o, x0, x1, x2, x3, x4, x5, x6, e0, _, e1, -, hrw⟩ := HX3.out.rc.at7 wx.wc hlt
          obtain ⟨q0, q1, q2, q3, q4, q5, q6⟩ := hrw _ hbc
          obtain ⟨a1, a2, a3, a4, a5, a6, a7, _⟩ := (accd_of HQ.out).chan k hlt
          have hbn := beforeN_in (accd_of HQ.out) (k := k) (by omega)
          have hsr := srcN_of (accd_of HQ.out) hlt
          have hcs := (show srcSpan c (k : Int) = (beforeN c k, srcN (row c.chans k)) from (if_pos ((chanB_iff HQ.out _).2 (by omega))).trans (by rw [Int.toNat_natCast]))
          rw [row_at e1] at a1 a2 a3 a4 a5 a6 a7 hsr hcs
          have b1 : x0 = 1 ∨ x0 = 2 := a1
          have b2 : 1 ≤ x3 := a2
          have b3 : x3 ≤ 16 := a3
          have b4 : 0 ≤ x4 := a4
          have b5 : x4 ≤ 8 := a5
          have a6 : x0 = 1 → x4 = 0 := a6
          have s0 : (0 : Int) ≤ (k : Int) := by omega
          have s1 : (k : Int) < (c.chans.length : Int) := by omega
          obtain ⟨sN, hsN⟩ : ∃ sN, srcN [x0, x1, x2, x3, x4, x5, x6] = sN := ⟨_, rfl⟩
          rw [hsN] at hsr hcs
          have SRC := Lib.hid hcs; have E1 := Lib.hid e1
          obtain ⟨p, hp⟩ : ∃ p, beforeN c k = p := ⟨_, rfl⟩
          rw [hp] at SRC hbn
          have HBN := Lib.hid hbn
          obtain ⟨U, hU⟩ : ∃ u, Hid (u = wo.alloc (.cells #[.int .i64 x0, .int .i64 x1, .int .i64 x2, .int .i64 x3, .int .i64 x4, .int .i64 x5, .int .u32 x6] 48)) := ⟨_, rfl⟩
          have hbU : Below wo.heap.size wo U := by rw [hU.out]; exact (Below.refl _ _).alloc (Nat.le_refl _) _
          have hxb : U.heap[wo.heap.size]? = some (.cells #[.int .i64 x0, .int .i64 x1, .int .i64 x2, .int .i64 x3, .int .i64 x4, .int .i64 x5, .int .u32 x6] 48 (0, 0)) := by rw [hU.out]; exact heap_alloc_new _ _
          have HBU := Lib.hid hbU
          have hbcU := hbc.trans (hbU.mono hbc.size)
          have bxU := bx3.on hbcU
          have HXU := Lib.hid (HX3.out.later hbcU)
          have HBC := Lib.hid hbc
          have HXB := Lib.hid hxb
          have HP := Lib.hid hp; have HSNN := Lib.hid hsN
          clear e1 hrw a1 a2 a3 a4 a5 a7 hbn hcs hbU hbcU hbc hxb hp hsN
          subst e0
          rcases b1 with rfl | rfl
          · skip
            obtain ⟨B, hB0⟩ : ∃ B, p + 3 = B := ⟨_, rfl⟩
            obtain ⟨sz, hsz⟩ : ∃ sz, x3 + 2 = sz := ⟨_, rfl⟩
            obtain rfl : x4 = 0 := a6 rfl
            have BUF := Lib.hid (fun (i : Nat) (hi : i < 4) => show bufSpan c (k : Int) ((i : Int) / 2) ((i : Int) % 2) = (B + (i : Int) * sz, sz) by
              have h := buf_pcs HQ.out hlt (by rw [row_at E1.out]; rfl) hi
              rw [row_at E1.out, HP.out] at h
              rw [h, ← hB0, ← hsz]; rfl)
            have hsn : sN = 3 + 4 * sz := by rw [← HSNN.out, ← hsz]; exact (if_pos rfl).trans (by show 11 + 4 * x3 = _; omega)
            have hB1 : 0 ≤ B ∧ B ≤ 1500 := by have := HBN.out; omega
            have hs1 : 2 ≤ sz ∧ sz ≤ 18 := by omega
            have hgt : x3 < sz := by omega
            have HB0' := Lib.hid hB0; have HSN := Lib.hid hsn; have HGT := Lib.hid hgt
            have hm1 : 0 ≤ (4 : Int) * sz := Int.mul_nonneg (by omega) (by omega)
            have hm2 : (4 : Int) * sz ≤ 8 * 18 := Int.mul_le_mul (by omega) (by omega) (by omega) (by omega)
            have HWF := Lib.hid (pcs_wf (B := B) (sz := sz) (by omega) (by omega) (by omega) (by omega) (m := 4) (by omega))
            have HCH := Lib.hid (chained_apart (chained_pcs B sz (by omega) 4).1)
            have HM := Lib.hid (And.intro hm1 hm2)
            clear hB0 hsz hsn hgt hm1 hm2
            obtain ⟨c0, c1, c2, c3, c4, c5⟩ := bxU _ (Below.refl _ _)
            have t0 := cell_blk HXB.out (i := 0) rfl
            go_wp2_with (rw [← hU.out])
            clear c0 c1 c2 c3 c4 c5 t0
            go_loopw [8, 66] (fun v ix wv => ∃ i : Nat, i ≤ 4 ∧ ix = .int .i64 i ∧ OwnsOff wv U.heap.size 36 2 v i (scells (pcsN B sz i)) ∧ Below U.heap.size U wv) (fun _ ix _ => 4 - (intOf ix).toNat)
            case atStart => exact ⟨0, Nat.zero_le _, rfl, OwnsOff.nil _ _ _ _, Below.refl _ _⟩
            case round =>
              obtain ⟨i, hi, rfl, hown, hB⟩ := hrel
              by_cases hlt : i < 4
              · obtain ⟨c0, c1, c2, c3, c4, c5⟩ := bxU _ hB
                have hcl := buffer_b c ⟨pa, pc, some ⟨b, o, none⟩, cc, aa, ac, ba, bc⟩ (k : Int) ((i : Int) / 2) ((i : Int) % 2) wr (HXU.out.later hB) wx lx
                rw [BUF.out i hlt] at hcl
                have HCL := Lib.hid hcl
                have HN := Lib.hid (pcsN_succ B sz i)
                obtain ⟨ls, hls⟩ : ∃ ls, pcsN B sz i = ls := ⟨_, rfl⟩
                rw [hls] at hown HN
                obtain ⟨y, hy⟩ : ∃ y, B + (i : Int) * sz = y := ⟨_, rfl⟩
                rw [hy] at HCL HN
                simp only [cfgCells] at HCL
                clear hls hy hcl
                go_wp2_with fail
                refine HCL.out.mono ?_
                rintro e w6 ⟨rfl, hl⟩
                have hown6 := hown.keptB hl
                have hB6 := hB.trans (hl.mono hB.size)
                clear hown hB hl c0 c1 c2 c3 c4 c5
                go_wp2_with (at_builtin; refine wpList_append_off _ rfl _ _ 32 rfl U.heap.size 36 i0 (.agg #[.int .i64 0, .int .i64 0]) 2 16 Try.underlying32 hi0 hz0 hz1 hz2 rfl (by decide) _ _ _ rfl (hown6.keptB ((Below.refl _ _).alloc (Nat.le_refl _) _)) ⟨w6.heap.size, 0, none⟩ 1 1 [.int .i64 (y), .int .i64 (sz)] rfl rfl (news_new' _ _ _) (by simp [Value.oneCell']) (by unfold maxLen; omega) (by omega) (by have := hB6.size; simp; omega) ?_)
                intro v' w7 hown' hgr _
                have HB7 := Lib.hid ((hB6.alloc hB6.size (.cells #[.int .i64 y, .int .i64 sz] 36)).grown hgr (by have := hB6.size; simp; omega) (fun g e => (hown6.lt g e).1))
                have HW7 := Lib.hid (show OwnsOff w7 U.heap.size 36 2 v' (i + 1) (scells (ls ++ [(y, sz)])) by rw [scells_app]; exact hown')
                clear hown' hgr hown6 hB6
                go_wp2
                go_roundw
                case rel => exact ⟨i + 1, by omega, by go_num, by rw [HN.out]; exact HW7.out, HB7.out⟩
                case measure => simp [intOf]; omega
              · have hi4 : i = 4 := by omega
                subst hi4
                have tb := cell_blk ((hB.block _ (Array.getElem?_eq_some_iff.1 HXB.out).1).trans HXB.out) (i := 4) rfl
                have HOW := Lib.hid hown; have HBW := Lib.hid hB
                clear hown hB BUF
                go_wp2
                clear tb
                go_loopw [8, 82] (fun v ix wz => ix = .int .i64 0 ∧ OwnsOff wz U.heap.size 36 2 v 4 (scells (pcsN B sz 4)) ∧ Below U.heap.size U wz) (fun _ ix _ => 0)
                case atStart => exact ⟨rfl, HOW.out, HBW.out⟩
                case round =>
                  clear HOW HBW
                  obtain ⟨rfl, hown, hB⟩ := hrel
                  obtain ⟨c0, c1, c2, c3, c4, c5⟩ := bxU _ hB
                  have HSC := Lib.hid (source_b c ⟨pa, pc, some ⟨b, o, none⟩, cc, aa, ac, ba, bc⟩ (k : Int) _ (HXU.out.later hB) wx lx)
                  rw [SRC.out] at HSC
                  simp only [cfgCells] at HSC
                  obtain ⟨A2, cap2, hv2, _, hpr⟩ := own_pairs hown (pcsN_len B sz 4) HWF.out
                  cases hv2
                  go_wp2_with fail
                  refine HSC.out.mono ?_
                  rintro e w5 ⟨rfl, hl5⟩
                  obtain ⟨U2, hU2⟩ : ∃ u, Hid (u = w5.alloc (.cells #[.int .i64 p, .int .i64 sN] 36)) := ⟨_, rfl⟩
                  have hb2 : Below w5.heap.size w5 U2 := by rw [hU2.out]; exact (Below.refl _ _).alloc (Nat.le_refl _) _
                  have hsb : U2.heap[w5.heap.size]? = some (.cells #[.int .i64 p, .int .i64 sN] 36 (0, 0)) := by rw [hU2.out]; exact heap_alloc_new _ _
                  have hl2 := hl5.trans (hb2.mono hl5.size)
                  have hBU2 := hB.trans (hl2.mono hB.size)
                  have hpr2 := (hpr.below hl2).more hl2.size
                  have HBU2 := Lib.hid hBU2
                  have hxb2 := (hBU2.block _ (Array.getElem?_eq_some_iff.1 HXB.out).1).trans HXB.out
                  have X3 : ∀ r : Regrown, (grow (redrawn U2 r.d) r.os).cell? ⟨wo.heap.size, 3, none⟩ = some (.int .i64 x3) := fun r => cell_regrown (cell_blk hxb2 (i := 3) rfl) r.d r.os
                  have S0 : ∀ r : Regrown, (grow (redrawn U2 r.d) r.os).cell? ⟨w5.heap.size, 0, none⟩ = some (.int .i64 p) := fun r => cell_regrown (cell_blk hsb (i := 0) rfl) r.d r.os
                  have S1 : ∀ r : Regrown, (grow (redrawn U2 r.d) r.os).cell? ⟨w5.heap.size, 1, none⟩ = some (.int .i64 sN) := fun r => cell_regrown (cell_blk hsb (i := 1) rfl) r.d r.os
                  have hpl := pcsN_len B sz 4
                  have HXS := Lib.hid X3; have HS0 := Lib.hid S0; have HS1 := Lib.hid S1
                  clear hown hB hl5 hb2 hsb hl2 hBU2 hpr hxb2 X3 S0 S1 c0 c1 c2 c3 c4 c5 HSC
                  go_wp2_with (rw [← hU2.out])
                  go_loopw [98] (fun ix wz => ∃ i : Nat, i ≤ 4 ∧ ix = .int .i64 i ∧ Below U2.heap.size U2 wz) (fun ix _ => 4 - (intOf ix).toNat)
                  case atStart => exact ⟨0, Nat.zero_le _, rfl, Below.refl _ _⟩
                  case round =>
                    obtain ⟨j, hj, rfl, hbr⟩ := hrel
                    by_cases hlj : j < 4
                    · obtain ⟨b2, o2, rfl, k0, k1⟩ := hpr2.at_ (show j < (pcsN B sz 4).length by omega)
                      rw [pcsN_get B sz hlj] at k0 k1
                      have q1 : 0 ≤ (j : Int) * sz := Int.mul_nonneg (by omega) (by omega)
                      have q2 : ((j : Int) + 1) * sz ≤ (4 : Int) * sz := Int.mul_le_mul_of_nonneg_right (by omega) (by omega)
                      rw [Int.add_mul, Int.one_mul] at q2
                      obtain ⟨f, hf⟩ : ∃ f, B + (j : Int) * sz = f := ⟨_, rfl⟩
                      have hfB : B ≤ f ∧ f + sz ≤ B + (4 : Int) * sz := by omega
                      rw [hf] at k0 k1
                      simp only at k0 k1
                      have n0 := HBN.out
                      have n1 := HB0'.out
                      have n2 := HSN.out
                      have n3 := HM.out
                      have HIN : One.inB f sz (p + 3) (sN - 3) = true := in_of (by omega) (by omega) (by omega) (by omega) (by omega)
                      have le0 : decide (sz ≤ x3) = false := decide_eq_false (by have := HGT.out; omega)
                      have v0 := IntWalk.i64_in (p + 3) (by omega)
                      have v1 := IntWalk.i64_in (sN - 3) (by omega)
                      have v2 := IntWalk.i64_in ((j : Int) + 1) (by omega)
                      have e0 := cell_of (cell_on k0 hbr)
                      have e1 := cell_of (cell_on k1 hbr)
                      obtain ⟨Y, HY, hby, hsy, j0, j1⟩ := one_box wr (.int .i64 f) (.int .i64 sz) 36
                      have hby2 := hbr.trans (hby.mono hbr.size)
                      have y3 := cell_on HXS.out hby2
                      have z0 := cell_on HS0.out hby2
                      have z1 := cell_on HS1.out hby2
                      have HBY := Lib.hid hby2
                      have hbc := Below.refl Y.heap.size Y
                      clear q1 q2 hf hfB n0 n1 n2 n3 k0 k1 hbr hby hby2 hpr2
                      go_wp2_with ((try rw [← HY.out]); (first | with_reducible refine wpList_on hbc ?_ | with_reducible refine wp_on hbc (by kernel_rfl) (by kernel_rfl) ?_); (repeat (first | go_big_quiet_step (first | exact regrown_is (by assumption) (One.rin_b _ _ _ _ _)))); with_reducible refine wpQuiet_nil ?_; intro wc hbc)
                      go_roundw
                      case rel => exact ⟨j + 1, by omega, by go_num, HBY.out.trans (hbc.mono HBY.out.size)⟩
                      case measure => simp [intOf]; omega
                    · have hAP := One.rapart_b (pcsN B sz 4) A2 cap2 _ (by omega) ((hpr2.below hbr).more hbr.size)
                      rw [HCH.out, hpl] at hAP
                      have HAP := Lib.hid hAP
                      have HBR := Lib.hid hbr
                      have v9 := IntWalk.i64_in ((k : Int) + 1) (by omega)
                      clear hAP hbr hpr2
                      go_wp2_with fail
                      refine HAP.out.mono ?_
                      rintro e w9 ⟨rfl, hl9⟩
                      have HF9 := Lib.hid (HBC.out.trans ((HBU.out.trans ((HBU2.out.trans ((HBR.out.trans (hl9.mono HBR.out.size)).mono HBU2.out.size)).mono HBU.out.size)).mono HBC.out.size))
                      clear hl9
                      go_wp2
                      go_roundw
                      case rel => exact ⟨k + 1, by omega, by go_num, HF9.out⟩
                      case measure => simp [intOf]; omega
          · skip
            obtain ⟨B, hB0⟩ : ∃ B, p + 1 = B := ⟨_, rfl⟩
            obtain ⟨sz, hsz⟩ : ∃ sz, x3 + 1 = sz := ⟨_, rfl⟩
            obtain ⟨d, hd⟩ := Int.eq_ofNat_of_zero_le b4
            subst hd
            have hd8 : d ≤ 8 := by omega
            have CEL := Lib.hid (fun (i : Nat) (hi : i < d) => show cellSpan c (k : Int) (i : Int) = (B + (i : Int) * sz, sz) by
              have h := cell_pcs HQ.out hlt (by rw [row_at E1.out]; rfl) (i := i) (by rw [row_at E1.out]; show (i : Int) < (d : Int); omega)
              rw [row_at E1.out, HP.out] at h
              rw [h, ← hB0, ← hsz]; rfl)
            have hsn : sN = 1 + (d : Int) * sz := by
              rw [← HSNN.out, ← hsz]
              refine (if_neg (by show ¬ (2 : Int) = 1; omega)).trans ?_
              show 1 + (d : Int) + (d : Int) * x3 = _
              rw [Int.mul_add, Int.mul_one]; omega
            have hB1 : 0 ≤ B ∧ B ≤ 1500 := by have := HBN.out; omega
            have hs1 : 2 ≤ sz ∧ sz ≤ 18 := by omega
            have hgt : x3 < sz := by omega
            have HB0' := Lib.hid hB0; have HSN := Lib.hid hsn; have HGT := Lib.hid hgt
            have hm1 : 0 ≤ (d : Int) * sz := Int.mul_nonneg (by omega) (by omega)
            have hm2 : (d : Int) * sz ≤ 8 * 18 := Int.mul_le_mul (by omega) (by omega) (by omega) (by omega)
            have HWF := Lib.hid (pcs_wf (B := B) (sz := sz) (by omega) (by omega) (by omega) (by omega) (m := d) (by omega))
            have HCH := Lib.hid (chained_apart (chained_pcs B sz (by omega) d).1)
            have HM := Lib.hid (And.intro hm1 hm2)
            clear hB0 hsz hsn hgt hm1 hm2
            obtain ⟨c0, c1, c2, c3, c4, c5⟩ := bxU _ (Below.refl _ _)
            have t0 := cell_blk HXB.out (i := 0) rfl
            have t4 := cell_blk HXB.out (i := 4) rfl
            go_wp2_with (rw [← hU.out])
            clear c0 c1 c2 c3 c4 c5 t0 t4
            go_loopw [8, 82] (fun v ix wv => ∃ i : Nat, i ≤ d ∧ ix = .int .i64 i ∧ OwnsOff wv U.heap.size 36 2 v i (scells (pcsN B sz i)) ∧ Below U.heap.size U wv) (fun _ ix _ => d - (intOf ix).toNat)
            case atStart => exact ⟨0, Nat.zero_le _, rfl, OwnsOff.nil _ _ _ _, Below.refl _ _⟩
            case round =>
              obtain ⟨i, hi, rfl, hown, hB⟩ := hrel
              by_cases hlt : i < d
              · obtain ⟨c0, c1, c2, c3, c4, c5⟩ := bxU _ hB
                have hcl := cell_b c ⟨pa, pc, some ⟨b, o, none⟩, cc, aa, ac, ba, bc⟩ (k : Int) (i : Int) wr (HXU.out.later hB) wx lx
                rw [CEL.out i hlt] at hcl
                have HCL := Lib.hid hcl
                have HN := Lib.hid (pcsN_succ B sz i)
                obtain ⟨ls, hls⟩ : ∃ ls, pcsN B sz i = ls := ⟨_, rfl⟩
                rw [hls] at hown HN
                obtain ⟨y, hy⟩ : ∃ y, B + (i : Int) * sz = y := ⟨_, rfl⟩
                rw [hy] at HCL HN
                simp only [cfgCells] at HCL
                clear hls hy hcl
                go_wp2_with fail
                refine HCL.out.mono ?_
                rintro e w6 ⟨rfl, hl⟩
                have hown6 := hown.keptB hl
                have hB6 := hB.trans (hl.mono hB.size)
                clear hown hB hl c0 c1 c2 c3 c4 c5
                go_wp2_with (at_builtin; refine wpList_append_off _ rfl _ _ 32 rfl U.heap.size 36 i0 (.agg #[.int .i64 0, .int .i64 0]) 2 16 Try.underlying32 hi0 hz0 hz1 hz2 rfl (by decide) _ _ _ rfl (hown6.keptB ((Below.refl _ _).alloc (Nat.le_refl _) _)) ⟨w6.heap.size, 0, none⟩ 1 1 [.int .i64 (y), .int .i64 (sz)] rfl rfl (news_new' _ _ _) (by simp [Value.oneCell']) (by unfold maxLen; omega) (by omega) (by have := hB6.size; simp; omega) ?_)
                intro v' w7 hown' hgr _
                have HB7 := Lib.hid ((hB6.alloc hB6.size (.cells #[.int .i64 y, .int .i64 sz] 36)).grown hgr (by have := hB6.size; simp; omega) (fun g e => (hown6.lt g e).1))
                have HW7 := Lib.hid (show OwnsOff w7 U.heap.size 36 2 v' (i + 1) (scells (ls ++ [(y, sz)])) by rw [scells_app]; exact hown')
                clear hown' hgr hown6 hB6
                go_wp2
                go_roundw
                case rel => exact ⟨i + 1, by omega, by go_num, by rw [HN.out]; exact HW7.out, HB7.out⟩
                case measure => simp [intOf]; omega
              · have hid : d = i := by omega
                subst hid
                obtain ⟨c0, c1, c2, c3, c4, c5⟩ := bxU _ hB
                have HSC := Lib.hid (source_b c ⟨pa, pc, some ⟨b, o, none⟩, cc, aa, ac, ba, bc⟩ (k : Int) _ (HXU.out.later hB) wx lx)
                rw [SRC.out] at HSC
                simp only [cfgCells] at HSC
                obtain ⟨A2, cap2, hv2, _, hpr⟩ := own_pairs hown (pcsN_len B sz d) HWF.out
                cases hv2
                go_wp2_with fail
                refine HSC.out.mono ?_
                rintro e w5 ⟨rfl, hl5⟩
                obtain ⟨U2, hU2⟩ : ∃ u, Hid (u = w5.alloc (.cells #[.int .i64 p, .int .i64 sN] 36)) := ⟨_, rfl⟩
                have hb2 : Below w5.heap.size w5 U2 := by rw [hU2.out]; exact (Below.refl _ _).alloc (Nat.le_refl _) _
                have hsb : U2.heap[w5.heap.size]? = some (.cells #[.int .i64 p, .int .i64 sN] 36 (0, 0)) := by rw [hU2.out]; exact heap_alloc_new _ _
                have hl2 := hl5.trans (hb2.mono hl5.size)
                have hBU2 := hB.trans (hl2.mono hB.size)
                have hpr2 := (hpr.below hl2).more hl2.size
                have HBU2 := Lib.hid hBU2
                have hxb2 := (hBU2.block _ (Array.getElem?_eq_some_iff.1 HXB.out).1).trans HXB.out
                have X3 : ∀ r : Regrown, (grow (redrawn U2 r.d) r.os).cell? ⟨wo.heap.size, 3, none⟩ = some (.int .i64 x3) := fun r => cell_regrown (cell_blk hxb2 (i := 3) rfl) r.d r.os
                have S0 : ∀ r : Regrown, (grow (redrawn U2 r.d) r.os).cell? ⟨w5.heap.size, 0, none⟩ = some (.int .i64 p) := fun r => cell_regrown (cell_blk hsb (i := 0) rfl) r.d r.os
                have S1 : ∀ r : Regrown, (grow (redrawn U2 r.d) r.os).cell? ⟨w5.heap.size, 1, none⟩ = some (.int .i64 sN) := fun r => cell_regrown (cell_blk hsb (i := 1) rfl) r.d r.os
                have hpl := pcsN_len B sz d
                have HXS := Lib.hid X3; have HS0 := Lib.hid S0; have HS1 := Lib.hid S1
                clear hown hB hl5 hb2 hsb hl2 hBU2 hpr hxb2 X3 S0 S1 c0 c1 c2 c3 c4 c5 HSC
                go_wp2_with (rw [← hU2.out])
                go_loopw [98] (fun ix wz => ∃ i : Nat, i ≤ d ∧ ix = .int .i64 i ∧ Below U2.heap.size U2 wz) (fun ix _ => d - (intOf ix).toNat)
                case atStart => exact ⟨0, Nat.zero_le _, rfl, Below.refl _ _⟩
                case round =>
                  obtain ⟨j, hj, rfl, hbr⟩ := hrel
                  by_cases hlj : j < d
                  · obtain ⟨b2, o2, rfl, k0, k1⟩ := hpr2.at_ (show j < (pcsN B sz d).length by omega)
                    rw [pcsN_get B sz hlj] at k0 k1
                    have q1 : 0 ≤ (j : Int) * sz := Int.mul_nonneg (by omega) (by omega)
                    have q2 : ((j : Int) + 1) * sz ≤ (d : Int) * sz := Int.mul_le_mul_of_nonneg_right (by omega) (by omega)
                    rw [Int.add_mul, Int.one_mul] at q2
                    obtain ⟨f, hf⟩ : ∃ f, B + (j : Int) * sz = f := ⟨_, rfl⟩
                    have hfB : B ≤ f ∧ f + sz ≤ B + (d : Int) * sz := by omega
                    rw [hf] at k0 k1
                    simp only at k0 k1
                    have n0 := HBN.out
                    have n1 := HB0'.out
                    have n2 := HSN.out
                    have n3 := HM.out
                    have HIN : One.inB f sz (p + 1) (sN - 1) = true := in_of (by omega) (by omega) (by omega) (by omega) (by omega)
                    have le0 : decide (sz ≤ x3) = false := decide_eq_false (by have := HGT.out; omega)
                    have v0 := IntWalk.i64_in (p + 1) (by omega)
                    have v1 := IntWalk.i64_in (sN - 1) (by omega)
                    have v2 := IntWalk.i64_in ((j : Int) + 1) (by omega)
                    have e0 := cell_of (cell_on k0 hbr)
                    have e1 := cell_of (cell_on k1 hbr)
                    obtain ⟨Y, HY, hby, hsy, j0, j1⟩ := one_box wr (.int .i64 f) (.int .i64 sz) 36
                    have hby2 := hbr.trans (hby.mono hbr.size)
                    have y3 := cell_on HXS.out hby2
                    have z0 := cell_on HS0.out hby2
                    have z1 := cell_on HS1.out hby2
                    have HBY := Lib.hid hby2
                    have hbc := Below.refl Y.heap.size Y
                    clear q1 q2 hf hfB n0 n1 n2 n3 k0 k1 hbr hby hby2 hpr2
                    go_wp2_with ((try rw [← HY.out]); (first | with_reducible refine wpList_on hbc ?_ | with_reducible refine wp_on hbc (by kernel_rfl) (by kernel_rfl) ?_); (repeat (first | go_big_quiet_step (first | exact regrown_is (by assumption) (One.rin_b _ _ _ _ _)))); with_reducible refine wpQuiet_nil ?_; intro wc hbc)
                    go_roundw
                    case rel => exact ⟨j + 1, by omega, by go_num, HBY.out.trans (hbc.mono HBY.out.size)⟩
                    case measure => simp [intOf]; omega
                  · have hAP := One.rapart_b (pcsN B sz d) A2 cap2 _ (by omega) ((hpr2.below hbr).more hbr.size)
                    rw [HCH.out, hpl] at hAP
                    have HAP := Lib.hid hAP
                    have HBR := Lib.hid hbr
                    have v9 := IntWalk.i64_in ((k : Int) + 1) (by omega)
                    clear hAP hbr hpr2
                    go_wp2_with fail
                    refine HAP.out.mono ?_
                    rintro e w9 ⟨rfl, hl9⟩
                    have HF9 := Lib.hid (HBC.out.trans ((HBU.out.trans ((HBU2.out.trans ((HBR.out.trans (hl9.mono HBR.out.size)).mono HBU2.out.size)).mono HBU.out.size)).mono HBC.out.size))
                    clear hl9
                    go_wp2
                    go_roundw
                    case rel => exact ⟨k + 1, by omega, by go_num, HF9.out⟩
                    case measure => simp [intOf]; omega
        · obtain ⟨c0, c1, c2, c3, c4, c5⟩ := bx3 _ hbc
          go_wp2
          go_ret
          exact ⟨rfl, HF3.out.trans (hbc.mono HF3.out.size)⟩
end Go.Proofs.Ytjnmgofkdimdaaa

namespace Go.Proofs.Ytjnmgofkdimdaaa
open Go.RowKit Go.Sort Go.ChangeShapes Go.WideShapes
set_option linter.unusedVariables false
set_option linter.unusedSimpArgs false

theorem lapart_b (c : Cfg) (x : CfgAt) (w : World) (hx : CfgIn w w.heap.size c x) (wx : CfgWf c) : Calls Try.prog 5 #[.agg (cfgCells c x)] w fun e w' => e = .returned (.bool true) ∧ Below w.heap.size w w' := by
  cases hg : cfgLe 100 c with
  | false => exact lapart_great c x w hx wx (by rw [hg]; rfl)
  | true =>
    have lx := cfgLe_few hg (by omega)
    cases hq : acceptsB c with
    | false => exact lapart_not c x w hx wx (by rw [hg]; rfl) lx hq
    | true => exact lapart_acc c x w hx wx (by rw [hg]; rfl) lx hq
end Go.Proofs.Ytjnmgofkdimdaaa
