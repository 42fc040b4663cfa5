/- The document's Accepts, source, before, channel, Size, as contracts. No condition but those in the statements. The document's channel, Size, Private, Source, Dest, as contracts. No condition but those in the statements. -/
import Derived.Test.YtnemabgenaijhaaDoorLay
import Derived.Test.YtnemabgenaijhaaDoorRAll
import Derived.BigQuiet
import Derived.IntWalk
namespace Go.Proofs.YtnemabgenaijhaaDoor
open Go.RowKit Go.Sort Go.ChangeShapes Go.WideShapes
set_option linter.unusedVariables false
set_option linter.unusedSimpArgs false

theorem racc_b (c : Cfg) (x : CfgAt) (q : Bool) (w : World) (hx : CfgIn w w.heap.size c x) (wx : CfgWf c) (lx : CfgFew c) (hq : acceptsB c = q) : Calls Tryd.prog 22 #[.agg (cfgCells c x)] w fun e w' => e = .returned (.bool q) ∧ Below w.heap.size w w' := by
  obtain ⟨W, HW, hB, -, bx⟩ := one_cbox w c x 35
  have hx := hx.later hB
  obtain ⟨c0, c1, c2, c3, c4, c5⟩ := bx _ (Below.refl _ _)
  have HB := Lib.hid hB
  have hF := rall_b c x W hx wx lx
  have hl := allB_len c 17
  obtain ⟨ds, hds⟩ : ∃ ds, allB c 17 = ds := ⟨_, rfl⟩
  have hdq : ((ds.length : Int) == 0) = q := by
    rw [← hq, ← hds]
    unfold acceptsB
    rw [Bool.eq_iff_iff]
    simp
  rw [hds] at hF hl
  simp only [cfgCells]
  clear hB hds hq
  go_enter Tryd.func22, Tryd.ntmps22
  go_wp2_with (rw [← HW.out])
  refine hF.mono ?_
  rintro e w5 ⟨v, rfl, hown, hb5⟩
  obtain ⟨A', c', rfl, _⟩ := hown.slice
  have HF := Lib.hid (HB.out.trans (hb5.mono HB.out.size))
  clear hF hb5 hown
  go_wp2
  go_ret
  exact ⟨rfl, HF.out⟩
theorem rsrc_b (x0 x1 x2 x3 x4 x5 x6 : Int) (w : World) (h0 : x0 = 1 ∨ x0 = 2) (h1 : 1 ≤ x3) (h2 : x3 ≤ 16) (h3 : 0 ≤ x4) (h4 : x4 ≤ 8) : Calls Tryd.prog 49 #[.agg #[.int .i64 x0, .int .i64 x1, .int .i64 x2, .int .i64 x3, .int .i64 x4, .int .i64 x5, .int .u32 x6]] w fun e w' => e = .returned (.int .i64 (srcN [x0, x1, x2, x3, x4, x5, x6])) ∧ Below w.heap.size w w' := by
  have h5 : 0 ≤ x4 * x3 := Int.mul_nonneg h3 (by omega)
  have h6 : x4 * x3 ≤ 8 * 16 := Int.mul_le_mul h4 h2 (by omega) (by omega)
  have v0 := IntWalk.i64_in (x4 * x3) (by omega)
  have v1 := IntWalk.i64_in (1 + x4 + x4 * x3) (by omega)
  by_cases hk : x0 = 1
  · have HX := Lib.hid (show srcN [x0, x1, x2, x3, x4, x5, x6] = 11 + 4 * x3 from if_pos hk)
    have hka : (x0 == 1) = true := by simp [hk]
    clear hk h0
    go_enter Tryd.func49, Tryd.ntmps49
    go_wp2
    go_ret
    exact ⟨by rw [HX.out]; rfl, (Below.refl _ _).alloc (Nat.le_refl _) _⟩
  · have HX := Lib.hid (show srcN [x0, x1, x2, x3, x4, x5, x6] = 1 + x4 + x4 * x3 from if_neg hk)
    have hka : (x0 == 1) = false := by simp [hk]
    clear hk h0
    go_enter Tryd.func49, Tryd.ntmps49
    go_wp2
    go_ret
    exact ⟨by rw [HX.out]; rfl, (Below.refl _ _).alloc (Nat.le_refl _) _⟩

set_option maxRecDepth 100000 in
set_option maxHeartbeats 4000000 in
theorem rbefore_b (parts chans : List (List Int)) (len0 : Int) (win0 : List (List Int)) (len1 : Int) (win1 : List (List Int)) (pa : Option Addr) (pc : Nat) (ca : Option Addr) (cc : Nat) (aa : Option Addr) (ac : Nat) (ba : Option Addr) (bc : Nat) (k : Nat) (w : World) (hp : RowN [.i64, .i64] w w.heap.size pa parts) (hpw : wfR [.i64, .i64] parts) (hpl : parts.length ≤ 1000000) (hc : RowN [.i64, .i64, .i64, .i64, .i64, .i64, .u32] w w.heap.size ca chans) (hcw : wfR [.i64, .i64, .i64, .i64, .i64, .i64, .u32] chans) (hcl : chans.length ≤ 1000000) (h0 : RowN [.i64, .i64, .i64] w w.heap.size aa win0) (h0w : wfR [.i64, .i64, .i64] win0) (h0l : win0.length ≤ 1000000) (h1 : RowN [.i64, .i64, .i64] w w.heap.size ba win1) (h1w : wfR [.i64, .i64, .i64] win1) (h1l : win1.length ≤ 1000000) (ha : Accd (⟨parts, chans, len0, win0, len1, win1⟩ : Cfg)) (hk : k ≤ chans.length) : Calls Tryd.prog 29 #[.agg #[.slice pa parts.length pc, .slice ca chans.length cc, .int .i64 len0, .slice aa win0.length ac, .int .i64 len1, .slice ba win1.length bc], .int .i64 (k : Int)] w fun e w' => e = .returned (.int .i64 (beforeN (⟨parts, chans, len0, win0, len1, win1⟩ : Cfg) k)) ∧ Below w.heap.size w w' := by
  obtain ⟨W, HW, hB, -, bx⟩ := one_cbox w ⟨parts, chans, len0, win0, len1, win1⟩ ⟨pa, pc, ca, cc, aa, ac, ba, bc⟩ 35
  have HB := Lib.hid hB
  have hp := hp.later hB; have hc := hc.later hB; have h0 := h0.later hB; have h1 := h1.later hB
  clear hB
  have hP := fun n (hn : n ≤ parts.length) => privUp_in ha n hn
  have hC := fun n (hn : n ≤ chans.length) => chanUp_in ha n hn
  have hp6 : parts.length ≤ 6 := ha.parts.2
  have hc8 : chans.length ≤ 8 := ha.chans
  have HP := Lib.hid hP; have HC := Lib.hid hC; have HA := Lib.hid ha
  clear hP hC ha
  go_enter Tryd.func29, Tryd.ntmps29
  go_wp2
  go_loopw [5, 6] (fun nn ix wr => ∃ i : Nat, i ≤ parts.length ∧ ix = .int .i64 i ∧ nn = .int .i64 (privUp parts i) ∧ Below W.heap.size W wr) (fun _ ix _ => parts.length - (intOf ix).toNat)
  case atStart => exact ⟨0, Nat.zero_le _, rfl, rfl, (by rw [← HW.out]; exact Below.refl _ _)⟩
  case round =>
    obtain ⟨i, hi, rfl, rfl, hbc⟩ := hrel
    obtain ⟨c0, c1, c2, c3, c4, c5⟩ := bx _ hbc
    by_cases hlt : i < parts.length
    · obtain ⟨b, o, y0, y1, e0, _, e1, ⟨hw0, hw1⟩, k0⟩ := hp.at2 hpw hlt
      subst e0
      obtain ⟨p0, p1⟩ := k0 _ hbc
      have hs := HP.out i (by omega)
      have hs1 := HP.out (i + 1) (by omega)
      have hnx : privUp parts (i + 1) = privUp parts i + y1 := by show privUp parts i + fld (row parts i) 1 = _; rw [row_at e1]; rfl
      rw [hnx] at hs1
      have HN := Lib.hid hnx
      obtain ⟨p, hpp⟩ : ∃ p, privUp parts i = p := ⟨_, rfl⟩
      rw [hpp] at hs
      rw [hpp] at hs1 HN
      simp only [hpp]
      have v0 := IntWalk.i64_in (p + y1) (by omega)
      clear hnx hpp e1 k0 hs hs1
      go_wp2
      go_roundw
      case rel => exact ⟨i + 1, by omega, by go_num, by rw [HN.out], hbc⟩
      case measure => simp [intOf]; omega
    · have hii : i = parts.length := by omega
      subst hii
      obtain ⟨z, hz⟩ : ∃ z, privUp parts parts.length = z := ⟨_, rfl⟩
      have hz1 := HP.out parts.length (Nat.le_refl _)
      rw [hz] at hz1
      have HZ := Lib.hid hz
      simp only [hz]
      have hbd := hbc
      clear hz
      go_wp2
      clear c0 c1 c2 c3 c4 c5 hbc
      go_loopw [5, 7] (fun nn ix wv => ∃ j : Nat, j ≤ k ∧ ix = .int .i64 j ∧ nn = .int .i64 (z + chanUp chans j) ∧ Below W.heap.size W wv) (fun _ ix _ => k - (intOf ix).toNat)
      case atStart => exact ⟨0, Nat.zero_le _, rfl, by simp [chanUp], hbd⟩
      case round =>
        clear hbd
        obtain ⟨j, hj, rfl, rfl, hbc⟩ := hrel
        obtain ⟨c0, c1, c2, c3, c4, c5⟩ := bx _ hbc
        by_cases hlt : j < k
        · have hjl : j < chans.length := by omega
          obtain ⟨b, o, x0, x1, x2, x3, x4, x5, x6, e0, _, e1, -, k0⟩ := hc.at7 hcw hjl
          subst e0
          have k0 := k0 _ hbc
          obtain ⟨p0, k0⟩ := k0
          obtain ⟨p1, k0⟩ := k0
          obtain ⟨p2, k0⟩ := k0
          obtain ⟨p3, k0⟩ := k0
          obtain ⟨p4, k0⟩ := k0
          obtain ⟨p5, p6⟩ := k0
          obtain ⟨a1, a2, a3, a4, a5, _⟩ := HA.out.chan j hjl
          rw [show ((⟨parts, chans, len0, win0, len1, win1⟩ : Cfg) : Cfg).chans = chans from rfl, row_at e1] at a1 a2 a3 a4 a5
          have hs := HC.out j (by omega)
          have hs1 := HC.out (j + 1) (by omega)
          have hnx : chanUp chans (j + 1) = chanUp chans j + srcN [x0, x1, x2, x3, x4, x5, x6] + 1 := by show chanUp chans j + srcN (row chans j) + 1 = _; rw [row_at e1]
          have hsr := srcN_in a1 a2 a3 a4 a5
          rw [hnx] at hs1
          have hcall := rsrc_b x0 x1 x2 x3 x4 x5 x6 wr a1 a2 a3 a4 a5
          obtain ⟨s, hsq⟩ : ∃ s, srcN [x0, x1, x2, x3, x4, x5, x6] = s := ⟨_, rfl⟩
          rw [hsq] at hs1 hnx hsr hcall
          have HN := Lib.hid hnx
          obtain ⟨p, hpp⟩ : ∃ p, chanUp chans j = p := ⟨_, rfl⟩
          rw [hpp] at hs hs1 HN
          simp only [hpp]
          have v0 := IntWalk.i64_in (z + p) (by omega)
          have v1 := IntWalk.i64_in (z + p + s) (by omega)
          have v2 := IntWalk.i64_in (z + p + s + 1) (by omega)
          have HCL := Lib.hid hcall
          have HE := Lib.hid (show z + p + s + 1 = z + chanUp chans (j + 1) by rw [HN.out]; omega)
          clear hnx hpp e1 hs hs1 hsr hsq hcall a1 a2 a3 a4 a5
          go_wp2_with fail
          refine HCL.out.mono ?_
          rintro e w5 ⟨rfl, hb5⟩
          have HB5 := Lib.hid (hbc.trans (hb5.mono hbc.size))
          clear hbc hb5
          go_wp2
          go_roundw
          case rel => exact ⟨j + 1, by omega, by go_num, by rw [← HE.out], HB5.out⟩
          case measure => simp [intOf]; omega
        · have hjj : j = k := by omega
          subst hjj
          have HX := Lib.hid (show beforeN (⟨parts, chans, len0, win0, len1, win1⟩ : Cfg) j = z + chanUp chans j by rw [← HZ.out]; rfl)
          obtain ⟨zz, hzz⟩ : ∃ zz, z + chanUp chans j = zz := ⟨_, rfl⟩
          rw [hzz] at HX
          simp only [hzz]
          clear hzz
          go_wp2
          go_ret
          exact ⟨by rw [HX.out]; rfl, HB.out.trans (hbc.mono HB.out.size)⟩
/-- Is there such a channel of an accepted configuration? -/
def chanB (c : Cfg) (k : Int) : Bool := decide (0 ≤ k ∧ k < (c.chans.length : Int)) && acceptsB c
def sizeN (c : Cfg) : Int := if acceptsB c = true then beforeN c c.chans.length else 0
end Go.Proofs.YtnemabgenaijhaaDoor

namespace Go.Proofs.YtnemabgenaijhaaDoor
open Go.RowKit Go.Sort Go.ChangeShapes Go.WideShapes
set_option linter.unusedVariables false
set_option linter.unusedSimpArgs false

theorem rbefore_is (c : Cfg) (x : CfgAt) (k : Nat) (w : World) (hx : CfgIn w w.heap.size c x) (wx : CfgWf c) (lx : CfgFew c) (ha : Accd c) (hk : k ≤ c.chans.length) : Calls Tryd.prog 29 #[.agg (cfgCells c x), .int .i64 (k : Int)] w fun e w' => e = .returned (.int .i64 (beforeN c k)) ∧ Below w.heap.size w w' := by
  obtain ⟨parts, chans, len0, win0, len1, win1⟩ := c
  obtain ⟨pa, pc, ca, cc, aa, ac, ba, bc⟩ := x
  exact rbefore_b parts chans len0 win0 len1 win1 pa pc ca cc aa ac ba bc k w hx.rp wx.wp lx.1 hx.rc wx.wc lx.2.1 hx.ra wx.wa lx.2.2.1 hx.rb wx.wb lx.2.2.2 ha hk
set_option maxRecDepth 100000 in
set_option maxHeartbeats 2000000 in
theorem rchan_b (c : Cfg) (x : CfgAt) (k : Int) (w : World) (hx : CfgIn w w.heap.size c x) (wx : CfgWf c) (lx : CfgFew c) : Calls Tryd.prog 51 #[.agg (cfgCells c x), .int .i64 k] w fun e w' => e = .returned (.bool (chanB c k)) ∧ Below w.heap.size w w' := by
  obtain ⟨W, HW, hB, -, bx⟩ := one_cbox w c x 35
  have hx := hx.later hB
  obtain ⟨c0, c1, c2, c3, c4, c5⟩ := bx _ (Below.refl _ _)
  have HB := Lib.hid hB
  simp only [cfgCells]
  clear hB
  by_cases h1 : 0 ≤ k
  · by_cases h2 : k < (c.chans.length : Int)
    · obtain ⟨q, hq⟩ : ∃ q, acceptsB c = q := ⟨_, rfl⟩
      have HX := Lib.hid (show chanB c k = q by unfold chanB; rw [decide_eq_true ⟨h1, h2⟩, hq]; rfl)
      have HA := Lib.hid (racc_b c x q W hx wx lx hq)
      clear hq
      go_enter Tryd.func51, Tryd.ntmps51
      go_wp2_with (rw [← HW.out])
      refine HA.out.mono ?_
      rintro e w5 ⟨rfl, hb5⟩
      have HF := Lib.hid (HB.out.trans (hb5.mono HB.out.size))
      clear hb5
      go_wp2
      go_ret
      exact ⟨by rw [HX.out]; rfl, HF.out⟩
    · have h2d : decide (k < (c.chans.length : Int)) = false := decide_eq_false h2
      have HX := Lib.hid (show chanB c k = false by unfold chanB; rw [decide_eq_false (fun h => h2 h.2)]; rfl)
      go_enter Tryd.func51, Tryd.ntmps51
      go_wp2_with (rw [← HW.out])
      go_ret
      exact ⟨by rw [HX.out]; rfl, HB.out⟩
  · have h1d : decide (0 ≤ k) = false := decide_eq_false h1
    have HX := Lib.hid (show chanB c k = false by unfold chanB; rw [decide_eq_false (fun h => h1 h.1)]; rfl)
    go_enter Tryd.func51, Tryd.ntmps51
    go_wp2_with (rw [← HW.out])
    go_ret
    exact ⟨by rw [HX.out]; rfl, HB.out⟩
theorem rchan_is (c : Cfg) (x : CfgAt) (k : Int) (q : Bool) (w : World) (hx : CfgIn w w.heap.size c x) (wx : CfgWf c) (lx : CfgFew c) (h : chanB c k = q) : Calls Tryd.prog 51 #[.agg (cfgCells c x), .int .i64 k] w fun e w' => e = .returned (.bool q) ∧ Below w.heap.size w w' := by subst h; exact rchan_b c x k w hx wx lx
set_option maxRecDepth 100000 in
set_option maxHeartbeats 2000000 in
theorem rsize_b (c : Cfg) (x : CfgAt) (w : World) (hx : CfgIn w w.heap.size c x) (wx : CfgWf c) (lx : CfgFew c) : Calls Tryd.prog 18 #[.agg (cfgCells c x)] w fun e w' => e = .returned (.int .i64 (sizeN c)) ∧ Below w.heap.size w w' := by
  obtain ⟨W, HW, hB, -, bx⟩ := one_cbox w c x 35
  have hx := hx.later hB
  obtain ⟨c0, c1, c2, c3, c4, c5⟩ := bx _ (Below.refl _ _)
  have HB := Lib.hid hB
  simp only [cfgCells]
  clear hB
  cases hq : acceptsB c with
  | true =>
    have HX := Lib.hid (show sizeN c = beforeN c c.chans.length from if_pos hq)
    have HA := Lib.hid (racc_b c x true W hx wx lx hq)
    have HAC := Lib.hid (accd_of hq)
    clear hq
    go_enter Tryd.func18, Tryd.ntmps18
    go_wp2_with (rw [← HW.out])
    refine HA.out.mono ?_
    rintro e w5 ⟨rfl, hb5⟩
    have HC := Lib.hid (rbefore_is c x c.chans.length w5 (hx.later hb5) wx lx HAC.out (Nat.le_refl _))
    have HF := Lib.hid (HB.out.trans (hb5.mono HB.out.size))
    obtain ⟨d0, d1, d2, d3, d4, d5⟩ := bx _ hb5
    clear hb5 c0 c1 c2 c3 c4 c5
    go_wp2_with fail
    refine HC.out.mono ?_
    rintro e w6 ⟨rfl, hb6⟩
    have HF2 := Lib.hid (HF.out.trans (hb6.mono HF.out.size))
    clear hb6
    go_wp2
    go_ret
    exact ⟨by rw [HX.out]; rfl, HF2.out⟩
  | false =>
    have HX := Lib.hid (show sizeN c = 0 from if_neg (by rw [hq]; decide))
    have HA := Lib.hid (racc_b c x false W hx wx lx hq)
    clear hq
    go_enter Tryd.func18, Tryd.ntmps18
    go_wp2_with (rw [← HW.out])
    refine HA.out.mono ?_
    rintro e w5 ⟨rfl, hb5⟩
    have HF := Lib.hid (HB.out.trans (hb5.mono HB.out.size))
    clear hb5
    go_wp2
    go_ret
    exact ⟨by rw [HX.out]; rfl, HF.out⟩
end Go.Proofs.YtnemabgenaijhaaDoor
