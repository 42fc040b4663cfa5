/- DefectKeeps answers true at an accepted configuration. No condition but those in the statements. -/
import Derived.Test.YtogffilanioejaaKeepsOf
import Derived.BigQuiet
import Derived.IntWalk
import Derived.OpenShut
namespace Go.Proofs.Ytogffilanioejaa
open Go.RowKit Go.Sort Go.ChangeShapes Go.WideShapes
set_option linter.unusedVariables false
set_option linter.unusedSimpArgs false

/-- The block of an array of bools. -/
def HasAt (w : World) (b : Nat) (bs : List Bool) : Prop := w.heap[b]? = some (.cells (bs.map Value.bool).toArray 36 (0, 0))
theorem HasAt.lt {w : World} {b : Nat} {bs : List Bool} (h : HasAt w b bs) : b < w.heap.size := (Array.getElem?_eq_some_iff.1 h).1
theorem HasAt.cell {w : World} {b : Nat} {bs : List Bool} (h : HasAt w b bs) {k : Nat} {x : Bool} (hk : bs[k]? = some x) : w.cell? ⟨b, k, none⟩ = some (.bool x) := by
  unfold HasAt at h
  simp [World.cell?, h, hk]
theorem HasAt.frozen {w : World} {b : Nat} {bs : List Bool} (h : HasAt w b bs) (k : Nat) : w.frozen? ⟨b, k, none⟩ = false := by
  unfold HasAt at h
  simp [World.frozen?, h]
theorem HasAt.set {w : World} {b : Nat} {bs : List Bool} (h : HasAt w b bs) (k : Nat) (x : Bool) : HasAt (w.setCell ⟨b, k, none⟩ (.bool x)) b (bs.set k x) := by
  unfold HasAt at h ⊢
  rw [List.map_set]
  simp [World.setCell, Array.getElem?_modify, h]
theorem HasAt.below {w w' : World} {b : Nat} {bs : List Bool} (h : HasAt w b bs) (hb : Below w.heap.size w w') : HasAt w' b bs := (hb.block b h.lt).trans h
/-- Of the first n windows each one's partition is marked. -/
def Inv (win : List (List Int)) (n : Nat) (bs : List Bool) : Prop := ∀ q, q < n → ∀ p : Nat, fld (row win q) 0 = (p : Int) → bs[p]? = some true
theorem inv_set {win : List (List Int)} {n j : Nat} {bs : List Bool} (hl : bs.length = 6) (hj : j < 6) (h : Inv win n bs) : Inv win n (bs.set j true) := fun q hq p hp => by
  have := h q hq p hp
  by_cases e : j = p
  · subst e; simp [hl, hj]
  · rw [List.getElem?_set_ne e]; exact this
theorem inv_next {win : List (List Int)} {n j : Nat} {bs : List Bool} (hl : bs.length = 6) (hj : j < 6) (h : Inv win n bs) (e : fld (row win n) 0 = (j : Int)) : Inv win (n + 1) (bs.set j true) := fun q hq p hp => by
  by_cases eq : q = n
  · subst eq
    have : j = p := by omega
    subst this
    simp [hl, hj]
  · exact inv_set hl hj h q (by omega) p hp
set_option maxRecDepth 100000 in
set_option maxHeartbeats 8000000 in
theorem keeps_plain (parts chans : List (List Int)) (len0 : Int) (win0 : List (List Int)) (len1 : Int) (win1 : List (List Int)) (pa : Option Addr) (pc : Nat) (ca : Option Addr) (cc : Nat) (aa : Option Addr) (ac : Nat) (ba : Option Addr) (bc : Nat) (w : World) (hp : RowN [.i64, .i64] w w.heap.size pa parts) (hpw : wfR [.i64, .i64] parts) (hpl : parts.length ≤ 1000000) (hc : RowN [.i64, .i64, .i64, .i64, .i64, .i64, .u32] w w.heap.size ca chans) (hcw : wfR [.i64, .i64, .i64, .i64, .i64, .i64, .u32] chans) (hcl : chans.length ≤ 1000000) (h0 : RowN [.i64, .i64, .i64] w w.heap.size aa win0) (h0w : wfR [.i64, .i64, .i64] win0) (h0l : win0.length ≤ 1000000) (h1 : RowN [.i64, .i64, .i64] w w.heap.size ba win1) (h1w : wfR [.i64, .i64, .i64] win1) (h1l : win1.length ≤ 1000000) (hl0 : (Lit.int .i64 len0).wf = true) (hl1 : (Lit.int .i64 len1).wf = true) (LP : parts.length ≤ pc ∧ pc ≤ maxLen ∧ (pa = none → parts = [])) (LC : chans.length ≤ cc ∧ cc ≤ maxLen ∧ (ca = none → chans = [])) (LA : win0.length ≤ ac ∧ ac ≤ maxLen ∧ (aa = none → win0 = [])) (LB : win1.length ≤ bc ∧ bc ≤ maxLen ∧ (ba = none → win1 = [])) (hle : cfgLe 100 (⟨parts, chans, len0, win0, len1, win1⟩ : Cfg) = true) (hacc : acceptsP (⟨parts, chans, len0, win0, len1, win1⟩ : Cfg) = true) : Calls Try.prog 4 #[.agg #[.slice pa parts.length pc, .slice ca chans.length cc, .int .i64 len0, .slice aa win0.length ac, .int .i64 len1, .slice ba win1.length bc]] w fun e w' => e = .returned (.bool true) ∧ Below w.heap.size w w' := by
  have HK := Lib.hid (keeps_of hacc)
  have HAC := Lib.hid hacc
  have HGR := Lib.hid (show (!cfgLe 100 (⟨parts, chans, len0, win0, len1, win1⟩ : Cfg)) = false by rw [hle]; rfl)
  have hin : CfgIn w w.heap.size (⟨parts, chans, len0, win0, len1, win1⟩ : Cfg) ⟨pa, pc, ca, cc, aa, ac, ba, bc⟩ := ⟨hp, hc, h0, h1, LP, LC, LA, LB⟩
  have hwf : CfgWf (⟨parts, chans, len0, win0, len1, win1⟩ : Cfg) := ⟨hpw, hcw, h0w, h1w, hl0, hl1⟩
  have hfew : CfgFew (⟨parts, chans, len0, win0, len1, win1⟩ : Cfg) := ⟨hpl, hcl, h0l, h1l⟩
  clear hacc hle
  obtain ⟨W, HW, hB, -, bx⟩ := one_cbox w ⟨parts, chans, len0, win0, len1, win1⟩ ⟨pa, pc, ca, cc, aa, ac, ba, bc⟩ 29
  have HB := Lib.hid hB
  have hp := hp.later hB; have hc := hc.later hB; have h0 := h0.later hB; have h1 := h1.later hB
  have hin := hin.later hB
  clear hB
  obtain ⟨kp1, kp2⟩ := HK.out.parts
  have kp1 : 1 ≤ parts.length := kp1
  have kp2 : parts.length ≤ 6 := kp2
  have kc : chans.length ≤ 8 := HK.out.chans
  have HIN := Lib.hid hin
  clear hin
  go_enter Try.func4, Try.ntmps4
  go_wp2_with (rw [← HW.out])
  refine (wakes_b _).mono ?_
  rintro e w1 ⟨rfl, hb1⟩
  obtain ⟨c0, c1, c2, c3, c4, c5⟩ := bx _ hb1
  go_wp2_with fail
  refine (great_is (⟨parts, chans, len0, win0, len1, win1⟩ : Cfg) ⟨pa, pc, ca, cc, aa, ac, ba, bc⟩ false w1 HGR.out).mono ?_
  rintro e w2 ⟨rfl, hb2⟩
  have hb2 := hb1.trans (hb2.mono hb1.size)
  clear c0 c1 c2 c3 c4 c5 hb1
  obtain ⟨c0, c1, c2, c3, c4, c5⟩ := bx _ hb2
  go_wp2_with fail
  refine (accepts_b (⟨parts, chans, len0, win0, len1, win1⟩ : Cfg) ⟨pa, pc, ca, cc, aa, ac, ba, bc⟩ true w2 (HIN.out.later hb2) hwf hfew HAC.out).mono ?_
  rintro e w3 ⟨rfl, hb3⟩
  have hb3 := hb2.trans (hb3.mono hb2.size)
  clear c0 c1 c2 c3 c4 c5 hb2
  obtain ⟨c0, c1, c2, c3, c4, c5⟩ := bx _ hb3
  have d0 : decide ((parts.length : Int) < 1) = false := decide_eq_false (by omega)
  have d1 : decide ((6 : Int) < (parts.length : Int)) = false := decide_eq_false (by omega)
  have d2 : decide ((8 : Int) < (chans.length : Int)) = false := decide_eq_false (by omega)
  have HB3 := Lib.hid hb3
  clear hb3
  go_wp2
  clear c0 c1 c2 c3 c4 c5 d0 d1 d2
  go_loopw [39] (fun ix wr => ∃ i : Nat, i ≤ chans.length ∧ ix = .int .i64 i ∧ Below W.heap.size W wr) (fun ix _ => chans.length - (intOf ix).toNat)
  case atStart => exact ⟨0, Nat.zero_le _, rfl, HB3.out⟩
  case round =>
    obtain ⟨i, hi, rfl, hbc⟩ := hrel
    by_cases hlt : i < chans.length
    · obtain ⟨b, o, x0, x1, x2, x3, x4, x5, x6, e0, _, e1, -, k0⟩ := hc.at7 hcw hlt
      subst e0
      have hk := HK.out.chan i hlt
      rw [show ((⟨parts, chans, len0, win0, len1, win1⟩ : Cfg)).chans = chans from rfl, row_at e1] at hk
      obtain ⟨z1, z2, z3, z4, z5⟩ := hk
      have z1 : x1 ≠ x2 := z1
      have z2 : 0 ≤ x1 := z2
      have z3 : x1 < (parts.length : Int) := z3
      have z4 : 0 ≤ x2 := z4
      have z5 : x2 < (parts.length : Int) := z5
      have k0 := k0 _ hbc
      obtain ⟨p0, k0⟩ := k0
      obtain ⟨p1, k0⟩ := k0
      obtain ⟨p2, k0⟩ := k0
      obtain ⟨p3, k0⟩ := k0
      obtain ⟨p4, k0⟩ := k0
      obtain ⟨p5, p6⟩ := k0
      have d0 : (x1 == x2) = false := by simpa using z1
      have d1 : decide (x1 < 0) = false := decide_eq_false (by omega)
      have d2 : decide (x2 < 0) = false := decide_eq_false (by omega)
      have d3 : decide ((parts.length : Int) ≤ x1) = false := decide_eq_false (by omega)
      have d4 : decide ((parts.length : Int) ≤ x2) = false := decide_eq_false (by omega)
      have hwb := hbc.alloc hbc.size (.cells #[.int .i64 x0, .int .i64 x1, .int .i64 x2, .int .i64 x3, .int .i64 x4, .int .i64 x5, .int .u32 x6] 35)
      obtain ⟨c0, c1, c2, c3, c4, c5⟩ := bx _ hwb
      have HWB := Lib.hid hwb
      clear e1 z1 hwb
      go_wp2
      go_roundw
      case rel => exact ⟨i + 1, by omega, by go_num, HWB.out⟩
      case measure => simp [intOf]; omega
    · have hnl : ¬ (i : Int) < (chans.length : Int) := by omega
      obtain ⟨X0, hX0⟩ : ∃ u, Hid (u = wr.alloc (.cells #[.bool false, .bool false, .bool false, .bool false, .bool false, .bool false] 36)) := ⟨_, rfl⟩
      have HX0 := Lib.hid (show Below W.heap.size W X0 by rw [hX0.out]; exact hbc.alloc hbc.size _)
      have HH0 := Lib.hid (show HasAt X0 wr.heap.size (List.replicate 6 false) by rw [hX0.out]; exact heap_alloc_new _ _)
      have hhb := hbc.size
      obtain ⟨hb, hhb2⟩ : ∃ hb, hb = wr.heap.size := ⟨_, rfl⟩
      rw [← hhb2] at HH0 hhb
      clear hbc
      go_wp2_with (rw [← hX0.out])
      simp only [← hhb2]
      clear hhb2
      go_loopw [75] (fun ix wv => ∃ (k : Int) (bs : List Bool), 0 ≤ k ∧ k ≤ 2 ∧ ix = .int .i64 k ∧ Hid (bs.length = 6 ∧ (0 < k → Inv win0 win0.length bs) ∧ (1 < k → Inv win1 win1.length bs)) ∧ HasAt wv hb bs ∧ Below W.heap.size W wv) (fun ix _ => (2 - intOf ix).toNat)
      case atStart => exact ⟨0, List.replicate 6 false, by omega, by omega, rfl, Lib.hid ⟨rfl, (fun h => by omega), (fun h => by omega)⟩, HH0.out, HX0.out⟩
      case round =>
        obtain ⟨k, bs, hk0, hk2, rfl, HI, hbs, hbc⟩ := hrel
        obtain ⟨c0, c1, c2, c3, c4, c5⟩ := bx _ hbc
        rcases (show k = 0 ∨ k = 1 ∨ k = 2 by omega) with hk | hk | hk
        · subst hk
          go_wp2
          go_loopw [7, 84] (fun en ix wv => ∃ (i : Nat) (bs : List Bool), i ≤ win0.length ∧ ix = .int .i64 i ∧ en = .int .i64 (endAt win0 i) ∧ Hid (bs.length = 6 ∧ Inv win0 i bs) ∧ HasAt wv hb bs ∧ Below W.heap.size W wv) (fun _ ix _ => win0.length - (intOf ix).toNat)
          case atStart => exact ⟨0, bs, Nat.zero_le _, rfl, rfl, Lib.hid ⟨HI.out.1, (fun q hq => by omega)⟩, hbs, hbc⟩
          case round =>
            clear hbs hbc HI c0 c1 c2 c3 c4 c5
            obtain ⟨i, bs, hi, rfl, rfl, HI, hbs, hbc⟩ := hrel
            by_cases hlt : i < win0.length
            · obtain ⟨b, o, x0, x1, x2, e0, _, e1, ⟨hw0, hw1, hw2⟩, k0⟩ := h0.at3 h0w hlt
              subst e0
              have hk := HK.out.win0 i hlt
              rw [show ((⟨parts, chans, len0, win0, len1, win1⟩ : Cfg)).win0 = win0 from rfl, row_at e1] at hk
              obtain ⟨k1, k2, k3, k4, k5, k6, z7, z8, k9, k10⟩ := hk
              have z1 : endAt win0 i ≤ x1 := k1
              have z2 : 1 ≤ x2 := k2
              have z3 : x1 + x2 ≤ len0 := k3
              have z4 : 0 ≤ x0 := k4
              have z5 : x0 < (parts.length : Int) := k5
              have z9 : x1 ≤ 64 := k9
              have z10 : x2 ≤ 64 := k10
              clear k1 k2 k3 k4 k5 k9 k10
              obtain ⟨j, rfl⟩ := Int.eq_ofNat_of_zero_le z4
              have hj : j < parts.length := by omega
              obtain ⟨bp, op, y0, y1, f0, _, f1, _, r0⟩ := hp.at2 hpw hj
              subst f0
              have z6 : y0 = 0 := by
                have h : fld (row parts j) 0 = 0 := k6
                rw [row_at f1] at h
                exact h
              clear k6
              subst z6
              have k0 := k0 _ hbc
              obtain ⟨p0, k0⟩ := k0
              obtain ⟨p1, p2⟩ := k0
              have E1 := Lib.hid e1
              have HEN := Lib.hid (show endAt win0 (i + 1) = x1 + x2 by show fld (row win0 i) 1 + fld (row win0 i) 2 = _; rw [row_at e1]; rfl)
              clear e1
              obtain ⟨wa, hwa⟩ : ∃ u, Hid (u = wr.alloc (.cells #[.int .i64 (j : Int), .int .i64 x1, .int .i64 x2] 38)) := ⟨_, rfl⟩
              have hba : Below wr.heap.size wr wa := by rw [hwa.out]; exact (Below.refl _ _).alloc (Nat.le_refl _) _
              have hxa : wa.heap[wr.heap.size]? = some (.cells #[.int .i64 (j : Int), .int .i64 x1, .int .i64 x2] 38 (0, 0)) := by rw [hwa.out]; exact heap_alloc_new _ _
              have hwb := hbc.trans (hba.mono hbc.size)
              have hla : wr.heap.size < wa.heap.size := (Array.getElem?_eq_some_iff.1 hxa).1
              have hbs2 := hbs.below hba
              obtain ⟨n, hn⟩ : ∃ n, endAt win0 i = n := ⟨_, rfl⟩
              rw [hn] at z1 z7 z8 ⊢
              clear hn
              have a0 : ∀ p : Regrown, (grow (redrawn wa p.d) p.os).cell? ⟨wr.heap.size, 0, none⟩ = some (.int .i64 (j : Int)) := fun p => cell_regrown (cell_blk hxa rfl) p.d p.os
              have a1 : ∀ p : Regrown, (grow (redrawn wa p.d) p.os).cell? ⟨wr.heap.size, 1, none⟩ = some (.int .i64 x1) := fun p => cell_regrown (cell_blk hxa rfl) p.d p.os
              have a2 : ∀ p : Regrown, (grow (redrawn wa p.d) p.os).cell? ⟨wr.heap.size, 2, none⟩ = some (.int .i64 x2) := fun p => cell_regrown (cell_blk hxa rfl) p.d p.os
              have g0 : ∀ p : Regrown, (grow (redrawn wa p.d) p.os).cell? ⟨w.heap.size, 0, none⟩ = some (.slice (some ⟨bp, op, none⟩) parts.length pc) := fun p => ((bx.on hwb) _ (below_regrown wa p.d p.os)).1
              have g1 : ∀ p : Regrown, (grow (redrawn wa p.d) p.os).cell? ⟨w.heap.size, 1, none⟩ = some (.slice ca chans.length cc) := fun p => ((bx.on hwb) _ (below_regrown wa p.d p.os)).2.1
              have g2 : ∀ p : Regrown, (grow (redrawn wa p.d) p.os).cell? ⟨w.heap.size, 2, none⟩ = some (.int .i64 len0) := fun p => ((bx.on hwb) _ (below_regrown wa p.d p.os)).2.2.1
              have g3 : ∀ p : Regrown, (grow (redrawn wa p.d) p.os).cell? ⟨w.heap.size, 3, none⟩ = some (.slice (some ⟨b, o, none⟩) win0.length ac) := fun p => ((bx.on hwb) _ (below_regrown wa p.d p.os)).2.2.2.1
              have g4 : ∀ p : Regrown, (grow (redrawn wa p.d) p.os).cell? ⟨w.heap.size, 4, none⟩ = some (.int .i64 len1) := fun p => ((bx.on hwb) _ (below_regrown wa p.d p.os)).2.2.2.2.1
              have g5 : ∀ p : Regrown, (grow (redrawn wa p.d) p.os).cell? ⟨w.heap.size, 5, none⟩ = some (.slice ba win1.length bc) := fun p => ((bx.on hwb) _ (below_regrown wa p.d p.os)).2.2.2.2.2
              have gp : ∀ p : Regrown, (grow (redrawn wa p.d) p.os).cell? ⟨bp, op + j * 2, none⟩ = some (.int .i64 0) := fun p => (r0 _ (hwb.trans ((below_regrown wa p.d p.os).mono hwb.size))).1
              have d1 : decide (x1 < n) = false := decide_eq_false (by omega)
              have d2 : decide (x2 < 1) = false := decide_eq_false (by omega)
              have d3 : decide (len0 < x1 + x2) = false := decide_eq_false (by omega)
              have d4 : decide ((j : Int) < 0) = false := decide_eq_false (by omega)
              have d5 : decide ((parts.length : Int) ≤ (j : Int)) = false := decide_eq_false (by omega)
              have d6 : decide (parts.length ≤ j) = false := decide_eq_false (by omega)
              have hsum := IntWalk.i64_in (x1 + x2) (by omega)
              have HWB := Lib.hid hwb; have HBS := Lib.hid hbs2; have HXA := Lib.hid hxa; have HLA := Lib.hid hla
              have hbq := Below.refl wa.heap.size wa
              have s0 : (0 : Int) ≤ (j : Int) := by omega
              have s1 : (j : Int) < (parts.length : Int) := by omega
              have s2 : (j : Int) < 6 := by omega
              clear hwb hxa hba hbs hbs2 hbc r0 hla
              go_wp2_with (rw [← hwa.out])
              (with_reducible refine wp_on hbq (by kernel_rfl) (by kernel_rfl) ?_); (repeat (go_big_quiet_step (fail))); (first | with_reducible refine wpQuiet_nil ?_ | refine wpQuiet_nil ?_); intro wq hbq
              have hxq := (hbq.block _ HLA.out).trans HXA.out
              have v0 := cell_blk hxq (i := 0) rfl
              have v1 := cell_blk hxq (i := 1) rfl
              have v2 := cell_blk hxq (i := 2) rfl
              have hbs3 := HBS.out.below hbq
              obtain ⟨z, hz⟩ : ∃ z, bs[j]? = some z := ⟨_, List.getElem?_eq_getElem (by have := HI.out.1; omega)⟩
              have v3 := hbs3.cell hz
              have v4 := hbs3.frozen j
              have HJ := Lib.hid (show Hid (((bs.set j true).length = 6) ∧ Inv win0 (i + 1) (bs.set j true)) from Lib.hid ⟨by rw [List.length_set]; exact HI.out.1, inv_next HI.out.1 (by omega) HI.out.2 (by rw [row_at E1.out]; rfl)⟩)
              have HB3 := Lib.hid (hbs3.set j true)
              have HW3 := Lib.hid (HWB.out.trans (hbq.mono HWB.out.size))
              clear hbs3 hbq hxq hz a0 a1 a2 g0 g1 g2 g3 g4 g5 gp
              go_wp2
              go_roundw
              case rel => exact ⟨i + 1, bs.set j true, by omega, by go_num, by rw [HEN.out], HJ.out, HB3.out, HW3.out.setCell (p := ⟨hb, j, none⟩) hhb _⟩
              case measure => simp [intOf]; omega
            · have hii : i = win0.length := by omega
              subst hii
              have HN := Lib.hid (show Hid (bs.length = 6 ∧ ((0 : Int) < 1 → Inv win0 win0.length bs) ∧ ((1 : Int) < 1 → Inv win1 win1.length bs)) from Lib.hid ⟨HI.out.1, (fun _ => HI.out.2), (fun h => by omega)⟩)
              go_wp2
              go_roundw
              case rel => exact ⟨1, bs, by omega, by omega, rfl, HN.out, hbs, hbc⟩
              case measure => simp [intOf]
        · subst hk
          go_wp2
          go_loopw [7, 84] (fun en ix wv => ∃ (i : Nat) (bs : List Bool), i ≤ win1.length ∧ ix = .int .i64 i ∧ en = .int .i64 (endAt win1 i) ∧ Hid (bs.length = 6 ∧ Inv win0 win0.length bs ∧ Inv win1 i bs) ∧ HasAt wv hb bs ∧ Below W.heap.size W wv) (fun _ ix _ => win1.length - (intOf ix).toNat)
          case atStart => exact ⟨0, bs, Nat.zero_le _, rfl, rfl, Lib.hid ⟨HI.out.1, HI.out.2.1 (by omega), (fun q hq => by omega)⟩, hbs, hbc⟩
          case round =>
            clear hbs hbc HI c0 c1 c2 c3 c4 c5
            obtain ⟨i, bs, hi, rfl, rfl, HI, hbs, hbc⟩ := hrel
            by_cases hlt : i < win1.length
            · obtain ⟨b, o, x0, x1, x2, e0, _, e1, ⟨hw0, hw1, hw2⟩, k0⟩ := h1.at3 h1w hlt
              subst e0
              have hk := HK.out.win1 i hlt
              rw [show ((⟨parts, chans, len0, win0, len1, win1⟩ : Cfg)).win1 = win1 from rfl, row_at e1] at hk
              obtain ⟨k1, k2, k3, k4, k5, k6, z7, z8, k9, k10⟩ := hk
              have z1 : endAt win1 i ≤ x1 := k1
              have z2 : 1 ≤ x2 := k2
              have z3 : x1 + x2 ≤ len1 := k3
              have z4 : 0 ≤ x0 := k4
              have z5 : x0 < (parts.length : Int) := k5
              have z9 : x1 ≤ 64 := k9
              have z10 : x2 ≤ 64 := k10
              clear k1 k2 k3 k4 k5 k9 k10
              obtain ⟨j, rfl⟩ := Int.eq_ofNat_of_zero_le z4
              have hj : j < parts.length := by omega
              obtain ⟨bp, op, y0, y1, f0, _, f1, _, r0⟩ := hp.at2 hpw hj
              subst f0
              have z6 : y0 = 1 := by
                have h : fld (row parts j) 0 = 1 := k6
                rw [row_at f1] at h
                exact h
              clear k6
              subst z6
              have k0 := k0 _ hbc
              obtain ⟨p0, k0⟩ := k0
              obtain ⟨p1, p2⟩ := k0
              have E1 := Lib.hid e1
              have HEN := Lib.hid (show endAt win1 (i + 1) = x1 + x2 by show fld (row win1 i) 1 + fld (row win1 i) 2 = _; rw [row_at e1]; rfl)
              clear e1
              obtain ⟨wa, hwa⟩ : ∃ u, Hid (u = wr.alloc (.cells #[.int .i64 (j : Int), .int .i64 x1, .int .i64 x2] 38)) := ⟨_, rfl⟩
              have hba : Below wr.heap.size wr wa := by rw [hwa.out]; exact (Below.refl _ _).alloc (Nat.le_refl _) _
              have hxa : wa.heap[wr.heap.size]? = some (.cells #[.int .i64 (j : Int), .int .i64 x1, .int .i64 x2] 38 (0, 0)) := by rw [hwa.out]; exact heap_alloc_new _ _
              have hwb := hbc.trans (hba.mono hbc.size)
              have hla : wr.heap.size < wa.heap.size := (Array.getElem?_eq_some_iff.1 hxa).1
              have hbs2 := hbs.below hba
              obtain ⟨n, hn⟩ : ∃ n, endAt win1 i = n := ⟨_, rfl⟩
              rw [hn] at z1 z7 z8 ⊢
              clear hn
              have a0 : ∀ p : Regrown, (grow (redrawn wa p.d) p.os).cell? ⟨wr.heap.size, 0, none⟩ = some (.int .i64 (j : Int)) := fun p => cell_regrown (cell_blk hxa rfl) p.d p.os
              have a1 : ∀ p : Regrown, (grow (redrawn wa p.d) p.os).cell? ⟨wr.heap.size, 1, none⟩ = some (.int .i64 x1) := fun p => cell_regrown (cell_blk hxa rfl) p.d p.os
              have a2 : ∀ p : Regrown, (grow (redrawn wa p.d) p.os).cell? ⟨wr.heap.size, 2, none⟩ = some (.int .i64 x2) := fun p => cell_regrown (cell_blk hxa rfl) p.d p.os
              have g0 : ∀ p : Regrown, (grow (redrawn wa p.d) p.os).cell? ⟨w.heap.size, 0, none⟩ = some (.slice (some ⟨bp, op, none⟩) parts.length pc) := fun p => ((bx.on hwb) _ (below_regrown wa p.d p.os)).1
              have g1 : ∀ p : Regrown, (grow (redrawn wa p.d) p.os).cell? ⟨w.heap.size, 1, none⟩ = some (.slice ca chans.length cc) := fun p => ((bx.on hwb) _ (below_regrown wa p.d p.os)).2.1
              have g2 : ∀ p : Regrown, (grow (redrawn wa p.d) p.os).cell? ⟨w.heap.size, 2, none⟩ = some (.int .i64 len0) := fun p => ((bx.on hwb) _ (below_regrown wa p.d p.os)).2.2.1
              have g3 : ∀ p : Regrown, (grow (redrawn wa p.d) p.os).cell? ⟨w.heap.size, 3, none⟩ = some (.slice aa win0.length ac) := fun p => ((bx.on hwb) _ (below_regrown wa p.d p.os)).2.2.2.1
              have g4 : ∀ p : Regrown, (grow (redrawn wa p.d) p.os).cell? ⟨w.heap.size, 4, none⟩ = some (.int .i64 len1) := fun p => ((bx.on hwb) _ (below_regrown wa p.d p.os)).2.2.2.2.1
              have g5 : ∀ p : Regrown, (grow (redrawn wa p.d) p.os).cell? ⟨w.heap.size, 5, none⟩ = some (.slice (some ⟨b, o, none⟩) win1.length bc) := fun p => ((bx.on hwb) _ (below_regrown wa p.d p.os)).2.2.2.2.2
              have gp : ∀ p : Regrown, (grow (redrawn wa p.d) p.os).cell? ⟨bp, op + j * 2, none⟩ = some (.int .i64 1) := fun p => (r0 _ (hwb.trans ((below_regrown wa p.d p.os).mono hwb.size))).1
              have d1 : decide (x1 < n) = false := decide_eq_false (by omega)
              have d2 : decide (x2 < 1) = false := decide_eq_false (by omega)
              have d3 : decide (len1 < x1 + x2) = false := decide_eq_false (by omega)
              have d4 : decide ((j : Int) < 0) = false := decide_eq_false (by omega)
              have d5 : decide ((parts.length : Int) ≤ (j : Int)) = false := decide_eq_false (by omega)
              have d6 : decide (parts.length ≤ j) = false := decide_eq_false (by omega)
              have hsum := IntWalk.i64_in (x1 + x2) (by omega)
              have HWB := Lib.hid hwb; have HBS := Lib.hid hbs2; have HXA := Lib.hid hxa; have HLA := Lib.hid hla
              have hbq := Below.refl wa.heap.size wa
              have s0 : (0 : Int) ≤ (j : Int) := by omega
              have s1 : (j : Int) < (parts.length : Int) := by omega
              have s2 : (j : Int) < 6 := by omega
              clear hwb hxa hba hbs hbs2 hbc r0 hla
              go_wp2_with (rw [← hwa.out])
              (with_reducible refine wp_on hbq (by kernel_rfl) (by kernel_rfl) ?_); (repeat (go_big_quiet_step (fail))); (first | with_reducible refine wpQuiet_nil ?_ | refine wpQuiet_nil ?_); intro wq hbq
              have hxq := (hbq.block _ HLA.out).trans HXA.out
              have v0 := cell_blk hxq (i := 0) rfl
              have v1 := cell_blk hxq (i := 1) rfl
              have v2 := cell_blk hxq (i := 2) rfl
              have hbs3 := HBS.out.below hbq
              obtain ⟨z, hz⟩ : ∃ z, bs[j]? = some z := ⟨_, List.getElem?_eq_getElem (by have := HI.out.1; omega)⟩
              have v3 := hbs3.cell hz
              have v4 := hbs3.frozen j
              have HJ := Lib.hid (show Hid (((bs.set j true).length = 6) ∧ Inv win0 win0.length (bs.set j true) ∧ Inv win1 (i + 1) (bs.set j true)) from Lib.hid ⟨by rw [List.length_set]; exact HI.out.1, inv_set HI.out.1 (by omega) HI.out.2.1, inv_next HI.out.1 (by omega) HI.out.2.2 (by rw [row_at E1.out]; rfl)⟩)
              have HB3 := Lib.hid (hbs3.set j true)
              have HW3 := Lib.hid (HWB.out.trans (hbq.mono HWB.out.size))
              clear hbs3 hbq hxq hz a0 a1 a2 g0 g1 g2 g3 g4 g5 gp
              go_wp2
              go_roundw
              case rel => exact ⟨i + 1, bs.set j true, by omega, by go_num, by rw [HEN.out], HJ.out, HB3.out, HW3.out.setCell (p := ⟨hb, j, none⟩) hhb _⟩
              case measure => simp [intOf]; omega
            · have hii : i = win1.length := by omega
              subst hii
              have HN := Lib.hid (show Hid (bs.length = 6 ∧ ((0 : Int) < 2 → Inv win0 win0.length bs) ∧ ((1 : Int) < 2 → Inv win1 win1.length bs)) from Lib.hid ⟨HI.out.1, (fun _ => HI.out.2.1), (fun _ => HI.out.2.2)⟩)
              go_wp2
              go_roundw
              case rel => exact ⟨2, bs, by omega, by omega, rfl, HN.out, hbs, hbc⟩
              case measure => simp [intOf]
        · subst hk
          have HW3 := Lib.hid hbc
          have HB3 := Lib.hid hbs
          have hbl := hbs.lt
          obtain ⟨X, hX⟩ : ∃ X, X = wr := ⟨_, rfl⟩
          rw [← hX] at HW3 HB3 hbl
          have HX1 := Lib.hid hX
          clear hX hbc hbs
          go_wp2
          clear c0 c1 c2 c3 c4 c5
          go_loopw [147] (fun ix wv => ∃ i : Nat, i ≤ parts.length ∧ ix = .int .i64 i ∧ Below X.heap.size X wv) (fun ix _ => parts.length - (intOf ix).toNat)
          case atStart => exact ⟨0, Nat.zero_le _, rfl, by rw [HX1.out]; exact Below.refl _ _⟩
          case round =>
            obtain ⟨i, hi, rfl, hbc⟩ := hrel
            by_cases hlt : i < parts.length
            · have hi6 : i < 6 := by omega
              have hbp : bs[i]? = some true := by
                rcases HK.out.part i hlt with ⟨q, hq, he⟩ | ⟨q, hq, he⟩
                · exact HI.out.2.1 (by omega) q hq i he
                · exact HI.out.2.2 (by omega) q hq i he
              have v0 := (HB3.out.below hbc).cell hbp
              have s0 : (0 : Int) ≤ (i : Int) := by omega
              have s1 : (i : Int) < 6 := by omega
              clear hbp
              go_wp2
              go_roundw
              case rel => exact ⟨i + 1, by omega, by go_num, hbc⟩
              case measure => simp [intOf]; omega
            · have HFIN := Lib.hid (HB.out.trans ((HW3.out.trans (hbc.mono HW3.out.size)).mono HB.out.size))
              have hnl : ¬ (i : Int) < (parts.length : Int) := by omega
              go_wp2
              go_ret
              exact ⟨rfl, HFIN.out⟩
end Go.Proofs.Ytogffilanioejaa
