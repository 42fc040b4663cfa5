/- Texts of the ring, joined, what is used of them. No condition but those in the statements. -/
import Derived.Test.YtfdgokkngejbhaaGreatProg
import Derived.BigQuiet
import Derived.IntWalk
import Derived.Laws.EntriesVeiled
import Derived.Laws.StructEq
import Derived.Lib.Hide
import Derived.LoopIn
import Derived.LoopNIn
import Derived.OpenShut
import Derived.OwnWalkIn
import Derived.RangeFuncBound
import Derived.RangeFuncBox
import Derived.RangeFuncCalls
import Derived.RangeFuncLeaves
import Derived.RangeFuncNested
import Derived.Shelf.Abstract
import Derived.Shelf.RegionOpen
import Derived.TacticsInMore
import Derived.Test.YtfdgokkngejbhaaGreatQAllF
import Derived.Test.YtfdgokkngejbhaaGreatQKit
import Derived.Test.YtfdgokkngejbhaaGreatQLK
import Derived.Test.YtfdgokkngejbhaaGreatQRK
import Derived.Test.YtfdgokkngejbhaaGreatQgB
namespace Go.Proofs.YtfdgokkngejbhaaGreat
namespace One
/-- Is a span right? -/
def rightB (f s : Int) : Bool := decide (0 ≤ f ∧ f ≤ 2147483647 ∧ 0 ≤ s ∧ s ≤ 2147483647 - f)
/-- Has it that address? -/
def hasB (f s x : Int) : Bool := rightB f s && decide (f ≤ x ∧ x < f + s)
theorem rightB_yes {f s : Int} : rightB f s = true ↔ 0 ≤ f ∧ f ≤ 2147483647 ∧ 0 ≤ s ∧ s ≤ 2147483647 - f := by
  unfold rightB; exact decide_eq_true_iff
theorem rightB_no {f s : Int} : rightB f s = false ↔ ¬ (0 ≤ f ∧ f ≤ 2147483647 ∧ 0 ≤ s ∧ s ≤ 2147483647 - f) := by
  unfold rightB; exact decide_eq_false_iff_not
theorem hasB_yes {f s x : Int} : hasB f s x = true ↔ (0 ≤ f ∧ f ≤ 2147483647 ∧ 0 ≤ s ∧ s ≤ 2147483647 - f) ∧ f ≤ x ∧ x < f + s := by
  unfold hasB; rw [Bool.and_eq_true, rightB_yes, decide_eq_true_iff]
end One
end Go.Proofs.YtfdgokkngejbhaaGreat
namespace Go.Proofs.YtfdgokkngejbhaaGreat
namespace One
open Go.RowKit Go.Sort
set_option linter.unusedVariables false
set_option linter.unusedSimpArgs false
theorem rright_b (f s : Int) (w : World) :
    Calls Tryz.prog 90 #[.agg #[.int .i64 f, .int .i64 s]] w fun e w' => e = .returned (.bool (rightB f s)) ∧ Below w.heap.size w w' := by
  by_cases h1 : 0 ≤ f
  · by_cases h2 : f ≤ 2147483647
    · by_cases h3 : 0 ≤ s
      · by_cases h5 : s ≤ 2147483647
        · by_cases h4 : f + s ≤ 2147483647
          · rw [rightB_yes.2 ⟨h1, h2, h3, by omega⟩]
            go_enter Tryz.func90, Tryz.ntmps90
            go_wp2
            go_ret
            exact ⟨rfl, (Below.refl _ _).alloc (Nat.le_refl _) _⟩
          · rw [rightB_no.2 (by omega)]
            go_enter Tryz.func90, Tryz.ntmps90
            go_wp2
            go_ret
            exact ⟨rfl, (Below.refl _ _).alloc (Nat.le_refl _) _⟩
        · rw [rightB_no.2 (by omega)]
          go_enter Tryz.func90, Tryz.ntmps90
          go_wp2
          go_ret
          exact ⟨rfl, (Below.refl _ _).alloc (Nat.le_refl _) _⟩
      · rw [rightB_no.2 (by omega)]
        go_enter Tryz.func90, Tryz.ntmps90
        go_wp2
        go_ret
        exact ⟨rfl, (Below.refl _ _).alloc (Nat.le_refl _) _⟩
    · rw [rightB_no.2 (by omega)]
      go_enter Tryz.func90, Tryz.ntmps90
      go_wp2
      go_ret
      exact ⟨rfl, (Below.refl _ _).alloc (Nat.le_refl _) _⟩
  · rw [rightB_no.2 (by omega)]
    go_enter Tryz.func90, Tryz.ntmps90
    go_wp2
    go_ret
    exact ⟨rfl, (Below.refl _ _).alloc (Nat.le_refl _) _⟩
theorem rhas_b (f s x : Int) (w : World) :
    Calls Tryz.prog 62 #[.agg #[.int .i64 f, .int .i64 s], .int .i64 x] w fun e w' => e = .returned (.bool (hasB f s x)) ∧ Below w.heap.size w w' := by
  obtain ⟨W, HW, hbw, hsz, k0, k1⟩ := one_box w (.int .i64 f) (.int .i64 s) 111
  by_cases hr : rightB f s = true
  · have hb := rightB_yes.1 hr
    by_cases h0 : f ≤ x
    · by_cases h2 : x ≤ 2147483647
      · rw [show hasB f s x = decide (x - f < s) by rw [Bool.eq_iff_iff, hasB_yes, decide_eq_true_iff]; omega]
        obtain ⟨b1, b2, b3, b4⟩ := hb
        go_enter Tryz.func62, Tryz.ntmps62
        have hbc := Below.refl W.heap.size W
        go_wp2_with ((try rw [← HW.out]); (first | with_reducible refine wpList_on hbc ?_ | with_reducible refine wp_on hbc (by kernel_rfl) (by kernel_rfl) ?_); (repeat (go_big_quiet_step (first | exact regrown_is (by assumption) (rright_b _ _ _) | exact Calls.regrown_of (rright_b _ _ _)))); with_reducible refine wpQuiet_nil ?_; intro wc hbc)
        go_ret
        exact ⟨by simp, hbw.trans (hbc.mono (by omega))⟩
      · rw [(bool_of hasB_yes).2 (by omega)]
        have h2' : decide (x ≤ 2147483647) = false := by simpa using h2
        clear hb
        go_enter Tryz.func62, Tryz.ntmps62
        have hbc := Below.refl W.heap.size W
        go_wp2_with ((try rw [← HW.out]); (first | with_reducible refine wpList_on hbc ?_ | with_reducible refine wp_on hbc (by kernel_rfl) (by kernel_rfl) ?_); (repeat (go_big_quiet_step (first | exact regrown_is (by assumption) (rright_b _ _ _) | exact Calls.regrown_of (rright_b _ _ _)))); with_reducible refine wpQuiet_nil ?_; intro wc hbc)
        go_ret
        exact ⟨by simp [*], hbw.trans (hbc.mono (by omega))⟩
    · rw [(bool_of hasB_yes).2 (by omega)]
      have h0' : decide (f ≤ x) = false := by simpa using h0
      clear hb
      go_enter Tryz.func62, Tryz.ntmps62
      have hbc := Below.refl W.heap.size W
      go_wp2_with ((try rw [← HW.out]); (first | with_reducible refine wpList_on hbc ?_ | with_reducible refine wp_on hbc (by kernel_rfl) (by kernel_rfl) ?_); (repeat (go_big_quiet_step (first | exact regrown_is (by assumption) (rright_b _ _ _) | exact Calls.regrown_of (rright_b _ _ _)))); with_reducible refine wpQuiet_nil ?_; intro wc hbc)
      go_ret
      exact ⟨by simp [*], hbw.trans (hbc.mono (by omega))⟩
  · have hr' : rightB f s = false := by simpa using hr
    rw [show hasB f s x = false by unfold hasB; simp [hr']]
    go_enter Tryz.func62, Tryz.ntmps62
    have hbc := Below.refl W.heap.size W
    go_wp2_with ((try rw [← HW.out]); (first | with_reducible refine wpList_on hbc ?_ | with_reducible refine wp_on hbc (by kernel_rfl) (by kernel_rfl) ?_); (repeat (go_big_quiet_step (first | exact regrown_is (by assumption) (rright_b _ _ _) | exact Calls.regrown_of (rright_b _ _ _)))); with_reducible refine wpQuiet_nil ?_; intro wc hbc)
    go_ret
    exact ⟨by simp [*], hbw.trans (hbc.mono (by omega))⟩
end One
end Go.Proofs.YtfdgokkngejbhaaGreat
namespace Go.Proofs.YtfdgokkngejbhaaGreat
open Go.RowKit Go.Sort
set_option linter.unusedVariables false
set_option linter.unusedSimpArgs false
/-- A configuration's box, in every world that a quiet walk may meet. -/
theorem CBox.quiet {W : World} {b : Nat} {c : Cfg} {x : CfgAt} (h : CBox W b c x) : (∀ p : Regrown, (grow (redrawn W p.d) p.os).cell? ⟨b, 0, none⟩ = some (.slice x.pa c.parts.length x.pc)) ∧ (∀ p : Regrown, (grow (redrawn W p.d) p.os).cell? ⟨b, 1, none⟩ = some (.slice x.ca c.chans.length x.cc)) ∧
    (∀ p : Regrown, (grow (redrawn W p.d) p.os).cell? ⟨b, 2, none⟩ = some (.int .i64 c.len0)) ∧ (∀ p : Regrown, (grow (redrawn W p.d) p.os).cell? ⟨b, 3, none⟩ = some (.slice x.aa c.win0.length x.ac)) ∧
    (∀ p : Regrown, (grow (redrawn W p.d) p.os).cell? ⟨b, 4, none⟩ = some (.int .i64 c.len1)) ∧ (∀ p : Regrown, (grow (redrawn W p.d) p.os).cell? ⟨b, 5, none⟩ = some (.slice x.ba c.win1.length x.bc)) :=
  ⟨fun p => (h _ (below_regrown W p.d p.os)).1, fun p => (h _ (below_regrown W p.d p.os)).2.1, fun p => (h _ (below_regrown W p.d p.os)).2.2.1, fun p => (h _ (below_regrown W p.d p.os)).2.2.2.1, fun p => (h _ (below_regrown W p.d p.os)).2.2.2.2.1, fun p => (h _ (below_regrown W p.d p.os)).2.2.2.2.2⟩
end Go.Proofs.YtfdgokkngejbhaaGreat
namespace Go.Proofs.YtfdgokkngejbhaaGreat
open Go.RowKit Go.Sort Go.ChangeShapes Go.WideShapes
set_option linter.unusedVariables false
set_option linter.unusedSimpArgs false
def two (x : Int × Int) : List Int := [x.1, x.2]
end Go.Proofs.YtfdgokkngejbhaaGreat
namespace Go.Proofs.YtfdgokkngejbhaaGreat
open Go.RowKit Go.Sort Go.Shelf
set_option linter.unusedVariables false
set_option linter.unusedSimpArgs false
set_option linter.unusedVariables false
attribute [local go_sem] Oper.semAt_some
end Go.Proofs.YtfdgokkngejbhaaGreat
namespace Go.Proofs.YtfdgokkngejbhaaGreat
open Go.RowKit Go.Sort Go.Shelf
set_option linter.unusedVariables false
set_option linter.unusedSimpArgs false
set_option linter.unusedVariables false
attribute [local go_sem] Oper.semAt_some
end Go.Proofs.YtfdgokkngejbhaaGreat
namespace Go.Proofs.YtfdgokkngejbhaaGreat
open Go.RowKit Go.Sort Go.Shelf
set_option linter.unusedVariables false
set_option linter.unusedSimpArgs false
set_option linter.unusedVariables false
attribute [local go_sem] Oper.semAt_some
end Go.Proofs.YtfdgokkngejbhaaGreat
namespace Go.Proofs.YtfdgokkngejbhaaGreat
open Go.RowKit Go.Sort Go.ChangeShapes Go.WideShapes
set_option linter.unusedVariables false
set_option linter.unusedSimpArgs false
/-- Has a span, told by two numbers, the address? -/
def hasS (x : Int × Int) (a : Int) : Bool := One.hasB x.1 x.2 a
/-- By channel k: may p change the address? -/
def chMay (c : Cfg) (p a : Int) (k : Nat) : Bool := (decide (fld (row c.chans k) 1 = p) && hasS (srcSpan c (k : Int)) a) || (decide (fld (row c.chans k) 2 = p) && hasS (dstSpan c (k : Int)) a)
def mayB (c : Cfg) (p a : Int) : Bool := hasS (privSpan c p) a || scan c.chans.length (chMay c p a)
theorem scan_true {n : Nat} {f : Nat → Bool} {k : Nat} (hk : k < n) (h : f k = true) : scan n f = true := by
  unfold scan
  exact List.any_eq_true.2 ⟨k, List.mem_range.2 hk, h⟩
theorem scan_no {n : Nat} {f : Nat → Bool} (h : ∀ k, k < n → f k = false) : scan n f = false := scan_false.2 h
end Go.Proofs.YtfdgokkngejbhaaGreat
namespace Go.Proofs.YtfdgokkngejbhaaGreat
open Go.RowKit Go.Sort Go.ChangeShapes Go.WideShapes
set_option linter.unusedVariables false
set_option linter.unusedSimpArgs false
set_option maxRecDepth 100000 in
set_option maxHeartbeats 4000000 in
theorem rmay_b (c : Cfg) (x : CfgAt) (p a : Int) (w : World) (hx : CfgIn w w.heap.size c x) (wx : CfgWf c) (lx : CfgFew c) : Calls Tryz.prog 32 #[.agg (cfgCells c x), .int .i64 p, .int .i64 a] w fun e w' => e = .returned (.bool (mayB c p a)) ∧ Below w.heap.size w w' := by
  obtain ⟨W, HW, hB, -, bx⟩ := one_cbox w c x 29
  obtain ⟨pa, pc, ca, cc, aa, ac, ba, bc⟩ := x
  have hxW := hx.later hB
  have HB := Lib.hid hB; have HXW := Lib.hid hxW
  have HRP := Lib.hid (fun d os => Calls.regrown_of (rprivate_b c ⟨pa, pc, ca, cc, aa, ac, ba, bc⟩ p (grow (redrawn W d) os) (hxW.later (below_regrown W d os)) wx lx))
  obtain ⟨q0, q1, q2, q3, q4, q5⟩ := bx.quiet
  have hbc := Below.refl W.heap.size W
  simp only [cfgCells] at HW HRP ⊢
  clear hB hx hxW
  obtain ⟨p0, hp0⟩ : ∃ z, (privSpan c p).1 = z := ⟨_, rfl⟩
  obtain ⟨p1, hp1⟩ : ∃ z, (privSpan c p).2 = z := ⟨_, rfl⟩
  rw [hp0, hp1] at HRP
  have HP := Lib.hid (show hasS (privSpan c p) a = One.hasB p0 p1 a by unfold hasS; rw [hp0, hp1])
  clear hp0 hp1
  cases hh : One.hasB p0 p1 a with
  | true =>
    go_enter Tryz.func32, Tryz.ntmps32
    go_wp2_with (first | (rw [← HW.out]) | ((first | with_reducible refine wpList_on hbc ?_ | with_reducible refine wp_on hbc (by kernel_rfl) (by kernel_rfl) ?_); (repeat (first | go_big_quiet_step (first | with_reducible exact HRP.out _ _ | with_reducible exact regrown_is (by assumption) (One.rhas_b _ _ _ _)))); with_reducible refine wpQuiet_nil ?_; intro wc hbc))
    go_ret
    exact ⟨by rw [show mayB c p a = true from by unfold mayB; rw [HP.out, hh, Bool.true_or]]; rfl, HB.out.trans (hbc.mono HB.out.size)⟩
  | false =>
    go_enter Tryz.func32, Tryz.ntmps32
    go_wp2_with (first | (rw [← HW.out]) | ((first | with_reducible refine wpList_on hbc ?_ | with_reducible refine wp_on hbc (by kernel_rfl) (by kernel_rfl) ?_); (repeat (first | go_big_quiet_step (first | with_reducible exact HRP.out _ _ | with_reducible exact regrown_is (by assumption) (One.rhas_b _ _ _ _)))); with_reducible refine wpQuiet_nil ?_; intro wc hbc))
    clear HRP
    go_loopw [7] (fun ix wr => ∃ k : Nat, k ≤ c.chans.length ∧ ix = .int .i64 k ∧ (∀ j, j < k → chMay c p a j = false) ∧ Below W.heap.size W wr) (fun ix _ => c.chans.length - (intOf ix).toNat)
    case atStart => exact ⟨0, Nat.zero_le _, rfl, (fun j hj => by omega), hbc⟩
    case round =>
      clear hbc
      obtain ⟨k, hk, rfl, hno, hbc⟩ := hrel
      have HN := Lib.hid hno
      clear hno
      by_cases hlt : k < c.chans.length
      · obtain ⟨b, o, x0, x1, x2, x3, x4, x5, x6, e0, _, e1, -, hrow⟩ := HXW.out.rc.at7 wx.wc hlt
        have r1 : ∀ r : Regrown, (grow (redrawn W r.d) r.os).cell? ⟨b, o + k * 7 + 1, none⟩ = _ := fun r => (hrow _ (below_regrown W r.d r.os)).2.1
        have r2 : ∀ r : Regrown, (grow (redrawn W r.d) r.os).cell? ⟨b, o + k * 7 + 2, none⟩ = _ := fun r => (hrow _ (below_regrown W r.d r.os)).2.2.1
        have HSR := Lib.hid (fun d os => Calls.regrown_of (rsource_b c ⟨pa, pc, ca, cc, aa, ac, ba, bc⟩ (k : Int) (grow (redrawn W d) os) (HXW.out.later (below_regrown W d os)) wx lx))
        have HDR := Lib.hid (fun d os => Calls.regrown_of (rdest_b c ⟨pa, pc, ca, cc, aa, ac, ba, bc⟩ (k : Int) (grow (redrawn W d) os) (HXW.out.later (below_regrown W d os)) wx lx))
        obtain ⟨s0, hs0⟩ : ∃ z, (srcSpan c (k : Int)).1 = z := ⟨_, rfl⟩
        obtain ⟨s1, hs1⟩ : ∃ z, (srcSpan c (k : Int)).2 = z := ⟨_, rfl⟩
        obtain ⟨d0, hd0⟩ : ∃ z, (dstSpan c (k : Int)).1 = z := ⟨_, rfl⟩
        obtain ⟨d1, hd1⟩ : ∃ z, (dstSpan c (k : Int)).2 = z := ⟨_, rfl⟩
        rw [hs0, hs1] at HSR
        rw [hd0, hd1] at HDR
        have HS := Lib.hid (show srcSpan c (k : Int) = (s0, s1) by rw [← hs0, ← hs1])
        have HD := Lib.hid (show dstSpan c (k : Int) = (d0, d1) by rw [← hd0, ← hd1])
        have E1 := Lib.hid e1
        have i0 : (0 : Int) ≤ (k : Int) := by omega
        have i1 : (k : Int) < (c.chans.length : Int) := by omega
        have v0 := IntWalk.i64_in ((k : Int) + 1) (by have := lx.2.1; omega)
        simp only [cfgCells] at HSR HDR
        clear e1 hrow hs0 hs1 hd0 hd1
        subst e0
        by_cases e1 : x1 = p
        · have g1 : (x1 == p) = true := by simp [e1]
          cases h1 : One.hasB s0 s1 a with
          | true =>
            have hcm : chMay c p a k = true := by
              unfold chMay hasS
              rw [row_at E1.out, HS.out, HD.out]
              show ((decide (x1 = p) && One.hasB s0 s1 a) || (decide (x2 = p) && One.hasB d0 d1 a)) = true
              simp [e1, h1]
            have HCM := Lib.hid hcm
            clear hcm
            go_wp2_with ((first | with_reducible refine wpList_on hbc ?_ | with_reducible refine wp_on hbc (by kernel_rfl) (by kernel_rfl) ?_); (repeat (first | go_big_quiet_step (first | with_reducible exact HSR.out _ _ | with_reducible exact HDR.out _ _ | with_reducible exact regrown_is (by assumption) (One.rhas_b _ _ _ _)))); with_reducible refine wpQuiet_nil ?_; intro wc hbc)
            go_ret
            exact ⟨by rw [show mayB c p a = true from by unfold mayB; rw [scan_true (k := k) hlt HCM.out, Bool.or_true]]; rfl, HB.out.trans (hbc.mono HB.out.size)⟩
          | false =>
            by_cases e2 : x2 = p
            · have g2 : (x2 == p) = true := by simp [e2]
              cases h2 : One.hasB d0 d1 a with
              | true =>
                have hcm : chMay c p a k = true := by
                  unfold chMay hasS
                  rw [row_at E1.out, HS.out, HD.out]
                  show ((decide (x1 = p) && One.hasB s0 s1 a) || (decide (x2 = p) && One.hasB d0 d1 a)) = true
                  simp [e1, h1, e2, h2]
                have HCM := Lib.hid hcm
                clear hcm
                go_wp2_with ((first | with_reducible refine wpList_on hbc ?_ | with_reducible refine wp_on hbc (by kernel_rfl) (by kernel_rfl) ?_); (repeat (first | go_big_quiet_step (first | with_reducible exact HSR.out _ _ | with_reducible exact HDR.out _ _ | with_reducible exact regrown_is (by assumption) (One.rhas_b _ _ _ _)))); with_reducible refine wpQuiet_nil ?_; intro wc hbc)
                go_ret
                exact ⟨by rw [show mayB c p a = true from by unfold mayB; rw [scan_true (k := k) hlt HCM.out, Bool.or_true]]; rfl, HB.out.trans (hbc.mono HB.out.size)⟩
              | false =>
                have hcm : chMay c p a k = false := by
                  unfold chMay hasS
                  rw [row_at E1.out, HS.out, HD.out]
                  show ((decide (x1 = p) && One.hasB s0 s1 a) || (decide (x2 = p) && One.hasB d0 d1 a)) = false
                  simp [e1, h1, e2, h2]
                have HCM := Lib.hid hcm
                clear hcm
                go_wp2_with ((first | with_reducible refine wpList_on hbc ?_ | with_reducible refine wp_on hbc (by kernel_rfl) (by kernel_rfl) ?_); (repeat (first | go_big_quiet_step (first | with_reducible exact HSR.out _ _ | with_reducible exact HDR.out _ _ | with_reducible exact regrown_is (by assumption) (One.rhas_b _ _ _ _)))); with_reducible refine wpQuiet_nil ?_; intro wc hbc)
                go_roundw
                case rel => exact ⟨k + 1, by omega, by go_num, (fun j hj => by
                  by_cases e : j = k
                  · subst e; exact HCM.out
                  · exact HN.out j (by omega)), hbc⟩
                case measure => simp [intOf]; omega
            · have g2 : (x2 == p) = false := by simp [e2]
              have hcm : chMay c p a k = false := by
                unfold chMay hasS
                rw [row_at E1.out, HS.out, HD.out]
                show ((decide (x1 = p) && One.hasB s0 s1 a) || (decide (x2 = p) && One.hasB d0 d1 a)) = false
                simp [e1, h1, e2]
              have HCM := Lib.hid hcm
              clear hcm
              go_wp2_with ((first | with_reducible refine wpList_on hbc ?_ | with_reducible refine wp_on hbc (by kernel_rfl) (by kernel_rfl) ?_); (repeat (first | go_big_quiet_step (first | with_reducible exact HSR.out _ _ | with_reducible exact HDR.out _ _ | with_reducible exact regrown_is (by assumption) (One.rhas_b _ _ _ _)))); with_reducible refine wpQuiet_nil ?_; intro wc hbc)
              go_roundw
              case rel => exact ⟨k + 1, by omega, by go_num, (fun j hj => by
                by_cases e : j = k
                · subst e; exact HCM.out
                · exact HN.out j (by omega)), hbc⟩
              case measure => simp [intOf]; omega
        · have g1 : (x1 == p) = false := by simp [e1]
          by_cases e2 : x2 = p
          · have g2 : (x2 == p) = true := by simp [e2]
            cases h2 : One.hasB d0 d1 a with
            | true =>
              have hcm : chMay c p a k = true := by
                unfold chMay hasS
                rw [row_at E1.out, HS.out, HD.out]
                show ((decide (x1 = p) && One.hasB s0 s1 a) || (decide (x2 = p) && One.hasB d0 d1 a)) = true
                simp [e1, e2, h2]
              have HCM := Lib.hid hcm
              clear hcm
              go_wp2_with ((first | with_reducible refine wpList_on hbc ?_ | with_reducible refine wp_on hbc (by kernel_rfl) (by kernel_rfl) ?_); (repeat (first | go_big_quiet_step (first | with_reducible exact HSR.out _ _ | with_reducible exact HDR.out _ _ | with_reducible exact regrown_is (by assumption) (One.rhas_b _ _ _ _)))); with_reducible refine wpQuiet_nil ?_; intro wc hbc)
              go_ret
              exact ⟨by rw [show mayB c p a = true from by unfold mayB; rw [scan_true (k := k) hlt HCM.out, Bool.or_true]]; rfl, HB.out.trans (hbc.mono HB.out.size)⟩
            | false =>
              have hcm : chMay c p a k = false := by
                unfold chMay hasS
                rw [row_at E1.out, HS.out, HD.out]
                show ((decide (x1 = p) && One.hasB s0 s1 a) || (decide (x2 = p) && One.hasB d0 d1 a)) = false
                simp [e1, e2, h2]
              have HCM := Lib.hid hcm
              clear hcm
              go_wp2_with ((first | with_reducible refine wpList_on hbc ?_ | with_reducible refine wp_on hbc (by kernel_rfl) (by kernel_rfl) ?_); (repeat (first | go_big_quiet_step (first | with_reducible exact HSR.out _ _ | with_reducible exact HDR.out _ _ | with_reducible exact regrown_is (by assumption) (One.rhas_b _ _ _ _)))); with_reducible refine wpQuiet_nil ?_; intro wc hbc)
              go_roundw
              case rel => exact ⟨k + 1, by omega, by go_num, (fun j hj => by
                by_cases e : j = k
                · subst e; exact HCM.out
                · exact HN.out j (by omega)), hbc⟩
              case measure => simp [intOf]; omega
          · have g2 : (x2 == p) = false := by simp [e2]
            have hcm : chMay c p a k = false := by
              unfold chMay hasS
              rw [row_at E1.out, HS.out, HD.out]
              show ((decide (x1 = p) && One.hasB s0 s1 a) || (decide (x2 = p) && One.hasB d0 d1 a)) = false
              simp [e1, e2]
            have HCM := Lib.hid hcm
            clear hcm
            go_wp2_with ((first | with_reducible refine wpList_on hbc ?_ | with_reducible refine wp_on hbc (by kernel_rfl) (by kernel_rfl) ?_); (repeat (first | go_big_quiet_step (first | with_reducible exact HSR.out _ _ | with_reducible exact HDR.out _ _ | with_reducible exact regrown_is (by assumption) (One.rhas_b _ _ _ _)))); with_reducible refine wpQuiet_nil ?_; intro wc hbc)
            go_roundw
            case rel => exact ⟨k + 1, by omega, by go_num, (fun j hj => by
              by_cases e : j = k
              · subst e; exact HCM.out
              · exact HN.out j (by omega)), hbc⟩
            case measure => simp [intOf]; omega
      · have HX := Lib.hid (show mayB c p a = false by unfold mayB; rw [HP.out, hh, Bool.false_or]; exact scan_no (fun j hj => HN.out j (by omega)))
        go_wp2_with ((first | with_reducible refine wpList_on hbc ?_ | with_reducible refine wp_on hbc (by kernel_rfl) (by kernel_rfl) ?_); (repeat (first | go_big_quiet_step (first | fail))); with_reducible refine wpQuiet_nil ?_; intro wc hbc)
        go_ret
        exact ⟨by rw [HX.out]; rfl, HB.out.trans (hbc.mono HB.out.size)⟩
end Go.Proofs.YtfdgokkngejbhaaGreat
