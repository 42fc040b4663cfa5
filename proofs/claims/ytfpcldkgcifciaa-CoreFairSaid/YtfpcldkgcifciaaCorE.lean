/- Tick, the document's Entered, as contracts. No condition but those in the statements. -/
import Derived.Test.YtfpcldkgcifciaaCorN
import Derived.BigQuiet
import Derived.IntWalk
import Derived.BigRegion
import Derived.OpenShut
namespace Go.Proofs.Ytfpcldkgcifciaa
open Go.RowKit Go.Sort Go.ChangeShapes Go.WideShapes
set_option linter.unusedVariables false
set_option linter.unusedSimpArgs false

set_option linter.unusedVariables false
set_option linter.unusedSimpArgs false

theorem Try.infoF : (Try.prog.info? 26).map (fun i => (i.size)) = some 2 := by kernel_rfl
theorem frame_at0 (l0 l1 : Int) (A B : Option Addr) (n m c d : Nat) (w : World) : (Instr.index 27 (.agg #[.int .i64 l0, .slice A n c, .int .i64 l1, .slice B m d]) (.int .i64 0)).run Try.prog w = .ok (.agg #[.int .i64 l0, .slice A n c]) w := by
  obtain ⟨i, hi, hs⟩ : ∃ i, Try.prog.info? 26 = some i ∧ i.size = 2 := by
    have h := Try.infoF
    cases hh : Try.prog.info? 26 with
    | none => rw [hh] at h; cases h
    | some i => rw [hh] at h; exact ⟨i, rfl, by simpa using h⟩
  simp [Instr.index, go_sem, run_underlying Try.underlying27, asIntOf, run_sizeOf w hi, hs]
theorem frame_at1 (l0 l1 : Int) (A B : Option Addr) (n m c d : Nat) (w : World) : (Instr.index 27 (.agg #[.int .i64 l0, .slice A n c, .int .i64 l1, .slice B m d]) (.int .i64 1)).run Try.prog w = .ok (.agg #[.int .i64 l1, .slice B m d]) w := by
  obtain ⟨i, hi, hs⟩ : ∃ i, Try.prog.info? 26 = some i ∧ i.size = 2 := by
    have h := Try.infoF
    cases hh : Try.prog.info? 26 with
    | none => rw [hh] at h; cases h
    | some i => rw [hh] at h; exact ⟨i, rfl, by simpa using h⟩
  simp [Instr.index, go_sem, run_underlying Try.underlying27, asIntOf, run_sizeOf w hi, hs, show Try.prog.cellsOf 26 = 2 from by kernel_rfl]

/-- Who is entered, of the first k cores. -/
def entUp (c : Cfg) (t : Int) (k : Nat) : List Int := if k = 0 then [] else if k = 1 then (atO entB c.len0 c.win0 t).toList else entL c t
theorem entUp_len (c : Cfg) (t : Int) (k : Nat) : (entUp c t k).length ≤ 2 := by
  unfold entUp
  split
  · simp
  · split
    · cases atO entB c.len0 c.win0 t <;> simp
    · exact entL_len c t
theorem entUp_1n {c : Cfg} {t : Int} (h : atO entB c.len0 c.win0 t = none) : entUp c t 1 = entUp c t 0 := by unfold entUp; rw [if_neg (by omega), if_pos rfl, if_pos rfl, h]; rfl
theorem entUp_1s {c : Cfg} {t q : Int} (h : atO entB c.len0 c.win0 t = some q) : entUp c t 1 = entUp c t 0 ++ [q] := by unfold entUp; rw [if_neg (by omega), if_pos rfl, if_pos rfl, h]; rfl
theorem entUp_2n {c : Cfg} {t : Int} (h : atO entB c.len1 c.win1 t = none) : entUp c t 2 = entUp c t 1 := by unfold entUp entL; rw [if_neg (by omega), if_neg (by omega), if_neg (by omega), if_pos rfl, h]; simp
theorem entUp_2s {c : Cfg} {t q : Int} (h : atO entB c.len1 c.win1 t = some q) : entUp c t 2 = entUp c t 1 ++ [q] := by unfold entUp entL; rw [if_neg (by omega), if_neg (by omega), if_neg (by omega), if_pos rfl, h]; simp
/-- Behind a Tick. -/
def Ticks15 (w : World) (b : Nat) (c : Cfg) (x : CfgAt) (t : Int) (e : Ending) (w' : World) : Prop := ∃ v, e = .returned v ∧ OwnsOff w' w.heap.size 3 1 v (entL c t).length (icells (entL c t)) ∧ ClkAt w' b c x t ∧ Only (fun k => k = b) w w'

set_option maxRecDepth 100000 in
set_option maxHeartbeats 4000000 in
theorem rent_b (c : Cfg) (x : CfgAt) (t : Int) (w : World) (hx : CfgIn w w.heap.size c x) (hc : CfgFr c) : Calls Try.prog 15 #[.agg (cfgCells c x), .int .i64 t] w (GivesNums w (entL c t)) := by
  obtain ⟨i0, hi0, hz0, hz1, hz2⟩ := info_parts Try.infoI
  obtain ⟨W, HW, hB, hWs, bx⟩ := one_cbox w c x 29
  have HXW := Lib.hid (hx.later hB)
  obtain ⟨c0, c1, c2, c3, c4, c5⟩ := bx _ (Below.refl _ _)
  have HB := Lib.hid hB
  simp only [cfgCells] at HW ⊢
  clear hB hx hWs
  go_enter Try.func15, Try.ntmps15
  go_wp2_with (rw [← HW.out])
  clear c0 c1 c2 c3 c4 c5
  go_loopw [5, 6] (fun v ix wr => ∃ k : Nat, k ≤ 2 ∧ ix = .int .i64 k ∧ OwnsOff wr W.heap.size 3 1 v (entUp c t k).length (icells (entUp c t k)) ∧ Below W.heap.size W wr) (fun _ ix _ => (2 - intOf ix).toNat)
  case atStart => exact ⟨0, by omega, rfl, OwnsOff.nil _ _ _ _, Below.refl _ _⟩
  case round =>
    obtain ⟨k, hk, rfl, hown, hbc⟩ := hrel
    obtain ⟨c0, c1, c2, c3, c4, c5⟩ := bx _ hbc
    rcases (show k = 0 ∨ k = 1 ∨ k = 2 by omega) with rfl | rfl | rfl
    · have hle := entUp_len c t 0
      obtain ⟨ys, hys⟩ : ∃ ys, entUp c t 0 = ys := ⟨_, rfl⟩
      have HYS := Lib.hid hys
      rw [hys] at hown hle
      clear hys
      cases ho : atO entB c.len0 c.win0 t with
      | none =>
        have HA := Lib.hid (renters_no c.len0 c.win0 x.aa x.ac t wr (⟨((HXW.out.later hbc).ra), hc.wa, hc.f0, hc.w0⟩ : FIn wr c.len0 c.win0 x.aa) ho)
        have HN := Lib.hid ((entUp_1n ho).trans HYS.out)
        have HBC := Lib.hid hbc; have HOW := Lib.hid hown
        clear ho hbc hown
        go_wp2_with fail
        refine HA.out.mono ?_
        rintro e w5 ⟨rfl, hb5⟩
        have HB5 := Lib.hid hb5
        clear hb5
        go_wp2
        go_roundw
        case rel => exact ⟨1, by omega, rfl, by rw [HN.out]; exact HOW.out.keptB HB5.out, HBC.out.trans (HB5.out.mono HBC.out.size)⟩
        case measure => simp [intOf]
      | some q =>
        have HA := Lib.hid (renters_yes c.len0 c.win0 x.aa x.ac t q wr (⟨((HXW.out.later hbc).ra), hc.wa, hc.f0, hc.w0⟩ : FIn wr c.len0 c.win0 x.aa) ho)
        have HN := Lib.hid ((entUp_1s ho).trans (by rw [HYS.out] : entUp c t 0 ++ [q] = ys ++ [q]))
        have hbo := hbc
        clear ho
        go_wp2_with fail
        refine HA.out.mono ?_
        rintro e w5 ⟨rfl, hb5⟩
        have hwc := hbo.trans (hb5.mono hbo.size)
        have hown5 := hown.keptB hb5
        clear hb5 hown hbc hbo c0 c1 c2 c3 c4 c5 HA
        go_wp2_with (at_builtin; refine wpList_append_off _ rfl _ _ 35 rfl W.heap.size 3 i0 (.int .i64 0) 1 8 Try.underlying35 hi0 hz0 hz1 hz2 rfl (by decide) _ _ _ rfl (hown5.keptB ((Below.refl _ _).alloc (Nat.le_refl _) _)) ⟨w5.heap.size, 0, none⟩ 1 1 [.int .i64 (q)] rfl rfl (news_new _ _ _) (by simp [Value.oneCell']) (by unfold maxLen; omega) (by omega) (by have := hwc.size; simp; omega) ?_)
        intro v' w6 hown' hgrow _
        have hb6 := Lib.hid ((hwc.alloc hwc.size _).grown hgrow (by have := hwc.size; simp; omega) (fun i e => (hown5.lt i e).1))
        have hown3 : OwnsOff w6 W.heap.size 3 1 v' (ys ++ [q]).length (icells (ys ++ [q])) := by rw [List.length_append, icells_app]; exact hown'
        have H3 := Lib.hid hown3
        clear hown' hgrow hown3 hown5
        go_wp2
        go_roundw
        case rel => exact ⟨1, by omega, rfl, by rw [HN.out]; exact H3.out, hb6.out⟩
        case measure => simp [intOf]
    · have hle := entUp_len c t 1
      obtain ⟨ys, hys⟩ : ∃ ys, entUp c t 1 = ys := ⟨_, rfl⟩
      have HYS := Lib.hid hys
      rw [hys] at hown hle
      clear hys
      cases ho : atO entB c.len1 c.win1 t with
      | none =>
        have HA := Lib.hid (renters_no c.len1 c.win1 x.ba x.bc t wr (⟨((HXW.out.later hbc).rb), hc.wb, hc.f1, hc.w1⟩ : FIn wr c.len1 c.win1 x.ba) ho)
        have HN := Lib.hid ((entUp_2n ho).trans HYS.out)
        have HBC := Lib.hid hbc; have HOW := Lib.hid hown
        clear ho hbc hown
        go_wp2_with fail
        refine HA.out.mono ?_
        rintro e w5 ⟨rfl, hb5⟩
        have HB5 := Lib.hid hb5
        clear hb5
        go_wp2
        go_roundw
        case rel => exact ⟨2, by omega, rfl, by rw [HN.out]; exact HOW.out.keptB HB5.out, HBC.out.trans (HB5.out.mono HBC.out.size)⟩
        case measure => simp [intOf]
      | some q =>
        have HA := Lib.hid (renters_yes c.len1 c.win1 x.ba x.bc t q wr (⟨((HXW.out.later hbc).rb), hc.wb, hc.f1, hc.w1⟩ : FIn wr c.len1 c.win1 x.ba) ho)
        have HN := Lib.hid ((entUp_2s ho).trans (by rw [HYS.out] : entUp c t 1 ++ [q] = ys ++ [q]))
        have hbo := hbc
        clear ho
        go_wp2_with fail
        refine HA.out.mono ?_
        rintro e w5 ⟨rfl, hb5⟩
        have hwc := hbo.trans (hb5.mono hbo.size)
        have hown5 := hown.keptB hb5
        clear hb5 hown hbc hbo c0 c1 c2 c3 c4 c5 HA
        go_wp2_with (at_builtin; refine wpList_append_off _ rfl _ _ 35 rfl W.heap.size 3 i0 (.int .i64 0) 1 8 Try.underlying35 hi0 hz0 hz1 hz2 rfl (by decide) _ _ _ rfl (hown5.keptB ((Below.refl _ _).alloc (Nat.le_refl _) _)) ⟨w5.heap.size, 0, none⟩ 1 1 [.int .i64 (q)] rfl rfl (news_new _ _ _) (by simp [Value.oneCell']) (by unfold maxLen; omega) (by omega) (by have := hwc.size; simp; omega) ?_)
        intro v' w6 hown' hgrow _
        have hb6 := Lib.hid ((hwc.alloc hwc.size _).grown hgrow (by have := hwc.size; simp; omega) (fun i e => (hown5.lt i e).1))
        have hown3 : OwnsOff w6 W.heap.size 3 1 v' (ys ++ [q]).length (icells (ys ++ [q])) := by rw [List.length_append, icells_app]; exact hown'
        have H3 := Lib.hid hown3
        clear hown' hgrow hown3 hown5
        go_wp2
        go_roundw
        case rel => exact ⟨2, by omega, rfl, by rw [HN.out]; exact H3.out, hb6.out⟩
        case measure => simp [intOf]
    · have H3 := Lib.hid hown
      have HBC := Lib.hid hbc
      clear hown hbc
      go_wp2
      go_ret
      exact ⟨_, rfl, H3.out.mono HB.out.size, HB.out.trans (HBC.out.mono HB.out.size)⟩
end Go.Proofs.Ytfpcldkgcifciaa
