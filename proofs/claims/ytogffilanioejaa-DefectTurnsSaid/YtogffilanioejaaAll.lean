/- All, as a contract. No condition but those in the statements. -/
import Derived.Test.YtogffilanioejaaHolds
import Derived.BigQuiet
import Derived.Laws.EntriesVeiled
import Derived.Deep.OwnRows
namespace Go.Proofs.Ytogffilanioejaa
open Go.RowKit Go.Sort Go.ChangeShapes Go.WideShapes
set_option linter.unusedVariables false
set_option linter.unusedSimpArgs false

def icells (xs : List Int) : List Value := xs.map (Value.int .i64)
theorem icells_app (a b : List Int) : icells (a ++ b) = icells a ++ icells b := by simp [icells]
/-- A call that hands back a new list of integers, and turns nothing that was there. -/
def GivesNums (w : World) (xs : List Int) (e : Ending) (w' : World) : Prop := ∃ v, e = .returned v ∧ OwnsOff w' w.heap.size 3 1 v xs.length (icells xs) ∧ Below w.heap.size w w'
theorem news_new (w : World) (cs : Array Value) (t : TypeId) : ∀ j u, cs.toList[j]? = some u → (w.alloc (.cells cs t)).cell? ((⟨w.heap.size, 0, none⟩ : Addr).add j) = some u := fun j u hu => by
  rw [Addr.add_lit, Nat.zero_add]
  exact cell_blk (heap_alloc_new w _) (by simpa using hu)
theorem Try.infoI : (Try.prog.info? 3).map (fun i => (i.zero, i.size, i.bytes)) = some (some (.int .i64 0), 1, 8) := by kernel_rfl
/-- All hands back its closure, over a box that holds what it has found. -/
def GivesIter (w : World) (xs : List Int) (e : Ending) (w' : World) : Prop :=
  ∃ tb v, e = .returned (.func (.func 44) #[] #[.pointer (some ⟨tb, 0, none⟩)]) ∧ w.heap.size ≤ tb ∧ Boxed w' tb 42 v ∧ OwnsOff w' w.heap.size 3 1 v xs.length (icells xs) ∧ Below w.heap.size w w'
/-- Between two rounds: what has been found, in its box tb; its row lies in a block from n1 on. -/
def Found (tb n1 : Nat) (xs : List Int) (w : World) : Prop := ∃ v, Boxed w tb 42 v ∧ OwnsOff w tb 3 1 v xs.length (icells xs) ∧ (∀ g, v.ownBlock = some g → n1 ≤ g) ∧ n1 ≤ w.heap.size
theorem Found.below {tb n1 : Nat} {xs : List Int} {w w' : World} (h : Found tb n1 xs w) (hb : Below w.heap.size w w') : Found tb n1 xs w' := by
  obtain ⟨v, h1, h2, h3, h4⟩ := h
  exact ⟨v, (hb.block _ h1.lt).trans h1, h2.keptB hb, h3, Nat.le_trans h4 hb.size⟩
set_option maxRecDepth 100000 in
set_option maxHeartbeats 4000000 in
theorem all_b (c : Cfg) (x : CfgAt) (w : World) (hx : CfgIn w w.heap.size c x) (wx : CfgWf c) (lx : CfgFew c) : Calls Try.prog 19 #[.agg (cfgCells c x)] w (GivesIter w (allP c 17)) := by
  obtain ⟨W, HW, hB, hWs, bx⟩ := one_cbox w c x 29
  have hx := hx.later hB
  have HB := Lib.hid hB
  have HWS := Lib.hid hWs
  simp only [cfgCells]
  clear hB hWs
  obtain ⟨i0, hi0, hz0, hz1, hz2⟩ := info_parts Try.infoI
  have hf0 : Found W.heap.size (W.heap.size + 1) [] (W.alloc (.cells #[.slice none 0 0] 42)) := ⟨_, Boxed.new W _ _, OwnsOff.nil _ _ _ _, (fun g hg => by cases hg), by simp⟩
  have hb0 : Below W.heap.size W (W.alloc (.cells #[.slice none 0 0] 42)) := (Below.refl _ _).alloc (Nat.le_refl _) _
  have hs0 : (W.alloc (.cells #[.slice none 0 0] 42)).heap.size = W.heap.size + 1 := by simp
  obtain ⟨W0, hW0⟩ : ∃ u, Hid (u = W.alloc (.cells #[.slice none 0 0] 42)) := ⟨_, rfl⟩
  rw [← hW0.out] at hf0 hb0 hs0
  have HF0 := Lib.hid hf0; have HB0 := Lib.hid hb0; have HS0 := Lib.hid hs0
  clear hf0 hb0 hs0
  go_enter Try.func19, Try.ntmps19
  go_wp2_with (first | (rw [← HW.out]) | (rw [← hW0.out]))
  refine (rows_b W0).mono ?_
  rintro e w1 ⟨TA, to, rfl, hTA, hrow, hb1⟩
  have HB1 := Lib.hid hb1
  have hf1 : Found W.heap.size w1.heap.size [] w1 := by
    obtain ⟨v, h1, h2, h3, h4⟩ := HF0.out
    have hv := h2.2
    refine ⟨.slice none 0 0, ?_, OwnsOff.nil _ _ _ _, (fun g hg => by cases hg), Nat.le_refl _⟩
    have hW := hb1.block W.heap.size (by rw [HS0.out]; omega)
    exact hW.trans (by rw [hW0.out]; exact Boxed.new W _ _)
  have HF1 := Lib.hid hf1
  clear hb1 hf1
  go_wp2
  go_loopw [8] (fun ix wr => ∃ i : Nat, i ≤ 17 ∧ ix = .int .i64 i ∧ Found W.heap.size w1.heap.size (allP c i) wr ∧ Later W0.heap.size w1 wr ∧ Below W.heap.size W wr) (fun ix _ => 17 - (intOf ix).toNat)
  case atStart => exact ⟨0, by omega, rfl, HF1.out, Later.refl _ _, HB0.out.trans (HB1.out.mono HB0.out.size)⟩
  case round =>
    obtain ⟨i, hi, rfl, hfd, hL, hbc⟩ := hrel
    have HNX := Lib.hid (allP_next c i)
    have hll := allP_len c i
    obtain ⟨ys, hys⟩ : ∃ ys, allP c i = ys := ⟨_, rfl⟩
    have HYS := Lib.hid hys
    rw [hys] at hfd hll HNX
    clear hys
    by_cases hlt : i < 17
    · obtain ⟨f, caps, q0, q1, eg, hF⟩ := hrow i hlt
      have q0 := hL.cell hTA q0
      have q1 := hL.cell hTA q1
      have hlt' : (i : Int) < 17 := by omega
      have hcells := heap_alloc_new wr (.cells #[.int .i64 ((i : Int) + 1), .func (.func f) #[] caps.toArray] 48)
      obtain ⟨wa, hwa⟩ : ∃ u, Hid (u = wr.alloc (.cells #[.int .i64 ((i : Int) + 1), .func (.func f) #[] caps.toArray] 48)) := ⟨_, rfl⟩
      rw [← hwa.out] at hcells
      have hba : Below wr.heap.size wr wa := by rw [hwa.out]; exact (Below.refl _ _).alloc (Nat.le_refl _) _
      have hla : wr.heap.size < wa.heap.size := (Array.getElem?_eq_some_iff.1 hcells).1
      have a1 := cell_blk hcells (i := 1) rfl
      have hwb := hbc.trans (hba.mono hbc.size)
      have hLa := hL.trans (Later.of_below hba)
      have hfa := hfd.below hba
      obtain ⟨c0, c1, c2, c3, c4, c5⟩ := bx _ hwb
      have hcall := hF c x wa hLa (hx.later hwb) wx lx
      have HWB := Lib.hid hwb; have HLA := Lib.hid hLa; have HFA := Lib.hid hfa; have HC := Lib.hid hcells; have HLW := Lib.hid hla
      clear hF hwb hba hcells hbc hL hLa hfd hfa hrow hla
      cases hh : holdsP c ((i : Int) + 1) with
      | true =>
        rw [hh] at hcall
        have hcall := gives_one hcall
        have HN := Lib.hid (show allP c (i + 1) = ys ++ [(i : Int) + 1] by rw [HNX.out, if_pos hh])
        clear hh HNX
        go_wp2_with (first | (rw [← hwa.out]) | ((with_reducible refine wpList_fn (caps := caps) eg hcall ?_ ?_ ?_); (first | rfl | fail); (first | rfl | fail)))
        rintro _ w5 ⟨rfl, hb5⟩
        obtain ⟨v, hv1, hv2, hv3, hv4⟩ := HFA.out.below hb5
        obtain ⟨A', c', rfl, hvl, hvm⟩ := hv2.slice
        have b0 := hv1.cell
        have b1 := hv1.frozen
        have r0 := cell_blk ((hb5.block _ HLW.out).trans HC.out) (i := 0) rfl
        have hwc := HWB.out.trans (hb5.mono HWB.out.size)
        have HLA5 := Lib.hid (HLA.out.trans (Later.of_below hb5))
        have HV3 := Lib.hid hv3; have HV4 := Lib.hid hv4
        have htb : W.heap.size < w5.heap.size := hv1.lt
        clear hb5 hv3 hv4 a1 c0 c1 c2 c3 c4 c5 q0 q1 hcall
        go_wp2_with (at_builtin; refine wpList_append_off _ rfl _ _ 42 rfl W.heap.size 3 i0 (.int .i64 0) 1 8 Try.underlying42 hi0 hz0 hz1 hz2 rfl (by decide) _ _ _ rfl (hv2.keptB ((Below.refl _ _).alloc (Nat.le_refl _) _)) ⟨w5.heap.size, 0, none⟩ 1 1 [.int .i64 ((i : Int) + 1)] rfl rfl (news_new _ _ _) (by simp [Value.oneCell']) (by unfold maxLen; omega) (by omega) (by simp; omega) ?_)
        intro v' w6 hown' hgrow hfr
        obtain ⟨e1, e2, e3, e4, e5⟩ := Boxed.appendedOff hv1 (by decide) hv2 (by omega) (Nat.le_refl _) hown' hgrow
        have hown3 : OwnsOff (w6.setCell ⟨W.heap.size, 0, none⟩ v') W.heap.size 3 1 v' (ys ++ [(i : Int) + 1]).length (icells (ys ++ [(i : Int) + 1])) := by rw [List.length_append, icells_app]; exact e3
        have hvn' : ∀ g, v'.ownBlock = some g → w1.heap.size ≤ g := fun g hg => by
          rcases hfr g hg with h | h
          · exact HV3.out g h
          · have := HV4.out; omega
        have hL6 : Later W0.heap.size w1 (w6.setCell ⟨W.heap.size, 0, none⟩ v') := by
          refine ⟨Nat.le_trans HV4.out e5.size, fun g h1 h2 => ?_⟩
          have hs0 := HS0.out
          have h4 := HV4.out
          rw [Below.heap_setCell _ _ _ _ (by simp; omega), hgrow.block g (by simp; omega) (fun e => by have := HV3.out g e.symm; omega), Below.heap_alloc _ _ _ (by omega)]
          exact HLA5.out.2 g h1 h2
        obtain ⟨a6, c6, rfl, _⟩ := hown'.slice
        have F6 := Lib.hid (show Found W.heap.size w1.heap.size (ys ++ [(i : Int) + 1]) (w6.setCell ⟨W.heap.size, 0, none⟩ _) from ⟨_, e2, hown3, hvn', Nat.le_trans HV4.out e5.size⟩)
        have L6 := Lib.hid hL6
        have B6 := Lib.hid (hwc.trans (e5.mono (Nat.le_refl _)))
        have z0 := e1.cell
        have z1 := e1.frozen
        clear hown' hgrow hfr e1 e2 e3 e4 e5 hown3 hvn' hL6 hv1 hv2 b0 b1 r0 hwc
        go_wp2
        go_roundw
        case rel => exact ⟨i + 1, by omega, by go_num, by rw [HN.out]; exact F6.out, L6.out, B6.out⟩
        case measure => simp [intOf]; omega
      | false =>
        rw [hh] at hcall
        have hcall := gives_one hcall
        have HN := Lib.hid (show allP c (i + 1) = ys by rw [HNX.out, hh]; simp)
        clear hh HNX
        go_wp2_with (first | (rw [← hwa.out]) | ((with_reducible refine wpList_fn (caps := caps) eg hcall ?_ ?_ ?_); (first | rfl | fail); (first | rfl | fail); rintro _ w5 ⟨rfl, hb5⟩))
        go_roundw
        case rel => exact ⟨i + 1, by omega, by go_num, by rw [HN.out]; exact HFA.out.below hb5, HLA.out.trans (Later.of_below hb5), HWB.out.trans (hb5.mono HWB.out.size)⟩
        case measure => simp [intOf]; omega
    · have HE := Lib.hid (show allP c 17 = ys by rw [← HYS.out, show i = 17 by omega])
      obtain ⟨v, h1, h2, h3, h4⟩ := hfd
      have hlt' : ¬ (i : Int) < 17 := by omega
      have H1 := Lib.hid h1; have H2 := Lib.hid h2
      clear h1 h2 h3 h4 hrow
      go_wp2
      go_ret
      exact ⟨W.heap.size, v, rfl, HB.out.size, H1.out, by rw [HE.out]; exact H2.out.mono HB.out.size, HB.out.trans (hbc.mono HB.out.size)⟩
end Go.Proofs.Ytogffilanioejaa
