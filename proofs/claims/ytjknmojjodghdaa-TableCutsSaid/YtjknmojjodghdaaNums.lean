/- numbers: a configuration's numbers in the order of its words, as a contract. No condition but those in the statements. -/
import Derived.Test.YtjknmojjodghdaaGreat
namespace Go.Proofs.Ytjknmojjodghdaa
open Go.RowKit Go.Sort
set_option linter.unusedVariables false
set_option linter.unusedSimpArgs false

/-- Integers as cells. -/
def icells (xs : List Int) : List Value := xs.map (Value.int .i64)
@[simp] theorem icells_len (xs : List Int) : (icells xs).length = xs.length := by simp [icells]
theorem icells_app (a b : List Int) : icells (a ++ b) = icells a ++ icells b := by simp [icells]
/-- Its numbers, in the order of its words. -/
def headN (c : Cfg) : List Int := [(c.parts.length : Int), (c.chans.length : Int), c.len0, (c.win0.length : Int), c.len1, (c.win1.length : Int)]
def numsN (c : Cfg) : List Int := headN c ++ c.parts.flatten ++ c.chans.flatten ++ c.win0.flatten ++ c.win1.flatten
def headUpto (c : Cfg) (j : Int) : List Int := if j ≤ 0 then [(c.parts.length : Int), (c.chans.length : Int)] else if j ≤ 1 then [(c.parts.length : Int), (c.chans.length : Int), c.len0, (c.win0.length : Int)] else headN c
theorem flat_len {ks : List IntKind} : ∀ {l : List (List Int)}, wfR ks l → l.flatten.length = l.length * ks.length
  | [], _ => by simp
  | y :: l, hf => by
    have ih := flat_len (l := l) (fun z hz => hf z (by simp [hz]))
    rw [List.flatten_cons, List.length_append, ih, (hf y (by simp)).1, List.length_cons, Nat.add_mul]; omega
theorem flat_take {ks : List IntKind} {l : List (List Int)} (h : wfR ks l) {k : Nat} (hk : k ≤ l.length) : (l.take k).flatten.length = k * ks.length := by
  rw [flat_len (fun z hz => h z (List.mem_of_mem_take hz)), List.length_take, Nat.min_eq_left hk]
theorem flat_next {l : List (List Int)} {k : Nat} {x : List Int} (h : l[k]? = some x) : (l.take (k + 1)).flatten = (l.take k).flatten ++ x := by
  rw [List.take_add_one, h]; simp
/-- A new block's cells, as append wants them: the last block, and the one behind another new one. -/
theorem news_new (w : World) (cs : Array Value) (t : TypeId) : ∀ j u, cs.toList[j]? = some u → (w.alloc (.cells cs t)).cell? ((⟨w.heap.size, 0, none⟩ : Addr).add j) = some u := fun j u hu => by
  rw [Addr.add_lit, Nat.zero_add]
  exact cell_blk (heap_alloc_new w _) (by simpa using hu)
theorem news_new2 (w : World) (o : Obj) (cs : Array Value) (t : TypeId) : ∀ j u, cs.toList[j]? = some u → ((w.alloc o).alloc (.cells cs t)).cell? ((⟨w.heap.size + 1, 0, none⟩ : Addr).add j) = some u := by
  have h := news_new (w.alloc o) cs t
  rwa [World.size_alloc] at h
/-- Cells that are laid anew are the call's own. -/
theorem own_new (w : World) (base : Nat) (cs : Array Value) (t : TypeId) (hb : base ≤ w.heap.size) (hm : cs.size ≤ 1000000) : OwnsOff (w.alloc (.cells cs t)) base t 1 (.slice (some ⟨w.heap.size, 0, none⟩) cs.size cs.size) cs.size cs.toList :=
  ⟨by simp, .inr ⟨w.heap.size, 0, cs.size, cs, rfl, hb, heap_alloc_new w _, Nat.le_refl _, by unfold maxLen; omega, by simp, by simp [List.take_of_length_le]⟩⟩
/-- A call that hands back a new list of integers, and turns nothing that was there. -/
def GivesNums (w : World) (xs : List Int) (e : Ending) (w' : World) : Prop := ∃ v, e = .returned v ∧ OwnsOff w' w.heap.size 3 1 v xs.length (icells xs) ∧ Below w.heap.size w w'

theorem Try.infoF : (Try.prog.info? 28).map (fun i => (i.size)) = some 2 := by kernel_rfl
theorem frame_at0 (l0 l1 : Int) (A B : Option Addr) (n m c d : Nat) (w : World) : (Instr.index 29 (.agg #[.int .i64 l0, .slice A n c, .int .i64 l1, .slice B m d]) (.int .i64 0)).run Try.prog w = .ok (.agg #[.int .i64 l0, .slice A n c]) w := by
  obtain ⟨i, hi, hs⟩ : ∃ i, Try.prog.info? 28 = some i ∧ i.size = 2 := by
    have h := Try.infoF
    cases hh : Try.prog.info? 28 with
    | none => rw [hh] at h; cases h
    | some i => rw [hh] at h; exact ⟨i, rfl, by simpa using h⟩
  simp [Instr.index, go_sem, run_underlying Try.underlying29, asIntOf, run_sizeOf w hi, hs]
theorem frame_at1 (l0 l1 : Int) (A B : Option Addr) (n m c d : Nat) (w : World) : (Instr.index 29 (.agg #[.int .i64 l0, .slice A n c, .int .i64 l1, .slice B m d]) (.int .i64 1)).run Try.prog w = .ok (.agg #[.int .i64 l1, .slice B m d]) w := by
  obtain ⟨i, hi, hs⟩ : ∃ i, Try.prog.info? 28 = some i ∧ i.size = 2 := by
    have h := Try.infoF
    cases hh : Try.prog.info? 28 with
    | none => rw [hh] at h; cases h
    | some i => rw [hh] at h; exact ⟨i, rfl, by simpa using h⟩
  simp [Instr.index, go_sem, run_underlying Try.underlying29, asIntOf, run_sizeOf w hi, hs, show Try.prog.cellsOf 28 = 2 from by kernel_rfl]
/-- The numbers, with the first windows. -/
def winUpto (Q0 : List Int) (win0 win1 : List (List Int)) (j : Int) : List Int := if j ≤ 0 then Q0 else if j ≤ 1 then Q0 ++ win0.flatten else Q0 ++ win0.flatten ++ win1.flatten

set_option maxRecDepth 100000 in
set_option maxHeartbeats 8000000 in
theorem nums_plain (parts chans : List (List Int)) (len0 : Int) (win0 : List (List Int)) (len1 : Int) (win1 : List (List Int)) (pa : Option Addr) (pc : Nat) (ca : Option Addr) (cc : Nat) (aa : Option Addr) (ac : Nat) (ba : Option Addr) (bc : Nat) (w : World) (hxp : RowN [.i64, .i64] w w.heap.size pa parts) (hxc : RowN [.i64, .i64, .i64, .i64, .i64, .i64, .u32] w w.heap.size ca chans) (hx0 : RowN [.i64, .i64, .i64] w w.heap.size aa win0) (hx1 : RowN [.i64, .i64, .i64] w w.heap.size ba win1) (hxpw : wfR [.i64, .i64] parts) (hxcw : wfR [.i64, .i64, .i64, .i64, .i64, .i64, .u32] chans) (hx0w : wfR [.i64, .i64, .i64] win0) (hx1w : wfR [.i64, .i64, .i64] win1) (hxpl : parts.length ≤ 1000000) (hxcl : chans.length ≤ 1000000) (hx0l : win0.length ≤ 1000000) (hx1l : win1.length ≤ 1000000) (g0 : parts.length ≤ 64) (g1 : chans.length ≤ 64) (g2 : win0.length ≤ 64) (g3 : win1.length ≤ 64) :
    Calls Try.prog 33 #[.agg #[.slice pa parts.length pc, .slice ca chans.length cc, .int .i64 len0, .slice aa win0.length ac, .int .i64 len1, .slice ba win1.length bc]] w (GivesNums w (numsN (⟨parts, chans, len0, win0, len1, win1⟩ : Cfg))) := by
  obtain ⟨W, HW, hB, -, bx⟩ := one_cbox w ⟨parts, chans, len0, win0, len1, win1⟩ ⟨pa, pc, ca, cc, aa, ac, ba, bc⟩ 31
  have HB := Lib.hid hB
  have hxp := hxp.later hB; have hxc := hxc.later hB; have hx0 := hx0.later hB; have hx1 := hx1.later hB
  obtain ⟨i0, hi, hz0, hz1, hz2⟩ := info_parts Try.infoI
  have hown := own_new W W.heap.size #[.int .i64 (parts.length : Int), .int .i64 (chans.length : Int)] 3 (Nat.le_refl _) (by simp)
  have hbc : Below W.heap.size W (W.alloc (.cells #[.int .i64 (parts.length : Int), .int .i64 (chans.length : Int)] 3)) := (Below.refl _ _).alloc (Nat.le_refl _) _
  rw [HW.out] at hown hbc
  have hix0 := frame_at0 len0 len1 aa ba win0.length win1.length ac bc
  have hix1 := frame_at1 len0 len1 aa ba win0.length win1.length ac bc
  clear hB
  go_enter Try.func33, Try.ntmps33
  go_wp2
  go_loopw [3, 23] (fun v ix wr => ∃ j : Int, 0 ≤ j ∧ j ≤ 2 ∧ ix = .int .i64 j ∧ OwnsOff wr W.heap.size 3 1 v (headUpto (⟨parts, chans, len0, win0, len1, win1⟩ : Cfg) j).length (icells (headUpto (⟨parts, chans, len0, win0, len1, win1⟩ : Cfg) j)) ∧ Below W.heap.size W wr) (fun _ ix _ => (2 - intOf ix).toNat)
  case atStart => exact ⟨0, by omega, by omega, rfl, by rw [HW.out]; simp only [World.size_alloc] at hown ⊢; exact hown, by rw [HW.out]; exact hbc⟩
  case round =>
    clear hown hbc
    obtain ⟨j, hj0, hj2, rfl, hown, hbc⟩ := hrel
    obtain ⟨c0, c1, c2, c3, c4, c5⟩ := bx _ hbc
    rcases (show j = 0 ∨ j = 1 ∨ j = 2 by omega) with hj | hj | hj
    · subst hj
      obtain ⟨ys, hys⟩ : ∃ ys, headUpto (⟨parts, chans, len0, win0, len1, win1⟩ : Cfg) 0 = ys := ⟨_, rfl⟩
      have hyl : ys.length ≤ 6 := by rw [← hys]; simp [headUpto]
      have HN := Lib.hid (show headUpto (⟨parts, chans, len0, win0, len1, win1⟩ : Cfg) 1 = ys ++ [len0, (win0.length : Int)] by rw [← hys]; rfl)
      rw [hys] at hown
      clear hys
      go_wp2_with (at_builtin; refine wpList_append_off _ rfl _ _ 69 rfl W.heap.size 3 i0 (.int .i64 0) 1 8 Try.underlying69 hi hz0 hz1 hz2 rfl (by decide) _ _ _ rfl (hown.keptB (((Below.refl _ _).alloc (Nat.le_refl _) _).alloc (by simp) _)) ⟨wr.heap.size + 1, 0, none⟩ 2 2 [.int .i64 len0, .int .i64 (win0.length : Int)] rfl rfl (news_new2 _ _ _ _) (by simp [Value.oneCell']) (by unfold maxLen; omega) (by omega) (by simp; have := hbc.size; omega) ?_)
      intro v' w2 hown' hgrow _
      have hb2 := Lib.hid (((hbc.alloc hbc.size _).alloc (by simp; have := hbc.size; omega) _).grown hgrow (by simp; have := hbc.size; omega) (fun i e => (hown.lt i e).1))
      have hown3 : OwnsOff w2 W.heap.size 3 1 v' (ys ++ [len0, (win0.length : Int)]).length (icells (ys ++ [len0, (win0.length : Int)])) := by rw [List.length_append, icells_app]; exact hown'
      have H3 := Lib.hid hown3
      clear hown' hgrow hown hown3
      go_wp2
      go_roundw
      case rel => exact ⟨1, by omega, by omega, rfl, by rw [HN.out]; exact H3.out, hb2.out⟩
      case measure => simp [intOf]
    · subst hj
      obtain ⟨ys, hys⟩ : ∃ ys, headUpto (⟨parts, chans, len0, win0, len1, win1⟩ : Cfg) 1 = ys := ⟨_, rfl⟩
      have hyl : ys.length ≤ 6 := by rw [← hys]; simp [headUpto]
      have HN := Lib.hid (show headUpto (⟨parts, chans, len0, win0, len1, win1⟩ : Cfg) 2 = ys ++ [len1, (win1.length : Int)] by rw [← hys]; rfl)
      rw [hys] at hown
      clear hys
      go_wp2_with (at_builtin; refine wpList_append_off _ rfl _ _ 69 rfl W.heap.size 3 i0 (.int .i64 0) 1 8 Try.underlying69 hi hz0 hz1 hz2 rfl (by decide) _ _ _ rfl (hown.keptB (((Below.refl _ _).alloc (Nat.le_refl _) _).alloc (by simp) _)) ⟨wr.heap.size + 1, 0, none⟩ 2 2 [.int .i64 len1, .int .i64 (win1.length : Int)] rfl rfl (news_new2 _ _ _ _) (by simp [Value.oneCell']) (by unfold maxLen; omega) (by omega) (by simp; have := hbc.size; omega) ?_)
      intro v' w2 hown' hgrow _
      have hb2 := Lib.hid (((hbc.alloc hbc.size _).alloc (by simp; have := hbc.size; omega) _).grown hgrow (by simp; have := hbc.size; omega) (fun i e => (hown.lt i e).1))
      have hown3 : OwnsOff w2 W.heap.size 3 1 v' (ys ++ [len1, (win1.length : Int)]).length (icells (ys ++ [len1, (win1.length : Int)])) := by rw [List.length_append, icells_app]; exact hown'
      have H3 := Lib.hid hown3
      clear hown' hgrow hown hown3
      go_wp2
      go_roundw
      case rel => exact ⟨2, by omega, by omega, rfl, by rw [HN.out]; exact H3.out, hb2.out⟩
      case measure => simp [intOf]
    · subst hj
      have hP0 : (headN (⟨parts, chans, len0, win0, len1, win1⟩ : Cfg)).length = 6 := rfl
      have hP0 := Nat.le_of_eq hP0
      have hown := show OwnsOff wr W.heap.size 3 1 _ (headN (⟨parts, chans, len0, win0, len1, win1⟩ : Cfg)).length (icells (headN (⟨parts, chans, len0, win0, len1, win1⟩ : Cfg))) from hown
      go_wp2
      go_loopw [3, 38] (fun v ix wr => ∃ k : Nat, k ≤ parts.length ∧ ix = .int .i64 k ∧ OwnsOff wr W.heap.size 3 1 v (headN (⟨parts, chans, len0, win0, len1, win1⟩ : Cfg) ++ (parts.take k).flatten).length (icells (headN (⟨parts, chans, len0, win0, len1, win1⟩ : Cfg) ++ (parts.take k).flatten)) ∧ Below W.heap.size W wr) (fun _ ix _ => parts.length - (intOf ix).toNat)
      case atStart => exact ⟨0, Nat.zero_le _, by first | rfl | go_num, by simpa using hown, hbc⟩
      case round =>
        clear hown hbc
        obtain ⟨k, hk, rfl, hown, hbc⟩ := hrel
        obtain ⟨c0, c1, c2, c3, c4, c5⟩ := bx _ hbc
        have hfl := flat_take hxpw hk
        simp only [List.length_cons, List.length_nil] at hfl
        by_cases hlt : k < parts.length
        · obtain ⟨b, o, x0, x1, e0, _, e1, ⟨hw0, hw1⟩, k0⟩ := hxp.at2 hxpw hlt
          subst e0
          have k0 := k0 _ hbc
          obtain ⟨p0, p1⟩ := k0
          have HN := flat_next e1
          obtain ⟨ys, hys⟩ : ∃ ys, headN (⟨parts, chans, len0, win0, len1, win1⟩ : Cfg) ++ (parts.take k).flatten = ys := ⟨_, rfl⟩
          have hyl : ys.length ≤ 134 := by rw [← hys, List.length_append, hfl]; have := hP0; omega
          have HN := Lib.hid (show headN (⟨parts, chans, len0, win0, len1, win1⟩ : Cfg) ++ (parts.take (k + 1)).flatten = ys ++ [x0, x1] by rw [HN, ← List.append_assoc, hys])
          rw [hys] at hown
          clear e1 hys hfl
          skip
          go_wp2_with (at_builtin; refine wpList_append_off _ rfl _ _ 69 rfl W.heap.size 3 i0 (.int .i64 0) 1 8 Try.underlying69 hi hz0 hz1 hz2 rfl (by decide) _ _ _ rfl (hown.keptB (((Below.refl _ _).alloc (Nat.le_refl _) _).alloc (by simp) _)) ⟨wr.heap.size + 1, 0, none⟩ 2 2 [.int .i64 x0, .int .i64 x1] rfl rfl (news_new2 _ _ _ _) (by simp [Value.oneCell']) (by unfold maxLen; omega) (by omega) (by simp; have := hbc.size; omega) ?_)
          intro v' w2 hown' hgrow _
          have hb2 := Lib.hid (((hbc.alloc hbc.size _).alloc (by simp; have := hbc.size; omega) _).grown hgrow (by simp; have := hbc.size; omega) (fun i e => (hown.lt i e).1))
          have hown3 : OwnsOff w2 W.heap.size 3 1 v' (ys ++ [x0, x1]).length (icells (ys ++ [x0, x1])) := by rw [List.length_append, icells_app]; exact hown'
          have H3 := Lib.hid hown3
          clear hown' hgrow hown hown3
          go_wp2
          go_roundw
          case rel => exact ⟨k + 1, by omega, by go_num, by rw [HN.out]; exact H3.out, hb2.out⟩
          case measure => simp [intOf]; omega
        · rw [List.take_of_length_le (by omega)] at hown hfl
          obtain ⟨P1, hP1⟩ : ∃ P1, headN (⟨parts, chans, len0, win0, len1, win1⟩ : Cfg) ++ parts.flatten = P1 := ⟨_, rfl⟩
          have hP0 : P1.length ≤ 134 := by rw [← hP1, List.length_append, hfl]; simp [headN]; omega
          have HP1 := Lib.hid hP1
          rw [hP1] at hown
          clear hP1 hfl
          go_wp2
          go_loopw [3, 53] (fun v ix wr => ∃ k : Nat, k ≤ chans.length ∧ ix = .int .i64 k ∧ OwnsOff wr W.heap.size 3 1 v (P1 ++ (chans.take k).flatten).length (icells (P1 ++ (chans.take k).flatten)) ∧ Below W.heap.size W wr) (fun _ ix _ => chans.length - (intOf ix).toNat)
          case atStart => exact ⟨0, Nat.zero_le _, by first | rfl | go_num, by simpa using hown, hbc⟩
          case round =>
            clear hown hbc
            obtain ⟨k, hk, rfl, hown, hbc⟩ := hrel
            obtain ⟨c0, c1, c2, c3, c4, c5⟩ := bx _ hbc
            have hfl := flat_take hxcw hk
            simp only [List.length_cons, List.length_nil] at hfl
            by_cases hlt : k < chans.length
            · obtain ⟨b, o, x0, x1, x2, x3, x4, x5, x6, e0, _, e1, ⟨hw0, hw1, hw2, hw3, hw4, hw5, hw6⟩, k0⟩ := hxc.at7 hxcw hlt
              subst e0
              have k0 := k0 _ hbc
              obtain ⟨p0, k0⟩ := k0
              obtain ⟨p1, k0⟩ := k0
              obtain ⟨p2, k0⟩ := k0
              obtain ⟨p3, k0⟩ := k0
              obtain ⟨p4, k0⟩ := k0
              obtain ⟨p5, p6⟩ := k0
              have HN := flat_next e1
              obtain ⟨ys, hys⟩ : ∃ ys, P1 ++ (chans.take k).flatten = ys := ⟨_, rfl⟩
              have hyl : ys.length ≤ 600 := by rw [← hys, List.length_append, hfl]; have := hP0; omega
              have HN := Lib.hid (show P1 ++ (chans.take (k + 1)).flatten = ys ++ [x0, x1, x2, x3, x4, x5, x6] by rw [HN, ← List.append_assoc, hys])
              rw [hys] at hown
              clear e1 hys hfl
              obtain ⟨lo6, hi6⟩ := bounds_u32 hw6
              go_wp2_with (at_builtin; refine wpList_append_off _ rfl _ _ 69 rfl W.heap.size 3 i0 (.int .i64 0) 1 8 Try.underlying69 hi hz0 hz1 hz2 rfl (by decide) _ _ _ rfl (hown.keptB (((Below.refl _ _).alloc (Nat.le_refl _) _).alloc (by simp) _)) ⟨wr.heap.size + 1, 0, none⟩ 7 7 [.int .i64 x0, .int .i64 x1, .int .i64 x2, .int .i64 x3, .int .i64 x4, .int .i64 x5, .int .i64 x6] rfl rfl (news_new2 _ _ _ _) (by simp [Value.oneCell']) (by unfold maxLen; omega) (by omega) (by simp; have := hbc.size; omega) ?_)
              intro v' w2 hown' hgrow _
              have hb2 := Lib.hid (((hbc.alloc hbc.size _).alloc (by simp; have := hbc.size; omega) _).grown hgrow (by simp; have := hbc.size; omega) (fun i e => (hown.lt i e).1))
              have hown3 : OwnsOff w2 W.heap.size 3 1 v' (ys ++ [x0, x1, x2, x3, x4, x5, x6]).length (icells (ys ++ [x0, x1, x2, x3, x4, x5, x6])) := by rw [List.length_append, icells_app]; exact hown'
              have H3 := Lib.hid hown3
              clear hown' hgrow hown hown3
              go_wp2
              go_roundw
              case rel => exact ⟨k + 1, by omega, by go_num, by rw [HN.out]; exact H3.out, hb2.out⟩
              case measure => simp [intOf]; omega
            · rw [List.take_of_length_le (by omega)] at hown hfl
              obtain ⟨Q0, hQ0⟩ : ∃ Q0, P1 ++ chans.flatten = Q0 := ⟨_, rfl⟩
              have hP0 : Q0.length ≤ 600 := by rw [← hQ0, List.length_append, hfl]; omega
              have HQ0 := Lib.hid hQ0
              rw [hQ0] at hown
              clear hQ0 hfl
              go_wp2
              go_loopw [3, 78] (fun v ix wr => ∃ j : Int, 0 ≤ j ∧ j ≤ 2 ∧ ix = .int .i64 j ∧ OwnsOff wr W.heap.size 3 1 v (winUpto Q0 win0 win1 j).length (icells (winUpto Q0 win0 win1 j)) ∧ Below W.heap.size W wr) (fun _ ix _ => (2 - intOf ix).toNat)
              case atStart => exact ⟨0, by omega, by omega, rfl, hown, hbc⟩
              case round =>
                clear hown hbc
                obtain ⟨j, hj0, hj2, rfl, hown, hbc⟩ := hrel
                rcases (show j = 0 ∨ j = 1 ∨ j = 2 by omega) with hj | hj | hj
                · subst hj
                  have hown := show OwnsOff wr W.heap.size 3 1 _ Q0.length (icells Q0) from hown
                  have hbx : Below W.heap.size W (wr.alloc (.cells #[.int .i64 len0, .slice aa win0.length ac] 28)) := hbc.alloc hbc.size _
                  have hown := hown.keptB ((Below.refl _ _).alloc (Nat.le_refl _) (.cells #[.int .i64 len0, .slice aa win0.length ac] 28))
                  have hbc := hbx
                  clear hbx
                  go_wp2
                  go_loopw [3, 84] (fun v ix wr => ∃ k : Nat, k ≤ win0.length ∧ ix = .int .i64 k ∧ OwnsOff wr W.heap.size 3 1 v (Q0 ++ (win0.take k).flatten).length (icells (Q0 ++ (win0.take k).flatten)) ∧ Below W.heap.size W wr) (fun _ ix _ => win0.length - (intOf ix).toNat)
                  case atStart => exact ⟨0, Nat.zero_le _, by first | rfl | go_num, by simpa using hown, hbc⟩
                  case round =>
                    clear hown hbc
                    obtain ⟨k, hk, rfl, hown, hbc⟩ := hrel
                    obtain ⟨c0, c1, c2, c3, c4, c5⟩ := bx _ hbc
                    have hfl := flat_take hx0w hk
                    simp only [List.length_cons, List.length_nil] at hfl
                    by_cases hlt : k < win0.length
                    · obtain ⟨b, o, x0, x1, x2, e0, _, e1, ⟨hw0, hw1, hw2⟩, k0⟩ := hx0.at3 hx0w hlt
                      subst e0
                      have k0 := k0 _ hbc
                      obtain ⟨p0, k0⟩ := k0
                      obtain ⟨p1, p2⟩ := k0
                      have HN := flat_next e1
                      obtain ⟨ys, hys⟩ : ∃ ys, Q0 ++ (win0.take k).flatten = ys := ⟨_, rfl⟩
                      have hyl : ys.length ≤ 2000 := by rw [← hys, List.length_append, hfl]; have := hP0; omega
                      have HN := Lib.hid (show Q0 ++ (win0.take (k + 1)).flatten = ys ++ [x0, x1, x2] by rw [HN, ← List.append_assoc, hys])
                      rw [hys] at hown
                      clear e1 hys hfl
                      skip
                      go_wp2_with (at_builtin; refine wpList_append_off _ rfl _ _ 69 rfl W.heap.size 3 i0 (.int .i64 0) 1 8 Try.underlying69 hi hz0 hz1 hz2 rfl (by decide) _ _ _ rfl (hown.keptB (((Below.refl _ _).alloc (Nat.le_refl _) _).alloc (by simp) _)) ⟨wr.heap.size + 1, 0, none⟩ 3 3 [.int .i64 x0, .int .i64 x1, .int .i64 x2] rfl rfl (news_new2 _ _ _ _) (by simp [Value.oneCell']) (by unfold maxLen; omega) (by omega) (by simp; have := hbc.size; omega) ?_)
                      intro v' w2 hown' hgrow _
                      have hb2 := Lib.hid (((hbc.alloc hbc.size _).alloc (by simp; have := hbc.size; omega) _).grown hgrow (by simp; have := hbc.size; omega) (fun i e => (hown.lt i e).1))
                      have hown3 : OwnsOff w2 W.heap.size 3 1 v' (ys ++ [x0, x1, x2]).length (icells (ys ++ [x0, x1, x2])) := by rw [List.length_append, icells_app]; exact hown'
                      have H3 := Lib.hid hown3
                      clear hown' hgrow hown hown3
                      go_wp2
                      go_roundw
                      case rel => exact ⟨k + 1, by omega, by go_num, by rw [HN.out]; exact H3.out, hb2.out⟩
                      case measure => simp [intOf]; omega
                    · rw [List.take_of_length_le (by omega)] at hown hfl
                      obtain ⟨ys, hys⟩ : ∃ ys, Q0 ++ win0.flatten = ys := ⟨_, rfl⟩
                      have HN := Lib.hid (show winUpto Q0 win0 win1 1 = ys by rw [← hys]; rfl)
                      rw [hys] at hown
                      have H3 := Lib.hid hown
                      clear hys hown hfl
                      go_wp2
                      go_roundw
                      case rel => exact ⟨1, by omega, by omega, rfl, by rw [HN.out]; exact H3.out, hbc⟩
                      case measure => simp [intOf]
                · subst hj
                  obtain ⟨Q1, hq1⟩ : ∃ Q1, Q0 ++ win0.flatten = Q1 := ⟨_, rfl⟩
                  have hP0 : Q1.length ≤ 1000 := by have := flat_len hx0w; rw [← hq1, List.length_append, this]; simp only [List.length_cons, List.length_nil]; omega
                  have hown := show OwnsOff wr W.heap.size 3 1 _ Q1.length (icells Q1) by rw [← hq1]; exact hown
                  have hQ1 := Lib.hid hq1
                  have hbx : Below W.heap.size W (wr.alloc (.cells #[.int .i64 len1, .slice ba win1.length bc] 28)) := hbc.alloc hbc.size _
                  have hown := hown.keptB ((Below.refl _ _).alloc (Nat.le_refl _) (.cells #[.int .i64 len1, .slice ba win1.length bc] 28))
                  have hbc := hbx
                  clear hbx hq1
                  go_wp2
                  go_loopw [3, 84] (fun v ix wr => ∃ k : Nat, k ≤ win1.length ∧ ix = .int .i64 k ∧ OwnsOff wr W.heap.size 3 1 v (Q1 ++ (win1.take k).flatten).length (icells (Q1 ++ (win1.take k).flatten)) ∧ Below W.heap.size W wr) (fun _ ix _ => win1.length - (intOf ix).toNat)
                  case atStart => exact ⟨0, Nat.zero_le _, by first | rfl | go_num, by simpa using hown, hbc⟩
                  case round =>
                    clear hown hbc
                    obtain ⟨k, hk, rfl, hown, hbc⟩ := hrel
                    obtain ⟨c0, c1, c2, c3, c4, c5⟩ := bx _ hbc
                    have hfl := flat_take hx1w hk
                    simp only [List.length_cons, List.length_nil] at hfl
                    by_cases hlt : k < win1.length
                    · obtain ⟨b, o, x0, x1, x2, e0, _, e1, ⟨hw0, hw1, hw2⟩, k0⟩ := hx1.at3 hx1w hlt
                      subst e0
                      have k0 := k0 _ hbc
                      obtain ⟨p0, k0⟩ := k0
                      obtain ⟨p1, p2⟩ := k0
                      have HN := flat_next e1
                      obtain ⟨ys, hys⟩ : ∃ ys, Q1 ++ (win1.take k).flatten = ys := ⟨_, rfl⟩
                      have hyl : ys.length ≤ 2000 := by rw [← hys, List.length_append, hfl]; have := hP0; omega
                      have HN := Lib.hid (show Q1 ++ (win1.take (k + 1)).flatten = ys ++ [x0, x1, x2] by rw [HN, ← List.append_assoc, hys])
                      rw [hys] at hown
                      clear e1 hys hfl
                      skip
                      go_wp2_with (at_builtin; refine wpList_append_off _ rfl _ _ 69 rfl W.heap.size 3 i0 (.int .i64 0) 1 8 Try.underlying69 hi hz0 hz1 hz2 rfl (by decide) _ _ _ rfl (hown.keptB (((Below.refl _ _).alloc (Nat.le_refl _) _).alloc (by simp) _)) ⟨wr.heap.size + 1, 0, none⟩ 3 3 [.int .i64 x0, .int .i64 x1, .int .i64 x2] rfl rfl (news_new2 _ _ _ _) (by simp [Value.oneCell']) (by unfold maxLen; omega) (by omega) (by simp; have := hbc.size; omega) ?_)
                      intro v' w2 hown' hgrow _
                      have hb2 := Lib.hid (((hbc.alloc hbc.size _).alloc (by simp; have := hbc.size; omega) _).grown hgrow (by simp; have := hbc.size; omega) (fun i e => (hown.lt i e).1))
                      have hown3 : OwnsOff w2 W.heap.size 3 1 v' (ys ++ [x0, x1, x2]).length (icells (ys ++ [x0, x1, x2])) := by rw [List.length_append, icells_app]; exact hown'
                      have H3 := Lib.hid hown3
                      clear hown' hgrow hown hown3
                      go_wp2
                      go_roundw
                      case rel => exact ⟨k + 1, by omega, by go_num, by rw [HN.out]; exact H3.out, hb2.out⟩
                      case measure => simp [intOf]; omega
                    · rw [List.take_of_length_le (by omega)] at hown hfl
                      obtain ⟨ys, hys⟩ : ∃ ys, Q1 ++ win1.flatten = ys := ⟨_, rfl⟩
                      have HN := Lib.hid (show winUpto Q0 win0 win1 2 = ys by rw [← hys]; rw [show Q1 = Q0 ++ win0.flatten from hQ1.out.symm]; rfl)
                      rw [hys] at hown
                      have H3 := Lib.hid hown
                      clear hys hown hfl
                      go_wp2
                      go_roundw
                      case rel => exact ⟨2, by omega, by omega, rfl, by rw [HN.out]; exact H3.out, hbc⟩
                      case measure => simp [intOf]
                · subst hj
                  have HF := Lib.hid (show numsN (⟨parts, chans, len0, win0, len1, win1⟩ : Cfg) = winUpto Q0 win0 win1 2 by rw [← HQ0.out, ← HP1.out]; rfl)
                  have H3 := Lib.hid hown
                  clear hown
                  go_wp2
                  go_ret
                  exact ⟨_, rfl, by rw [HF.out]; exact H3.out.mono HB.out.size, HB.out.trans (hbc.mono HB.out.size)⟩
end Go.Proofs.Ytjknmojjodghdaa
