/- The opening of a configuration; wakes. No condition but those in the statements. -/
import Derived.Test.YtjknmojjodghdaaRParse
import Derived.Test.YtjknmojjodghdaaPure
namespace Go.Proofs.Ytjknmojjodghdaa
open Go.RowKit Go.Sort Go.ChangeShapes Go.WideShapes
set_option linter.unusedVariables false
set_option linter.unusedSimpArgs false

theorem fields2 : ∃ fs, Try.prog.underlying 55 = some (.struct fs) ∧ fieldsN Try.prog fs [.i64, .i64] := by
  refine ⟨_, Try.underlying55, rfl, fun i f h => ?_⟩
  match i, h with
  | 0, h => cases h; exact ⟨rfl, by kernel_rfl, fun k hk => by cases hk; exact Try.underlying3⟩
  | 1, h => cases h; exact ⟨rfl, by kernel_rfl, fun k hk => by cases hk; exact Try.underlying3⟩
  | i + 2, h => simp at h
theorem fields3 : ∃ fs, Try.prog.underlying 51 = some (.struct fs) ∧ fieldsN Try.prog fs [.i64, .i64, .i64] := by
  refine ⟨_, Try.underlying51, rfl, fun i f h => ?_⟩
  match i, h with
  | 0, h => cases h; exact ⟨rfl, by kernel_rfl, fun k hk => by cases hk; exact Try.underlying3⟩
  | 1, h => cases h; exact ⟨rfl, by kernel_rfl, fun k hk => by cases hk; exact Try.underlying3⟩
  | 2, h => cases h; exact ⟨rfl, by kernel_rfl, fun k hk => by cases hk; exact Try.underlying3⟩
  | i + 3, h => simp at h
theorem fields7 : ∃ fs, Try.prog.underlying 59 = some (.struct fs) ∧ fieldsN Try.prog fs [.i64, .i64, .i64, .i64, .i64, .i64, .u32] := by
  refine ⟨_, Try.underlying59, rfl, fun i f h => ?_⟩
  match i, h with
  | 0, h => cases h; exact ⟨rfl, by kernel_rfl, fun k hk => by cases hk; exact Try.underlying3⟩
  | 1, h => cases h; exact ⟨rfl, by kernel_rfl, fun k hk => by cases hk; exact Try.underlying3⟩
  | 2, h => cases h; exact ⟨rfl, by kernel_rfl, fun k hk => by cases hk; exact Try.underlying3⟩
  | 3, h => cases h; exact ⟨rfl, by kernel_rfl, fun k hk => by cases hk; exact Try.underlying3⟩
  | 4, h => cases h; exact ⟨rfl, by kernel_rfl, fun k hk => by cases hk; exact Try.underlying3⟩
  | 5, h => cases h; exact ⟨rfl, by kernel_rfl, fun k hk => by cases hk; exact Try.underlying3⟩
  | 6, h => cases h; exact ⟨rfl, by kernel_rfl, fun k hk => by cases hk; exact Try.underlying43⟩
  | i + 7, h => simp at h
theorem cfg_open {H : Type} {enc : TypeId × Value → H} {w : World} {r : Reach} {b0 : Nat} {v : Value} {d : DataW H} {p : List MemPlace} (hv : Value.okWide Try.prog w r b0 31 v) (h : DataW.Trod enc Try.prog w 0 (fun _ => true) true 31 v d p) :
    ∃ (c : Cfg) (x : CfgAt), v = .agg (cfgCells c x) ∧ CfgIn w w.heap.size c x ∧ CfgWf c := by
  obtain ⟨f2, u2, k2⟩ := fields2
  obtain ⟨f3, u3, k3⟩ := fields3
  obtain ⟨f7, u7, k7⟩ := fields7
  exact cfg_arg Try.underlying31 (by kernel_rfl) ⟨rfl, by kernel_rfl⟩ ⟨rfl, by kernel_rfl⟩ ⟨rfl, by kernel_rfl⟩ Try.underlying24 u2 k2 (by kernel_rfl) Try.underlying25 u7 k7 (by kernel_rfl) Try.underlying29 (by kernel_rfl) Try.underlying28 ⟨rfl, by kernel_rfl⟩ ⟨rfl, by kernel_rfl⟩ Try.underlying3 Try.underlying26 u3 k3 (by kernel_rfl) hv h

theorem made_zeros (n : Nat) : madeCells #[Value.int .u32 0] n = (List.replicate n (Value.int .u32 0)).toArray := by
  apply Array.ext
  · simp [size_madeCells]
  · intro i h1 h2
    simp [madeCells, Nat.mod_one]
theorem zeros_row (w : World) (n : Nat) : IntRowK .u32 (w.alloc (.cells (List.replicate n (Value.int .u32 0)).toArray 43)) (w.alloc (.cells (List.replicate n (Value.int .u32 0)).toArray 43)).heap.size (some ⟨w.heap.size, 0, none⟩) (List.replicate n 0) := fun _ => by
  refine ⟨w.heap.size, 0, rfl, by simp, fun i hi => ?_⟩
  simp at hi
  refine cell_blk (heap_alloc_new w _) ?_
  simp [List.getD_eq_getElem?_getD, hi]
theorem rsame_is (c d : Cfg) (x y : CfgAt) (b : Bool) (w : World) (hx : CfgIn w w.heap.size c x) (hy : CfgIn w w.heap.size d y) (wx : CfgWf c) (wy : CfgWf d) (lx : CfgFew c) (ly : CfgFew d) (h : decide (c = d) = b) :
    Calls Try.prog 11 #[.agg (cfgCells c x), .agg (cfgCells d y)] w fun e w' => e = .returned (.bool b) ∧ Below w.heap.size w w' := by subst h; exact rsame_b c d x y w hx hy wx wy lx ly
theorem csame_is (c d : Cfg) (x y : CfgAt) (b : Bool) (w : World) (hx : CfgIn w w.heap.size c x) (hy : CfgIn w w.heap.size d y) (wx : CfgWf c) (wy : CfgWf d) (lx : CfgFew c) (ly : CfgFew d) (h : decide (c = d) = b) :
    Calls Try.prog 12 #[.agg (cfgCells c x), .agg (cfgCells d y)] w fun e w' => e = .returned (.bool b) ∧ Below w.heap.size w w' := by subst h; exact csame_b c d x y w hx hy wx wy lx ly
theorem great_is (c : Cfg) (x : CfgAt) (b : Bool) (w : World) (h : (!cfgLe 100 c) = b) : Calls Try.prog 13 #[.agg (cfgCells c x)] w fun e w' => e = .returned (.bool b) ∧ Below w.heap.size w w' := by subst h; exact great_b c x w
theorem told_is (c : Cfg) (x : CfgAt) (b : Bool) (w : World) (hx : CfgIn w w.heap.size c x) (wx : CfgWf c) (lx : CfgFew c) (h : toldB c = b) : Calls Try.prog 15 #[.agg (cfgCells c x)] w fun e w' => e = .returned (.bool b) ∧ Below w.heap.size w w' := by subst h; exact told_b c x w hx wx lx
theorem noCfg_few : CfgFew noCfg := ⟨by simp [noCfg], by simp [noCfg], by simp [noCfg], by simp [noCfg]⟩
theorem parseO_few {xs : List Int} (hw : wfW xs) : CfgFew (parseO xs) := by
  by_cases h : parseE xs = 0
  · rw [parseO_yes h]; exact cfgLe_few (print_parse hw h).2 (by omega)
  · rw [parseO_no h]; exact noCfg_few
/-- A configuration that a call has handed back, in a box of its own. -/
theorem boxed_cfg (w : World) (c : Cfg) (x : CfgAt) : ∃ W, Hid (W = w.alloc (.cells (cfgCells c x) 31)) ∧ Below w.heap.size w W ∧ CBox W w.heap.size c x ∧ w.heap.size < W.heap.size :=
  ⟨_, rfl, (Below.refl _ _).alloc (Nat.le_refl _) _, cbox_new w c x 31, by simp⟩
set_option maxHeartbeats 1600000 in
theorem wakes_b (w : World) : Calls Try.prog 8 #[] w fun e w' => e = .returned (.bool true) ∧ Below w.heap.size w w' := by
  obtain ⟨i0, hi, hz0, hz1, hz2⟩ := info_parts Try.infoW
  go_enter Try.func8, Try.ntmps8
  go_wp2_with (refine wpList_make_row _ rfl _ _ 22 rfl 43 i0 (.int .u32 0) Try.underlying22 hi hz0 hz1 rfl .i64 .i64 6 rfl rfl (by rw [hz2]; omega) (by omega) ?_)
  rw [made_zeros]
  have P1 := parse_head [0, 0, 0, 0, 0, 0] (some ⟨w.heap.size, 0, none⟩) 6 (w.alloc (.cells (List.replicate 6 (Value.int .u32 0)).toArray 43)) (by simp) (by unfold maxLen; omega) (zeros_row w 6) (fun h => by cases h) (by intro q hq; simp at hq; subst hq; rfl)
  rw [show parseO [0, 0, 0, 0, 0, 0] = noCfg from by decide, show parseE [0, 0, 0, 0, 0, 0] = 0 from by decide] at P1
  have HP1 := Lib.hid P1
  clear P1
  refine HP1.out.mono ?_
  rintro e w1 ⟨x, rfl, -, hb1⟩
  have HB1 := Lib.hid (((Below.refl w.heap.size w).alloc (Nat.le_refl _) (.cells (List.replicate 6 (Value.int .u32 0)).toArray 43)).trans (hb1.mono (by simp)))
  have hle := HB1.out.size
  obtain ⟨W1, hW1, hbW1, hbx1, hlt1⟩ := boxed_cfg w1 noCfg x
  simp only [cfgCells]
  clear hb1
  go_wp2_with (first | (rw [← hW1.out]) | (refine wpList_make_row _ rfl _ _ 22 rfl 43 i0 (.int .u32 0) Try.underlying22 hi hz0 hz1 rfl .i64 .i64 5 rfl rfl (by rw [hz2]; omega) (by omega) ?_))
  rw [made_zeros]
  obtain ⟨W2, hW2⟩ : ∃ W2, Hid (W2 = W1.alloc (.cells (List.replicate 5 (Value.int .u32 0)).toArray 43)) := ⟨_, rfl⟩
  have P2 := parse_head [0, 0, 0, 0, 0] (some ⟨W1.heap.size, 0, none⟩) 5 W2 (by simp) (by unfold maxLen; omega) (by rw [hW2.out]; exact zeros_row W1 5) (fun h => by cases h) (by intro q hq; simp at hq; subst hq; rfl)
  rw [show parseO [0, 0, 0, 0, 0] = noCfg from by decide, show parseE [0, 0, 0, 0, 0] = 8 from by decide] at P2
  have HP2 := Lib.hid P2
  clear P2
  rw [← hW2.out]
  refine HP2.out.mono ?_
  rintro e w3 ⟨y, rfl, -, hb3⟩
  obtain ⟨W3, hW3, hbW3, hbx3, hlt3⟩ := boxed_cfg w3 noCfg y
  have h12 : Below W1.heap.size W1 W2 := by rw [hW2.out]; exact (Below.refl _ _).alloc (Nat.le_refl _) _
  have h13 : Below W1.heap.size W1 W3 := h12.trans ((hb3.trans (hbW3.mono hb3.size)).mono h12.size)
  have HF := Lib.hid (HB1.out.trans ((hbW1.trans (h13.mono hbW1.size)).mono hle))
  obtain ⟨p0', p1', -⟩ := hbx1 W3 h13
  have p0 := show W3.cell? ⟨w1.heap.size, 0, none⟩ = some (.slice x.pa 0 x.pc) from p0'
  have p1 := show W3.cell? ⟨w1.heap.size, 1, none⟩ = some (.slice x.ca 0 x.cc) from p1'
  clear p0' p1'
  simp only [cfgCells]
  clear hb3 hbW3 hbx3 hlt3 h12 h13 hbW1 hbx1 hlt1 hle HP1 HP2
  go_wp2_with (rw [← hW3.out])
  go_ret
  exact ⟨rfl, HF.out⟩
end Go.Proofs.Ytjknmojjodghdaa
