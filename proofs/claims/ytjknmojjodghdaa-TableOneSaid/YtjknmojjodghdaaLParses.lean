/- The walks of TableParses and TableOne. No condition but those in the statements. -/
import Derived.Test.YtjknmojjodghdaaWakes
namespace Go.Proofs.Ytjknmojjodghdaa
open Go.RowKit Go.Sort Go.ChangeShapes Go.WideShapes
set_option linter.unusedVariables false
set_option linter.unusedSimpArgs false

set_option maxHeartbeats 4000000 in
theorem parses_walk (xs : List Int) (A : Option Addr) (c : Nat) (w : World) (h1 : xs.length ≤ c) (h2 : c ≤ maxLen) (h4 : A = none → xs = []) (h3 : IntRowK .u32 w w.heap.size A xs) (hw : wfW xs) :
    Calls Try.prog 3 #[.slice A xs.length c] w fun e w' => e = .returned (.bool true) ∧ Below w.heap.size w w' := by
  by_cases hbig : 1000 < xs.length
  · have g : (1000 : Int) < (xs.length : Int) := by omega
    go_enter Try.func3, Try.ntmps3
    go_wp2_with fail
    refine (wakes_b _).mono ?_
    rintro e w1 ⟨rfl, hb1⟩
    go_wp2
    go_ret
    exact ⟨rfl, hb1⟩
  have g : ¬ (1000 : Int) < (xs.length : Int) := by omega
  go_enter Try.func3, Try.ntmps3
  go_wp2_with fail
  refine (wakes_b _).mono ?_
  rintro e w1 ⟨rfl, hb1⟩
  have HB1 := Lib.hid hb1
  have hr1 := h3.later hb1
  clear h3 hb1
  go_wp2_with fail
  refine (parse_head xs A c _ h1 h2 hr1 h4 hw).mono ?_
  rintro e w2 ⟨x, rfl, hin, hb2⟩
  have hwf := parseO_wf hw
  have hfew := parseO_few hw
  obtain ⟨cc, hcc⟩ : ∃ cc, parseO xs = cc := ⟨_, rfl⟩
  have HCC := Lib.hid hcc
  obtain ⟨er, her⟩ : ∃ er, parseE xs = er := ⟨_, rfl⟩
  have HER := Lib.hid her
  rw [hcc] at hin hwf hfew ⊢
  rw [her]
  obtain ⟨W2, hW2, hbW2, hbx2, hlt2⟩ := boxed_cfg w2 cc x
  have hr2 := hr1.later (hb2.trans (hbW2.mono hb2.size))
  have hin2 := hin.later hbW2
  have HB2 := Lib.hid (HB1.out.trans ((hb2.trans (hbW2.mono hb2.size)).mono HB1.out.size))
  simp only [cfgCells]
  clear hcc her hr1 hb2 hbW2 hin
  go_wp2_with fail
  rw [← hW2.out]
  refine (rparse_b xs A c _ (by omega) hr2 hw).mono ?_
  rintro e w3 ⟨y, rfl, hin3, hb3⟩
  rw [HCC.out] at hin3 ⊢
  rw [HER.out]
  obtain ⟨W3, hW3, hbW3, hbx3, hlt3⟩ := boxed_cfg w3 cc y
  have hb23 := hb3.trans (hbW3.mono hb3.size)
  have hx := hin2.later hb23
  have hy := hin3.later hbW3
  have HB3 := Lib.hid (HB2.out.trans (hb23.mono HB2.out.size))
  obtain ⟨p0, p1, p2, p3, p4, p5⟩ := hbx2 W3 hb23
  obtain ⟨q0, q1, q2, q3, q4, q5⟩ := hbx3 W3 (Below.refl _ _)
  have hbx2' := hbx2.on hb23
  simp only [cfgCells]
  clear hin2 hin3 hr2 hb3 hbW3 hb23 hbx2
  go_wp2_with (rw [← hW3.out])
  refine (rsame_is cc cc x y true _ hx hy hwf hwf hfew hfew (by simp)).mono ?_
  rintro e w4 ⟨rfl, hb4⟩
  obtain ⟨r0, r1, r2, r3, r4, r5⟩ := hbx2' w4 hb4
  obtain ⟨s0, s1, s2, s3, s4, s5⟩ := hbx3 w4 hb4
  have hx4 := hx.later hb4
  have hy4 := hy.later hb4
  have HB4 := Lib.hid (HB3.out.trans (hb4.mono HB3.out.size))
  clear p0 p1 p2 p3 p4 p5 q0 q1 q2 q3 q4 q5 hb4 hx hy
  go_wp2_with fail
  refine (csame_is cc cc x y true _ hx4 hy4 hwf hwf hfew hfew (by simp)).mono ?_
  rintro e w5 ⟨rfl, hb5⟩
  go_wp2
  go_ret
  exact ⟨rfl, HB4.out.trans (hb5.mono HB4.out.size)⟩

set_option maxHeartbeats 4000000 in
theorem one_walk (xs : List Int) (A : Option Addr) (c : Nat) (w : World) (h1 : xs.length ≤ c) (h2 : c ≤ maxLen) (h4 : A = none → xs = []) (h3 : IntRowK .u32 w w.heap.size A xs) (hw : wfW xs) :
    Calls Try.prog 5 #[.slice A xs.length c] w fun e w' => e = .returned (.bool true) ∧ Below w.heap.size w w' := by
  by_cases hbig : 1000 < xs.length
  · have g : (1000 : Int) < (xs.length : Int) := by omega
    go_enter Try.func5, Try.ntmps5
    go_wp2_with fail
    refine (wakes_b _).mono ?_
    rintro e w1 ⟨rfl, hb1⟩
    go_wp2
    go_ret
    exact ⟨rfl, hb1⟩
  have g : ¬ (1000 : Int) < (xs.length : Int) := by omega
  go_enter Try.func5, Try.ntmps5
  go_wp2_with fail
  refine (wakes_b _).mono ?_
  rintro e w1 ⟨rfl, hb1⟩
  have HB1 := Lib.hid hb1
  have hr1 := h3.later hb1
  clear h3 hb1
  go_wp2_with fail
  refine (parse_head xs A c _ h1 h2 hr1 h4 hw).mono ?_
  rintro e w2 ⟨x, rfl, hin, hb2⟩
  have hwf := parseO_wf hw
  have hfew := parseO_few hw
  obtain ⟨cc, hcc⟩ : ∃ cc, parseO xs = cc := ⟨_, rfl⟩
  have HCC := Lib.hid hcc
  obtain ⟨er, her⟩ : ∃ er, parseE xs = er := ⟨_, rfl⟩
  have HER := Lib.hid her
  rw [hcc] at hin hwf hfew ⊢
  rw [her]
  obtain ⟨W2, hW2, hbW2, hbx2, hlt2⟩ := boxed_cfg w2 cc x
  have hr2 := hr1.later (hb2.trans (hbW2.mono hb2.size))
  have hin2 := hin.later hbW2
  have HB2 := Lib.hid (HB1.out.trans ((hb2.trans (hbW2.mono hb2.size)).mono HB1.out.size))
  obtain ⟨p0, p1, p2, p3, p4, p5⟩ := hbx2 W2 (Below.refl _ _)
  simp only [cfgCells]
  clear hcc her hr1 hb2 hbW2 hin hbx2
  by_cases he : er = 0
  · subst he
    have HP := Lib.hid (print_parse hw HER.out).1
    have HPC := Lib.hid (parseO_yes HER.out)
    go_wp2_with (rw [← hW2.out])
    refine (print_b cc x _ hin2 hwf hfew).mono ?_
    rintro e w3 ⟨v, rfl, hown, hb3⟩
    rw [← HCC.out, HPC.out, HP.out] at hown
    obtain ⟨A3, c3, rfl, _, _, hr3, _, _⟩ := OwnsOff.wordRow hown
    have hr4 := hr2.later hb3
    have HB3 := Lib.hid (HB2.out.trans (hb3.mono HB2.out.size))
    clear hown hb3 hr2 hin2 p0 p1 p2 p3 p4 p5
    go_wp2_with fail
    refine (same_yes _ _ xs A3 A c3 c _ rfl rfl hr3 hr4 (by omega)).mono ?_
    rintro e w4 ⟨rfl, hb4⟩
    go_wp2
    go_ret
    exact ⟨rfl, HB3.out.trans (hb4.mono HB3.out.size)⟩
  · have g2 : (er == 0) = false := by simpa using he
    have g3 : (er != 0) = true := by simpa using he
    have HNO := Lib.hid (show decide (cc = noCfg) = true by rw [← HCC.out, parseO_no (by rw [HER.out]; exact he)]; simp)
    go_wp2_with (rw [← hW2.out])
    refine (rsame_is cc noCfg x noAt true _ hin2 (noCfg_in _ _) hwf noCfg_wf hfew noCfg_few HNO.out).mono ?_
    rintro e w4 ⟨rfl, hb4⟩
    go_wp2
    go_ret
    exact ⟨rfl, HB2.out.trans (hb4.mono HB2.out.size)⟩
end Go.Proofs.Ytjknmojjodghdaa
