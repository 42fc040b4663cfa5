/- The walks of TablePrints and TableCuts. No condition but those in the statements. -/
import Derived.Test.YtjknmojjodghdaaWakes
namespace Go.Proofs.Ytjknmojjodghdaa
open Go.RowKit Go.Sort Go.ChangeShapes Go.WideShapes
set_option linter.unusedVariables false
set_option linter.unusedSimpArgs false

theorem parse_at (n : Nat) (xs : List Int) (A : Option Addr) (c : Nat) (w : World) (hn : n = xs.length) (h1 : n ≤ c) (h2 : c ≤ maxLen) (h3 : IntRowK .u32 w w.heap.size A xs) (h4 : A = none → xs = []) (hw : wfW xs) :
    Calls Try.prog 9 #[.slice A n c] w (GivesCfg w (parseO xs) (parseE xs)) := by subst hn; exact parse_head xs A c w h1 h2 h3 h4 hw

set_option maxHeartbeats 4000000 in
theorem prints_walk (c : Cfg) (x : CfgAt) (w : World) (hx : CfgIn w w.heap.size c x) (wx : CfgWf c) : Calls Try.prog 4 #[.agg (cfgCells c x)] w fun e w' => e = .returned (.bool true) ∧ Below w.heap.size w w' := by
  obtain ⟨W, HW, hB, -, bx⟩ := one_cbox w c x 31
  have hx := hx.later hB
  have HB := Lib.hid hB
  simp only [cfgCells]
  clear hB
  go_enter Try.func4, Try.ntmps4
  go_wp2_with fail
  rw [← HW.out]
  refine (wakes_b _).mono ?_
  rintro e w1 ⟨rfl, hb1⟩
  have bx := bx.on hb1
  have hx := hx.later hb1
  have HB1 := Lib.hid (HB.out.trans (hb1.mono HB.out.size))
  obtain ⟨p0, p1, p2, p3, p4, p5⟩ := bx w1 (Below.refl _ _)
  clear hb1
  cases hc : cfgLe 100 c with
  | false =>
    have HA := Lib.hid (show (!cfgLe 100 c) = true by rw [hc]; rfl)
    clear hc
    go_wp2_with fail
    refine (great_is c x true _ HA.out).mono ?_
    rintro e w2 ⟨rfl, hb2⟩
    go_wp2
    go_ret
    exact ⟨rfl, HB1.out.trans (hb2.mono HB1.out.size)⟩
  | true =>
    have HA := Lib.hid (show (!cfgLe 100 c) = false by rw [hc]; rfl)
    have hfew := cfgLe_few hc (by omega)
    clear hc
    go_wp2_with fail
    refine (great_is c x false _ HA.out).mono ?_
    rintro e w2 ⟨rfl, hb2⟩
    have bx := bx.on hb2
    have hx := hx.later hb2
    have HB2 := Lib.hid (HB1.out.trans (hb2.mono HB1.out.size))
    clear hb2 p0 p1 p2 p3 p4 p5
    obtain ⟨p0, p1, p2, p3, p4, p5⟩ := bx w2 (Below.refl _ _)
    go_wp2_with fail
    refine (print_b c x _ hx wx hfew).mono ?_
    rintro e w3 ⟨v, rfl, hown, hb3⟩
    have bx := bx.on hb3
    have hx := hx.later hb3
    have HB3 := Lib.hid (HB2.out.trans (hb3.mono HB2.out.size))
    clear hb3 p0 p1 p2 p3 p4 p5
    obtain ⟨p0, p1, p2, p3, p4, p5⟩ := bx w3 (Below.refl _ _)
    cases ht : toldB c with
    | false =>
      rw [show printN c = [] by rw [printN, ht]; rfl] at hown
      obtain ⟨A3, c3, rfl, _, _, _, _, _⟩ := OwnsOff.wordRow hown
      have HT := Lib.hid ht
      rw [show ([] : List Int).length = 0 from rfl]
      clear ht hown
      go_wp2_with fail
      refine (told_is c x false _ hx wx hfew HT.out).mono ?_
      rintro e w4 ⟨rfl, hb4⟩
      go_wp2
      go_ret
      exact ⟨rfl, HB3.out.trans (hb4.mono HB3.out.size)⟩
    | true =>
      obtain ⟨hpn, hle, hwf, hE, hO⟩ := parse_print wx ht
      obtain ⟨hlen, -⟩ := nums_len wx hle
      rw [hpn] at hown
      obtain ⟨xs, hxs⟩ : ∃ xs, numsN c = xs := ⟨_, rfl⟩
      rw [hxs] at hown hwf hE hO hlen
      obtain ⟨A3, c3, rfl, hc3, hm3, hr3, hn3, _⟩ := OwnsOff.wordRow hown
      have HT := Lib.hid ht
      have HE := Lib.hid hE
      have HO := Lib.hid hO
      have HN := Lib.hid hn3
      clear ht hown hE hO hxs hpn hle hn3
      go_wp2_with fail
      refine (told_is c x true _ hx wx hfew HT.out).mono ?_
      rintro e w4 ⟨rfl, hb4⟩
      have bx := bx.on hb4
      have hx := hx.later hb4
      have hr4 := hr3.later hb4
      have HB4 := Lib.hid (HB3.out.trans (hb4.mono HB3.out.size))
      clear hb4 p0 p1 p2 p3 p4 p5 hr3
      go_wp2_with fail
      refine (parse_head xs A3 c3 _ hc3 hm3 hr4 HN.out hwf).mono ?_
      rintro e w5 ⟨y, rfl, hin5, hb5⟩
      rw [HO.out] at hin5 ⊢
      rw [HE.out]
      obtain ⟨W5, hW5, hbW5, hbx5, hlt5⟩ := boxed_cfg w5 c y
      have hb45 := hb5.trans (hbW5.mono hb5.size)
      have bx := bx.on hb45
      have hx := hx.later hb45
      have hr5 := hr4.later hb45
      have hin5 := hin5.later hbW5
      have HB5 := Lib.hid (HB4.out.trans (hb45.mono HB4.out.size))
      simp only [cfgCells]
      clear hb5 hbW5 hb45 hr4
      go_wp2_with fail
      rw [← hW5.out]
      refine (rparse_b xs A3 c3 _ (by omega) hr5 hwf).mono ?_
      rintro e w6 ⟨z, rfl, hin6, hb6⟩
      rw [HO.out] at hin6 ⊢
      rw [HE.out]
      obtain ⟨W6, hW6, hbW6, hbx6, hlt6⟩ := boxed_cfg w6 c z
      have hb56 := hb6.trans (hbW6.mono hb6.size)
      have bx := bx.on hb56
      have hbx5 := hbx5.on hb56
      have hx := hx.later hb56
      have hin5 := hin5.later hb56
      have hin6 := hin6.later hbW6
      have HB6 := Lib.hid (HB5.out.trans (hb56.mono HB5.out.size))
      obtain ⟨p0, p1, p2, p3, p4, p5⟩ := bx W6 (Below.refl _ _)
      obtain ⟨q0, q1, q2, q3, q4, q5⟩ := hbx5 W6 (Below.refl _ _)
      obtain ⟨r0, r1, r2, r3, r4, r5⟩ := hbx6 W6 (Below.refl _ _)
      simp only [cfgCells]
      clear hb6 hbW6 hb56 hr5
      go_wp2_with (rw [← hW6.out])
      refine (rsame_is c c y x true _ hin5 hx wx wx hfew hfew (by simp)).mono ?_
      rintro e w7 ⟨rfl, hb7⟩
      obtain ⟨s0, s1, s2, s3, s4, s5⟩ := bx w7 hb7
      obtain ⟨u0, u1, u2, u3, u4, u5⟩ := hbx6 w7 hb7
      have hx7 := hx.later hb7
      have hin7 := hin6.later hb7
      have HB7 := Lib.hid (HB6.out.trans (hb7.mono HB6.out.size))
      clear p0 p1 p2 p3 p4 p5 q0 q1 q2 q3 q4 q5 r0 r1 r2 r3 r4 r5 hb7 hin5 hin6 hx
      go_wp2_with fail
      refine (rsame_is c c z x true _ hin7 hx7 wx wx hfew hfew (by simp)).mono ?_
      rintro e w8 ⟨rfl, hb8⟩
      go_wp2
      go_ret
      exact ⟨rfl, HB7.out.trans (hb8.mono HB7.out.size)⟩

set_option maxHeartbeats 4000000 in
theorem cuts_walk (c : Cfg) (x : CfgAt) (n m : Int) (w : World) (hx : CfgIn w w.heap.size c x) (wx : CfgWf c) (hn : 0 ≤ n ∧ n ≤ 65535) (hm : 0 ≤ m ∧ m ≤ 4294967295) : Calls Try.prog 7 #[.agg (cfgCells c x), .int .u16 n, .int .u32 m] w fun e w' => e = .returned (.bool true) ∧ Below w.heap.size w w' := by
  obtain ⟨n0, rfl⟩ := Int.eq_ofNat_of_zero_le hn.1
  obtain ⟨j0, hj, hy0, hy1, hy2⟩ := info_parts Try.infoW
  obtain ⟨W, HW, hB, -, bx⟩ := one_cbox w c x 31
  have hx := hx.later hB
  have HB := Lib.hid hB
  simp only [cfgCells]
  clear hB
  go_enter Try.func7, Try.ntmps7
  go_wp2_with fail
  rw [← HW.out]
  refine (wakes_b _).mono ?_
  rintro e w1 ⟨rfl, hb1⟩
  have bx := bx.on hb1
  have hx := hx.later hb1
  have HB1 := Lib.hid (HB.out.trans (hb1.mono HB.out.size))
  obtain ⟨p0, p1, p2, p3, p4, p5⟩ := bx w1 (Below.refl _ _)
  clear hb1
  cases hc : cfgLe 100 c with
  | false =>
    have HA := Lib.hid (show (!cfgLe 100 c) = true by rw [hc]; rfl)
    clear hc
    go_wp2_with fail
    refine (great_is c x true _ HA.out).mono ?_
    rintro e w2 ⟨rfl, hb2⟩
    go_wp2
    go_ret
    exact ⟨rfl, HB1.out.trans (hb2.mono HB1.out.size)⟩
  | true =>
    have HA := Lib.hid (show (!cfgLe 100 c) = false by rw [hc]; rfl)
    have hfew := cfgLe_few hc (by omega)
    clear hc
    go_wp2_with fail
    refine (great_is c x false _ HA.out).mono ?_
    rintro e w2 ⟨rfl, hb2⟩
    have bx := bx.on hb2
    have hx := hx.later hb2
    have HB2 := Lib.hid (HB1.out.trans (hb2.mono HB1.out.size))
    clear hb2 p0 p1 p2 p3 p4 p5
    obtain ⟨p0, p1, p2, p3, p4, p5⟩ := bx w2 (Below.refl _ _)
    cases ht : toldB c with
    | false =>
      have HT := Lib.hid ht
      clear ht
      go_wp2_with fail
      refine (told_is c x false _ hx wx hfew HT.out).mono ?_
      rintro e w3 ⟨rfl, hb3⟩
      go_wp2
      go_ret
      exact ⟨rfl, HB2.out.trans (hb3.mono HB2.out.size)⟩
    | true =>
      obtain ⟨hpn, hle, hwf, -, -⟩ := parse_print wx ht
      obtain ⟨hlen, hlen2⟩ := nums_len wx hle
      have hcl : ∀ j, j < (numsN c).length → parseE ((numsN c).take j) = 8 := fun j h => cut_less wx hle h
      have hcm := cut_more wx hle m
      have HT := Lib.hid ht
      obtain ⟨xs, hxs⟩ : ∃ xs, numsN c = xs := ⟨_, rfl⟩
      rw [hxs] at hpn hwf hlen hlen2 hcl hcm
      have hl6 : 6 ≤ xs.length := by omega
      have HPN := Lib.hid hpn
      have HCL := Lib.hid hcl
      have HCM := Lib.hid hcm
      clear ht hpn hxs hcl hcm hlen2
      go_wp2_with fail
      refine (told_is c x true _ hx wx hfew HT.out).mono ?_
      rintro e w3 ⟨rfl, hb3⟩
      have bx := bx.on hb3
      have hx := hx.later hb3
      have HB3 := Lib.hid (HB2.out.trans (hb3.mono HB2.out.size))
      clear hb3 p0 p1 p2 p3 p4 p5
      obtain ⟨p0, p1, p2, p3, p4, p5⟩ := bx w3 (Below.refl _ _)
      go_wp2_with fail
      refine (print_b c x _ hx wx hfew).mono ?_
      rintro e w4 ⟨v, rfl, hown, hb4⟩
      rw [HPN.out] at hown
      obtain ⟨A4, c4, rfl, hc4, hm4, hr4, hn4, _⟩ := OwnsOff.wordRow hown
      have HB4 := Lib.hid (HB3.out.trans (hb4.mono HB3.out.size))
      have HN4 := Lib.hid hn4
      have g6 : ¬ ((xs.length : Int) < 6) := by omega
      have k0 : n0 % xs.length < xs.length := Nat.mod_lt _ (by omega)
      obtain ⟨k, hk⟩ : ∃ k, n0 % xs.length = k := ⟨_, rfl⟩
      rw [hk] at k0
      have q1 : (n0 : Int) % (xs.length : Int) = (k : Int) := by rw [← hk]; rfl
      have q2 : (n0 : Int).tmod (xs.length : Int) = (k : Int) := by rw [← hk]; rfl
      have q3 : ¬ ((xs.length : Int) = 0) := by omega
      have q4 : (0 : Int) < (xs.length : Int) := by omega
      obtain ⟨i1, hi1, -⟩ := info_parts Try.infoW
      have hrun := upto_row (P := Try.prog) (t := 22) (i := j0) Try.underlying22 hj A4 xs.length c4 k (by omega)
      have hrow := hr4.take k
      have hnt : A4 = none → xs.take k = [] := fun h => by rw [hn4 h]; simp
      have HNT := Lib.hid hnt
      have hwt : wfW (xs.take k) := fun q hq => hwf q (List.mem_of_mem_take hq)
      clear hown hb4 p0 p1 p2 p3 p4 p5 hn4 hk hnt hi1
      go_wp2_with (refine wpList_upto rfl _ _ _ rfl _ _ _ rfl rfl (hrun _) ?_)
      clear hrun q1 q2
      refine (parse_at k (xs.take k) A4 c4 _ (by rw [List.length_take]; omega) (by omega) hm4 hrow HNT.out hwt).mono ?_
      rintro e w5 ⟨y, rfl, -, hb5⟩
      rw [HCL.out k k0]
      obtain ⟨W5, hW5, hbW5, -, hlt5⟩ := boxed_cfg w5 (parseO (xs.take k)) y
      have hb45 := hb5.trans (hbW5.mono hb5.size)
      have hr5 := hr4.later hb45
      have HB5 := Lib.hid (HB4.out.trans (hb45.mono HB4.out.size))
      simp only [cfgCells]
      clear hb5 hbW5 hb45 hr4 hrow hwt
      have hb6 : Below W5.heap.size W5 (W5.alloc (.cells #[] 43)) := (Below.refl _ _).alloc (Nat.le_refl _) _
      have hown := OwnsOff.of_own (World.ownsRow_made (base := W5.heap.size) (e := 43) (size := 1) W5 #[] 0 (Nat.le_refl _) (by unfold maxLen; omega) (by simp))
      have hr6 := hr5.later hb6
      go_wp2_with (first | (rw [← hW5.out]) | (at_builtin; refine wpList_append_words _ rfl _ _ 22 rfl W5.heap.size j0 Try.underlying22 hj hy0 hy1 hy2 _ 0 _ rfl hown _ A4 _ c4 xs rfl rfl hr6 HN4.out (by omega) (by simp) ?_))
      intro v7 w7 hown7 hgrow7 _
      have hb7 := hb6.trans ((Only.of_grown hgrow7).below (B := W5.heap.size) (by simp) (fun i e => (hown.lt i e.symm).1))
      have hown7 : OwnsOff w7 W5.heap.size 43 1 v7 xs.length (wcells xs) := by simpa using hown7
      clear hown hgrow7 hb6 hr6
      go_wp2_with (at_builtin; refine wpList_append_off _ rfl _ _ 22 rfl W5.heap.size 43 j0 (.int .u32 0) 1 4 Try.underlying22 hj hy0 hy1 hy2 rfl (by decide) _ _ _ rfl (hown7.keptB ((Below.refl _ _).alloc (Nat.le_refl _) _)) ⟨w7.heap.size, 0, none⟩ 1 1 [.int .u32 m] rfl rfl (news_new _ _ _) (by simp [Value.oneCell']) (by unfold maxLen; omega) (by omega) (by have := hb7.size; simp; omega) ?_)
      intro v8 w8 hown8 hgrow8 _
      have hb8 := hb7.trans (((Below.refl W5.heap.size w7).alloc hb7.size _).grown hgrow8 (by have := hb7.size; simp; omega) (fun i e => (hown7.lt i e).1))
      have hown9 : OwnsOff w8 W5.heap.size 43 1 v8 (xs ++ [m]).length (wcells (xs ++ [m])) := by rw [List.length_append, wcells_app]; exact hown8
      obtain ⟨A9, c9, rfl, hc9, hm9, hr9, hn9, _⟩ := OwnsOff.wordRow hown9
      have HB8 := Lib.hid (HB5.out.trans (hb8.mono HB5.out.size))
      have hw9 : wfW (xs ++ [m]) := fun q hq => by
        rcases List.mem_append.1 hq with h | h
        · exact hwf q h
        · rw [List.mem_singleton.1 h]; exact u32_of_word hm
      have HN9 := Lib.hid hn9
      have hl9 : xs.length + 1 = (xs ++ [m]).length := by simp
      have HL9 := Lib.hid hl9
      have hc9' : xs.length + 1 ≤ c9 := by rw [hl9]; exact hc9
      rw [← hl9]
      clear hown7 hown8 hown9 hgrow8 hb7 hb8 hn9 hl9 hc9
      go_wp2_with fail
      refine (parse_at (xs.length + 1) (xs ++ [m]) A9 c9 _ HL9.out hc9' hm9 hr9 HN9.out hw9).mono ?_
      rintro e w9 ⟨z, rfl, -, hb9⟩
      rw [HCM.out]
      have HB9 := Lib.hid (HB8.out.trans (hb9.mono HB8.out.size))
      simp only [cfgCells]
      clear hb9
      go_wp2
      go_ret
      exact ⟨rfl, HB9.out.alloc HB9.out.size _⟩
end Go.Proofs.Ytjknmojjodghdaa
