/- The document's Name, Op, as contracts. No condition but those in the statements. -/
import Derived.Test.YtnemabgenaijhaaDoorSig
import Derived.Test.YtnemabgenaijhaaDoorProg
import Derived.IntWalk
namespace Go.Proofs.YtnemabgenaijhaaDoor
open Go.RowKit Go.Sort
set_option linter.unusedVariables false
set_option linter.unusedSimpArgs false
set_option linter.unusedVariables false
set_option linter.unusedSimpArgs false

theorem rname_b (op : Int) (w : World) : Calls Tryd.prog 12 #[.int .i64 op] w fun e w' => e = .returned (.string (nameS op)) ∧ w = w' := by
  by_cases g1 : op = 1
  · subst g1
    have HX := Lib.hid (show nameS 1 = ⟨#[99, 114, 101, 97, 116, 101]⟩ from by decide)
    go_enter Tryd.func12, Tryd.ntmps12
    go_wp2
    go_ret
    exact ⟨by first | rfl | (rw [HX.out]; rfl), rfl⟩
  have g1a : (op == 1) = false := by simp [g1]
  by_cases g2 : op = 2
  · subst g2
    have HX := Lib.hid (show nameS 2 = ⟨#[110, 111, 114, 109, 97, 108]⟩ from by decide)
    go_enter Tryd.func12, Tryd.ntmps12
    go_wp2
    go_ret
    exact ⟨by first | rfl | (rw [HX.out]; rfl), rfl⟩
  have g2a : (op == 2) = false := by simp [g2]
  by_cases g3 : op = 3
  · subst g3
    have HX := Lib.hid (show nameS 3 = ⟨#[119, 114, 105, 116, 101]⟩ from by decide)
    go_enter Tryd.func12, Tryd.ntmps12
    go_wp2
    go_ret
    exact ⟨by first | rfl | (rw [HX.out]; rfl), rfl⟩
  have g3a : (op == 3) = false := by simp [g3]
  by_cases g4 : op = 4
  · subst g4
    have HX := Lib.hid (show nameS 4 = ⟨#[114, 101, 97, 100]⟩ from by decide)
    go_enter Tryd.func12, Tryd.ntmps12
    go_wp2
    go_ret
    exact ⟨by first | rfl | (rw [HX.out]; rfl), rfl⟩
  have g4a : (op == 4) = false := by simp [g4]
  by_cases g5 : op = 5
  · subst g5
    have HX := Lib.hid (show nameS 5 = ⟨#[115, 101, 110, 100]⟩ from by decide)
    go_enter Tryd.func12, Tryd.ntmps12
    go_wp2
    go_ret
    exact ⟨by first | rfl | (rw [HX.out]; rfl), rfl⟩
  have g5a : (op == 5) = false := by simp [g5]
  by_cases g6 : op = 6
  · subst g6
    have HX := Lib.hid (show nameS 6 = ⟨#[114, 101, 99, 101, 105, 118, 101]⟩ from by decide)
    go_enter Tryd.func12, Tryd.ntmps12
    go_wp2
    go_ret
    exact ⟨by first | rfl | (rw [HX.out]; rfl), rfl⟩
  have g6a : (op == 6) = false := by simp [g6]
  by_cases g7 : op = 7
  · subst g7
    have HX := Lib.hid (show nameS 7 = ⟨#[115, 116, 97, 116, 117, 115]⟩ from by decide)
    go_enter Tryd.func12, Tryd.ntmps12
    go_wp2
    go_ret
    exact ⟨by first | rfl | (rw [HX.out]; rfl), rfl⟩
  have g7a : (op == 7) = false := by simp [g7]
  by_cases g8 : op = 8
  · subst g8
    have HX := Lib.hid (show nameS 8 = ⟨#[112, 101, 101, 107]⟩ from by decide)
    go_enter Tryd.func12, Tryd.ntmps12
    go_wp2
    go_ret
    exact ⟨by first | rfl | (rw [HX.out]; rfl), rfl⟩
  have g8a : (op == 8) = false := by simp [g8]
  by_cases g9 : op = 9
  · subst g9
    have HX := Lib.hid (show nameS 9 = ⟨#[112, 111, 107, 101]⟩ from by decide)
    go_enter Tryd.func12, Tryd.ntmps12
    go_wp2
    go_ret
    exact ⟨by first | rfl | (rw [HX.out]; rfl), rfl⟩
  have g9a : (op == 9) = false := by simp [g9]
  have HX := Lib.hid (show nameS op = ⟨#[]⟩ from nameS_out (by omega))
  clear g1 g2 g3 g4 g5 g6 g7 g8 g9
  go_enter Tryd.func12, Tryd.ntmps12
  go_wp2
  go_ret
  exact ⟨by first | rfl | (rw [HX.out]; rfl), rfl⟩
theorem rname_is (op : Int) (s : ByteArray) (w : World) (h : nameS op = s) : Calls Tryd.prog 12 #[.int .i64 op] w fun e w' => e = .returned (.string s) ∧ w = w' := by subst h; exact rname_b op w
theorem rop_b (s : ByteArray) (w : World) : Calls Tryd.prog 10 #[.string s] w fun e w' => e = .returned (.int .i64 (opN s)) ∧ w = w' := by
  go_enter Tryd.func10, Tryd.ntmps10
  go_wp2
  go_loopw [3] (fun ix wr => ∃ k : Nat, k ≤ 9 ∧ ix = .int .i64 ((k : Int) + 1) ∧ (∀ j : Nat, j < k → (nameS ((j : Int) + 1)).toList ≠ s.toList) ∧ wr = w) (fun ix _ => 10 - (intOf ix).toNat)
  case atStart => exact ⟨0, by omega, rfl, (fun j hj => by omega), rfl⟩
  case round =>
    obtain ⟨k, hk, rfl, hno, rfl⟩ := hrel
    have HN := Lib.hid hno
    clear hno
    by_cases hlt : k < 9
    · have hle : (k : Int) + 1 ≤ 9 := by omega
      obtain ⟨y, hy⟩ : ∃ y, nameS ((k : Int) + 1) = y := ⟨_, rfl⟩
      have HY := Lib.hid hy
      clear hy
      by_cases he : y.toList = s.toList
      · have hea : (y.toList == s.toList) = true := by rw [he]; exact beq_self_eq_true _
        have HX := Lib.hid (opN_hit hlt HN.out (by rw [HY.out]; exact he))
        clear he
        go_wp2_with fail
        refine (rname_is _ y _ HY.out).mono ?_
        rintro e w5 ⟨rfl, rfl⟩
        go_wp2
        go_ret
        exact ⟨by rw [HX.out]; rfl, rfl⟩
      · have hea : (y.toList == s.toList) = false := beq_eq_false_iff_ne.2 he
        have HE := Lib.hid he
        clear he
        go_wp2_with fail
        refine (rname_is _ y _ HY.out).mono ?_
        rintro e w5 ⟨rfl, rfl⟩
        go_wp2
        go_roundw
        case rel => exact ⟨k + 1, by omega, by go_num, (fun j hj => by
          by_cases e : j = k
          · subst e; rw [HY.out]; exact HE.out
          · exact HN.out j (by omega)), by trivial⟩
        case measure => simp [intOf]; omega
    · have HX := Lib.hid (show opN s = 0 from opN_none (fun j hj => HN.out j (by omega)))
      have hle : ¬ (k : Int) + 1 ≤ 9 := by omega
      go_wp2
      go_ret
      exact ⟨by rw [HX.out]; rfl, rfl⟩
end Go.Proofs.YtnemabgenaijhaaDoor
