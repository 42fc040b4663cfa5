/- Holds, as a contract. No condition but those in the statements. -/
import Derived.Test.YtogffilanioejaaTable
import Derived.Test.YtogffilanioejaaOff
import Derived.BigQuiet
import Derived.Laws.EntriesVeiled
namespace Go.Proofs.Ytogffilanioejaa
open Go.RowKit Go.Sort Go.ChangeShapes Go.WideShapes
set_option linter.unusedVariables false
set_option linter.unusedSimpArgs false

set_option maxRecDepth 100000 in
set_option maxHeartbeats 4000000 in
theorem holds_b (c : Cfg) (x : CfgAt) (k : Int) (w : World) (hx : CfgIn w w.heap.size c x) (wx : CfgWf c) (lx : CfgFew c) : Calls Try.prog 9 #[.agg (cfgCells c x), .int .i64 k] w fun e w' => e = .returned (.bool (holdsP c k)) ∧ Below w.heap.size w w' := by
  obtain ⟨W, HW, hB, hWs, bx⟩ := one_cbox w c x 29
  have hx := hx.later hB
  have HB := Lib.hid hB
  have HWS := Lib.hid hWs
  simp only [cfgCells]
  clear hB hWs
  go_enter Try.func9, Try.ntmps9
  go_wp2_with (rw [← HW.out])
  refine (rows_b W).mono ?_
  rintro e w1 ⟨TA, to, rfl, hTA, hrow, hb1⟩
  have HB1 := Lib.hid hb1
  clear hb1
  go_wp2
  go_loopw [9] (fun ix wr => ∃ i : Nat, i ≤ 17 ∧ ix = .int .i64 i ∧ (∀ j : Nat, j < i → (j : Int) + 1 ≠ k) ∧ Below w1.heap.size w1 wr) (fun ix _ => 17 - (intOf ix).toNat)
  case atStart => exact ⟨0, by omega, rfl, (fun j hj => by omega), Below.refl _ _⟩
  case round =>
    obtain ⟨i, hi, rfl, hno, hbc⟩ := hrel
    have HN := Lib.hid hno
    clear hno
    by_cases hlt : i < 17
    · obtain ⟨f, caps, q0, q1, eg, hF⟩ := hrow i hlt
      have hTs : TA < w1.heap.size := World.block_lt_of_cell? w1 _ q0
      have q0 := (hbc.cell (p := ⟨TA, to + i * 2, none⟩) hTs).trans q0
      have q1 := (hbc.cell (p := ⟨TA, to + i * 2 + 1, none⟩) hTs).trans q1
      have hlt' : (i : Int) < 17 := by omega
      have hcells := heap_alloc_new wr (.cells #[.int .i64 ((i : Int) + 1), .func (.func f) #[] caps.toArray] 48)
      obtain ⟨wa, hwa⟩ : ∃ u, Hid (u = wr.alloc (.cells #[.int .i64 ((i : Int) + 1), .func (.func f) #[] caps.toArray] 48)) := ⟨_, rfl⟩
      rw [← hwa.out] at hcells
      have hba : Below wr.heap.size wr wa := by rw [hwa.out]; exact (Below.refl _ _).alloc (Nat.le_refl _) _
      have a0 := cell_blk hcells (i := 0) rfl
      have a1 := cell_blk hcells (i := 1) rfl
      have hwb := HB1.out.trans ((hbc.trans (hba.mono hbc.size)).mono HB1.out.size)
      obtain ⟨c0, c1, c2, c3, c4, c5⟩ := bx _ hwb
      have hcall := gives_one (hF c x wa (Later.of_below (hbc.trans (hba.mono hbc.size))) (hx.later hwb) wx lx)
      have HWB := Lib.hid (hbc.trans (hba.mono hbc.size))
      clear hF hwb hba hcells hbc
      by_cases hk : (i : Int) + 1 = k
      · have hka : ((i : Int) + 1 == k) = true := by simp [hk]
        have HK := Lib.hid hk
        clear hk
        go_wp2_with (first | (rw [← hwa.out]) | ((with_reducible refine wpList_fn (caps := caps) eg hcall ?_ ?_ ?_); (first | rfl | fail); (first | rfl | fail); rintro _ w5 ⟨rfl, hb5⟩))
        go_ret
        exact ⟨by rw [HK.out]; rfl, HB.out.trans ((HB1.out.trans ((HWB.out.trans (hb5.mono HWB.out.size)).mono HB1.out.size)).mono HB.out.size)⟩
      · have hka : ((i : Int) + 1 == k) = false := by simp [hk]
        have HK := Lib.hid hk
        clear hk hcall
        go_wp2_with (rw [← hwa.out])
        go_roundw
        case rel => exact ⟨i + 1, by omega, by go_num, (fun j hj => by
          by_cases e : j = i
          · subst e; exact HK.out
          · exact HN.out j (by omega)), HWB.out⟩
        case measure => simp [intOf]; omega
    · have HX := Lib.hid (show holdsP c k = false from holdsP_out (by
        by_cases h1 : k < 1
        · exact .inl h1
        · by_cases h2 : 17 < k
          · exact .inr h2
          · exact absurd (show (((k - 1).toNat : Nat) : Int) + 1 = k by omega) (HN.out (k - 1).toNat (by omega))))
      have hlt' : ¬ (i : Int) < 17 := by omega
      clear HN hrow
      go_wp2
      go_ret
      exact ⟨by rw [HX.out]; rfl, HB.out.trans ((HB1.out.trans (hbc.mono HB1.out.size)).mono HB.out.size)⟩
theorem holds_is (c : Cfg) (x : CfgAt) (k : Int) (b : Bool) (w : World) (hx : CfgIn w w.heap.size c x) (wx : CfgWf c) (lx : CfgFew c) (h : holdsP c k = b) : Calls Try.prog 9 #[.agg (cfgCells c x), .int .i64 k] w fun e w' => e = .returned (.bool b) ∧ Below w.heap.size w w' := by subst h; exact holds_b c x k w hx wx lx
end Go.Proofs.Ytogffilanioejaa
