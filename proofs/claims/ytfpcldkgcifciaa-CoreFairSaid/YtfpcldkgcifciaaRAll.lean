/- The document's All, Great, as contracts. No condition but those in the statements. -/
import Derived.Test.YtfpcldkgcifciaaRHolds
import Derived.BigQuiet
namespace Go.Proofs.Ytfpcldkgcifciaa
open Go.RowKit Go.Sort Go.ChangeShapes Go.WideShapes
set_option linter.unusedVariables false
set_option linter.unusedSimpArgs false

def icells (xs : List Int) : List Value := xs.map (Value.int .i64)
theorem icells_app (a b : List Int) : icells (a ++ b) = icells a ++ icells b := by simp [icells]
/-- A call that hands back a new list of integers, and turns nothing that was there. -/
def GivesNums (w : World) (xs : List Int) (e : Ending) (w' : World) : Prop := ∃ v, e = .returned v ∧ OwnsOff w' w.heap.size 3 1 v xs.length (icells xs) ∧ Below w.heap.size w w'
theorem news_new (w : World) (cs : Array Value) (t : TypeId) : ∀ j u, cs.toList[j]? = some u → (w.alloc (.cells cs t)).cell? ((⟨w.heap.size, 0, none⟩ : Addr).add j) = some u := fun j u hu => by
  rw [Addr.add_lit, Nat.zero_add]
  exact cell_blk (heap_alloc_new w _) (by simpa using hu)
theorem Try.infoI : (Try.prog.info? 3).map (fun i => (i.zero, i.size, i.bytes)) = some (some (.int .i64 0), 1, 8) := by kernel_rfl
/-- Few rows. -/
def CfgFew (c : Cfg) : Prop := c.parts.length ≤ 1000000 ∧ c.chans.length ≤ 1000000 ∧ c.win0.length ≤ 1000000 ∧ c.win1.length ≤ 1000000
theorem holds_is (c : Cfg) (x : CfgAt) (k : Int) (b : Bool) (w : World) (hx : CfgIn w w.heap.size c x) (wx : CfgWf c) (lx : CfgFew c) (h : holdsB c k = b) : Calls Try.prog 23 #[.agg (cfgCells c x), .int .i64 k] w fun e w' => e = .returned (.bool b) ∧ Below w.heap.size w w' := by subst h; exact rholds_b c x k w hx wx lx
theorem allB_len (c : Cfg) (n : Nat) : (allB c n).length ≤ n := by
  unfold allB
  refine Nat.le_trans (List.length_filter_le _ _) ?_
  simp
set_option maxRecDepth 100000 in
set_option maxHeartbeats 4000000 in
theorem rall_b (c : Cfg) (x : CfgAt) (w : World) (hx : CfgIn w w.heap.size c x) (wx : CfgWf c) (lx : CfgFew c) : Calls Try.prog 17 #[.agg (cfgCells c x)] w (GivesNums w (allB c 17)) := by
  obtain ⟨W, HW, hB, -, bx⟩ := one_cbox w c x 29
  have hx := hx.later hB
  have HB := Lib.hid hB
  obtain ⟨i0, hi, hz0, hz1, hz2⟩ := info_parts Try.infoI
  simp only [cfgCells]
  clear hB
  go_enter Try.func17, Try.ntmps17
  go_wp2
  go_loopw [3, 4] (fun v ix wr => ∃ (i : Nat) (k : Int), k = (i : Int) + 1 ∧ i ≤ 17 ∧ ix = .int .i64 k ∧ OwnsOff wr W.heap.size 3 1 v (allB c i).length (icells (allB c i)) ∧ Below W.heap.size W wr) (fun _ ix _ => (18 - intOf ix).toNat)
  case atStart => exact ⟨0, 1, rfl, by omega, rfl, OwnsOff.nil _ _ _ _, (by rw [← HW.out]; exact Below.refl _ _)⟩
  case round =>
    obtain ⟨i, k, hk, hi17, rfl, hown, hbc⟩ := hrel
    obtain ⟨c0, c1, c2, c3, c4, c5⟩ := bx _ hbc
    have hk1 : 1 ≤ k := by omega
    have hk2 : k ≤ 18 := by omega
    have hll := allB_len c i
    have HN := allB_next c i
    rw [← hk] at HN
    obtain ⟨ys, hys⟩ : ∃ ys, allB c i = ys := ⟨_, rfl⟩
    have HYS := Lib.hid hys
    rw [hys] at hown hll HN
    have HK := Lib.hid hk
    clear hys
    by_cases hlt : k ≤ 17
    · have hx1 := hx.later hbc
      clear hk
      cases hh : holdsB c k with
      | true =>
        have HH := Lib.hid hh
        have HN := Lib.hid (show allB c (i + 1) = ys ++ [k] by rw [HN, if_pos hh])
        clear hh
        go_wp2_with fail
        refine (holds_is c x k true _ hx1 wx lx HH.out).mono ?_
        rintro e w5 ⟨rfl, hb5⟩
        have hwc := hbc.trans (hb5.mono hbc.size)
        have hown5 := hown.keptB hb5
        clear hown hb5 hbc hx1 c0 c1 c2 c3 c4 c5
        go_wp2_with (at_builtin; refine wpList_append_off _ rfl _ _ 35 rfl W.heap.size 3 i0 (.int .i64 0) 1 8 Try.underlying35 hi hz0 hz1 hz2 rfl (by decide) _ _ _ rfl (hown5.keptB ((Below.refl _ _).alloc (Nat.le_refl _) _)) ⟨w5.heap.size, 0, none⟩ 1 1 [.int .i64 k] rfl rfl (news_new _ _ _) (by simp [Value.oneCell']) (by unfold maxLen; omega) (by omega) (by have := hwc.size; simp; omega) ?_)
        intro v' w6 hown' hgrow _
        have hb6 := Lib.hid ((hwc.alloc hwc.size _).grown hgrow (by have := hwc.size; simp; omega) (fun i e => (hown5.lt i e).1))
        have hown3 : OwnsOff w6 W.heap.size 3 1 v' (ys ++ [k]).length (icells (ys ++ [k])) := by rw [List.length_append, icells_app]; exact hown'
        have H3 := Lib.hid hown3
        clear hown' hgrow hown3 hown5
        go_wp2
        go_roundw
        case rel => exact ⟨i + 1, k + 1, by have := HK.out; omega, by have := HK.out; omega, rfl, by rw [HN.out]; exact H3.out, hb6.out⟩
        case measure => simp [intOf]; omega
      | false =>
        have HH := Lib.hid hh
        have HN := Lib.hid (show allB c (i + 1) = ys by rw [HN, hh]; simp)
        clear hh
        go_wp2_with fail
        refine (holds_is c x k false _ hx1 wx lx HH.out).mono ?_
        rintro e w5 ⟨rfl, hb5⟩
        have hwc := Lib.hid (hbc.trans (hb5.mono hbc.size))
        have H3 := Lib.hid (hown.keptB hb5)
        clear hown hb5 hbc hx1 c0 c1 c2 c3 c4 c5
        go_wp2
        go_roundw
        case rel => exact ⟨i + 1, k + 1, by have := HK.out; omega, by have := HK.out; omega, rfl, by rw [HN.out]; exact H3.out, hwc.out⟩
        case measure => simp [intOf]; omega
    · have HE := Lib.hid (show allB c 17 = ys by rw [← HYS.out, show i = 17 by omega])
      have H3 := Lib.hid hown
      clear hk hown
      go_wp2
      go_ret
      exact ⟨_, rfl, by rw [HE.out]; exact H3.out.mono HB.out.size, HB.out.trans (hbc.mono HB.out.size)⟩
/-- At most so many rows of each kind. -/
def cfgLe (n : Nat) (c : Cfg) : Bool := decide (c.parts.length ≤ n ∧ c.chans.length ≤ n ∧ c.win0.length ≤ n ∧ c.win1.length ≤ n)
theorem cfgLe_few {n : Nat} {c : Cfg} (h : cfgLe n c = true) (hn : n ≤ 1000000) : CfgFew c := by
  obtain ⟨a, b, d, e⟩ := of_decide_eq_true h
  exact ⟨by omega, by omega, by omega, by omega⟩
theorem great_plain (parts chans : List (List Int)) (len0 : Int) (win0 : List (List Int)) (len1 : Int) (win1 : List (List Int)) (pa : Option Addr) (pc : Nat) (ca : Option Addr) (cc : Nat) (aa : Option Addr) (ac : Nat) (ba : Option Addr) (bc : Nat) (w : World) : Calls Try.prog 7 #[.agg #[.slice pa parts.length pc, .slice ca chans.length cc, .int .i64 len0, .slice aa win0.length ac, .int .i64 len1, .slice ba win1.length bc]] w fun e w' => e = .returned (.bool (!cfgLe 100 (⟨parts, chans, len0, win0, len1, win1⟩ : Cfg))) ∧ Below w.heap.size w w' := by
  by_cases g0 : parts.length ≤ 100
  · have f0 : ¬ ((100 : Int) < (parts.length : Int)) := by omega
    have e0 : (parts.length : Int) ≤ 100 := by omega
    by_cases g1 : chans.length ≤ 100
    · have f1 : ¬ ((100 : Int) < (chans.length : Int)) := by omega
      have e1 : (chans.length : Int) ≤ 100 := by omega
      by_cases g2 : win0.length ≤ 100
      · have f2 : ¬ ((100 : Int) < (win0.length : Int)) := by omega
        have e2 : (win0.length : Int) ≤ 100 := by omega
        by_cases g3 : win1.length ≤ 100
        · have f3 : ¬ ((100 : Int) < (win1.length : Int)) := by omega
          have e3 : (win1.length : Int) ≤ 100 := by omega
          have HR := Lib.hid (show cfgLe 100 (⟨parts, chans, len0, win0, len1, win1⟩ : Cfg) = true from decide_eq_true ⟨g0, g1, g2, g3⟩)
          go_enter Try.func7, Try.ntmps7
          go_wp2
          go_ret
          exact ⟨by rw [HR.out]; rfl, (Below.refl _ _).alloc (Nat.le_refl _) _⟩
        · have f3 : ((100 : Int) < (win1.length : Int)) := by omega
          have e3 : ¬ ((win1.length : Int) ≤ 100) := by omega
          have HR := Lib.hid (show cfgLe 100 (⟨parts, chans, len0, win0, len1, win1⟩ : Cfg) = false from decide_eq_false (fun h => g3 h.2.2.2))
          go_enter Try.func7, Try.ntmps7
          go_wp2
          go_ret
          exact ⟨by rw [HR.out]; rfl, (Below.refl _ _).alloc (Nat.le_refl _) _⟩
      · have f2 : ((100 : Int) < (win0.length : Int)) := by omega
        have e2 : ¬ ((win0.length : Int) ≤ 100) := by omega
        have HR := Lib.hid (show cfgLe 100 (⟨parts, chans, len0, win0, len1, win1⟩ : Cfg) = false from decide_eq_false (fun h => g2 h.2.2.1))
        go_enter Try.func7, Try.ntmps7
        go_wp2
        go_ret
        exact ⟨by rw [HR.out]; rfl, (Below.refl _ _).alloc (Nat.le_refl _) _⟩
    · have f1 : ((100 : Int) < (chans.length : Int)) := by omega
      have e1 : ¬ ((chans.length : Int) ≤ 100) := by omega
      have HR := Lib.hid (show cfgLe 100 (⟨parts, chans, len0, win0, len1, win1⟩ : Cfg) = false from decide_eq_false (fun h => g1 h.2.1))
      go_enter Try.func7, Try.ntmps7
      go_wp2
      go_ret
      exact ⟨by rw [HR.out]; rfl, (Below.refl _ _).alloc (Nat.le_refl _) _⟩
  · have f0 : ((100 : Int) < (parts.length : Int)) := by omega
    have e0 : ¬ ((parts.length : Int) ≤ 100) := by omega
    have HR := Lib.hid (show cfgLe 100 (⟨parts, chans, len0, win0, len1, win1⟩ : Cfg) = false from decide_eq_false (fun h => g0 h.1))
    go_enter Try.func7, Try.ntmps7
    go_wp2
    go_ret
    exact ⟨by rw [HR.out]; rfl, (Below.refl _ _).alloc (Nat.le_refl _) _⟩
theorem great_is (c : Cfg) (x : CfgAt) (b : Bool) (w : World) (h : (!cfgLe 100 c) = b) : Calls Try.prog 7 #[.agg (cfgCells c x)] w fun e w' => e = .returned (.bool b) ∧ Below w.heap.size w w' := by
  subst h
  obtain ⟨parts, chans, len0, win0, len1, win1⟩ := c
  obtain ⟨pa, pc, ca, cc, aa, ac, ba, bc⟩ := x
  exact great_plain parts chans len0 win0 len1 win1 pa pc ca cc aa ac ba bc w
end Go.Proofs.Ytfpcldkgcifciaa
