/- Texts of the ring, joined, what is used of them. No condition but those in the statements. -/
import Derived.Test.YtheeiklgblcjfaaGreatDoorProg
import Derived.BigQuiet
import Derived.IntWalk
import Derived.Shelf.Abstract
import Derived.Test.YtheeiklgblcjfaaGreatDoorRFn
import Derived.Test.YtheeiklgblcjfaaGreatDoorRgg
namespace Go.Proofs.YtheeiklgblcjfaaGreatDoor
open Go.RowKit Go.Sort Go.ChangeShapes Go.WideShapes
set_option linter.unusedVariables false
set_option linter.unusedSimpArgs false
theorem within_b (n a b:Int) (w:World):Calls Tryz.prog 130 #[.int .i64 n,.int .i64 a,.int .i64 b] w fun e w' => e = .returned (.bool (decide (a ≤ n ∧ n ≤ b))) ∧ w = w':=by
  by_cases h1:a ≤ n
  · by_cases h2:n ≤ b
    · have HX:=Lib.hid (show decide (a ≤ n ∧ n ≤ b) = true from decide_eq_true ⟨h1,h2⟩)
      go_enter Tryz.func130,Tryz.ntmps130
      go_wp2
      go_ret
      exact ⟨by first | (rw [HX.out];rfl) | rfl,rfl⟩
    · have h2d:decide (n ≤ b) = false:=decide_eq_false h2
      have HX:=Lib.hid (show decide (a ≤ n ∧ n ≤ b) = false from decide_eq_false (fun h => h2 h.2))
      go_enter Tryz.func130,Tryz.ntmps130
      go_wp2
      go_ret
      exact ⟨by first | (rw [HX.out];rfl) | rfl,rfl⟩
  · have h1d:decide (a ≤ n) = false:=decide_eq_false h1
    have HX:=Lib.hid (show decide (a ≤ n ∧ n ≤ b) = false from decide_eq_false (fun h => h1 h.1))
    go_enter Tryz.func130,Tryz.ntmps130
    go_wp2
    go_ret
    exact ⟨by first | (rw [HX.out];rfl) | rfl,rfl⟩
theorem within_is (n a b:Int) (q:Bool) (w:World) (h:decide (a ≤ n ∧ n ≤ b) = q):Calls Tryz.prog 130 #[.int .i64 n,.int .i64 a,.int .i64 b] w fun e w' => e = .returned (.bool q) ∧ w = w':=by subst h;exact within_b n a b w
theorem isCore_b (n:Int) (w:World):Calls Tryz.prog 133 #[.int .i64 n] w fun e w' => e = .returned (.bool (decide (n = 0 ∨ n = 1))) ∧ w = w':=by
  by_cases h1:n = 0
  · have h1a:((n:Int) == 0) = true:=by simp [h1]
    have h1b:((n:Int) != 0) = false:=by simp [h1]
    have HX:=Lib.hid (show decide (n = 0 ∨ n = 1) = true from decide_eq_true (by omega))
    go_enter Tryz.func133,Tryz.ntmps133
    go_wp2
    go_ret
    exact ⟨by first | (rw [HX.out];rfl) | rfl,rfl⟩
  · have h1a:((n:Int) == 0) = false:=by simp [h1]
    have h1b:((n:Int) != 0) = true:=by simp [h1]
    by_cases h2:n = 1
    · have h2a:((n:Int) == 1) = true:=by simp [h2]
      have h2b:((n:Int) != 1) = false:=by simp [h2]
      have HX:=Lib.hid (show decide (n = 0 ∨ n = 1) = true from decide_eq_true (by omega))
      go_enter Tryz.func133,Tryz.ntmps133
      go_wp2
      go_ret
      exact ⟨by first | (rw [HX.out];rfl) | rfl,rfl⟩
    · have h2a:((n:Int) == 1) = false:=by simp [h2]
      have h2b:((n:Int) != 1) = true:=by simp [h2]
      have HX:=Lib.hid (show decide (n = 0 ∨ n = 1) = false from decide_eq_false (by omega))
      go_enter Tryz.func133,Tryz.ntmps133
      go_wp2
      go_ret
      exact ⟨by first | (rw [HX.out];rfl) | rfl,rfl⟩
theorem isCore_is (n:Int) (q:Bool) (w:World) (h:decide (n = 0 ∨ n = 1) = q):Calls Tryz.prog 133 #[.int .i64 n] w fun e w' => e = .returned (.bool q) ∧ w = w':=by subst h;exact isCore_b n w
theorem isPart_plain (parts chans:List (List Int)) (len0:Int) (win0:List (List Int)) (len1:Int) (win1:List (List Int)) (pa:Option Addr) (pc:Nat) (ca:Option Addr) (cc:Nat) (aa:Option Addr) (ac:Nat) (ba:Option Addr) (bc:Nat) (p:Int) (w:World) (hl:parts.length ≤ 1000000):Calls Tryz.prog 156 #[.agg #[.slice pa parts.length pc,.slice ca chans.length cc,.int .i64 len0,.slice aa win0.length ac,.int .i64 len1,.slice ba win1.length bc],.int .i64 p] w fun e w' => e = .returned (.bool (partB (⟨parts,chans,len0,win0,len1,win1⟩:Cfg) p)) ∧ Below w.heap.size w w':=by
  obtain ⟨q,hq⟩:∃ q,decide (0 ≤ p ∧ p ≤ (parts.length:Int) - 1) = q:=⟨_,rfl⟩
  have HX:=Lib.hid (show partB (⟨parts,chans,len0,win0,len1,win1⟩:Cfg) p = q by rw [← hq];exact decide_eq_decide.2 (by show _ ∧ p < (parts.length:Int) ↔ _;omega))
  go_enter Tryz.func156,Tryz.ntmps156
  go_wp2_with (go_at_call 130;((with_reducible refine (within_is _ _ _ q _ hq).mono ?_);rintro e w5 ⟨rfl,rfl⟩))
  go_ret
  exact ⟨by first | (rw [HX.out];rfl) | rfl,(Below.refl _ _).alloc (Nat.le_refl _) _⟩
theorem isPart_is (parts chans:List (List Int)) (len0:Int) (win0:List (List Int)) (len1:Int) (win1:List (List Int)) (pa:Option Addr) (pc:Nat) (ca:Option Addr) (cc:Nat) (aa:Option Addr) (ac:Nat) (ba:Option Addr) (bc:Nat) (p:Int) (b:Bool) (w:World) (hl:parts.length ≤ 1000000) (h:partB (⟨parts,chans,len0,win0,len1,win1⟩:Cfg) p = b):Calls Tryz.prog 156 #[.agg #[.slice pa parts.length pc,.slice ca chans.length cc,.int .i64 len0,.slice aa win0.length ac,.int .i64 len1,.slice ba win1.length bc],.int .i64 p] w fun e w' => e = .returned (.bool b) ∧ Below w.heap.size w w':=by subst h;exact isPart_plain parts chans len0 win0 len1 win1 pa pc ca cc aa ac ba bc p w hl
theorem pred2_b (x0 x1:Int) (w:World):Calls Tryz.prog 132 #[.agg #[.int .i64 x0,.int .i64 x1]] w fun e w' => e = .returned (.bool (decide (x0 ≠ 0 ∧ x0 ≠ 1))) ∧ Below w.heap.size w w':=by
  by_cases h1:decide (x0 = 0 ∨ x0 = 1) = true
  · have g1:=of_decide_eq_true h1
    have HG:=Lib.hid g1
    clear g1
    have HX:=Lib.hid (show decide (x0 ≠ 0 ∧ x0 ≠ 1) = false from decide_eq_false (by have:=HG.out;omega))
    go_enter Tryz.func132,Tryz.ntmps132
    go_wp2_with (first | (go_at_call 133;((with_reducible refine (isCore_is _ _ _ (by assumption)).mono ?_);rintro e w5 ⟨rfl,rfl⟩)))
    go_ret
    exact ⟨by first | (rw [HX.out];rfl) | rfl,(Below.refl _ _).alloc (Nat.le_refl _) _⟩
  · have h1:decide (x0 = 0 ∨ x0 = 1) = false:=by simpa using h1
    have HG:=Lib.hid (of_decide_eq_false h1)
    have HX:=Lib.hid (show decide (x0 ≠ 0 ∧ x0 ≠ 1) = true from decide_eq_true (by have:=HG.out;omega))
    go_enter Tryz.func132,Tryz.ntmps132
    go_wp2_with (first | (go_at_call 133;((with_reducible refine (isCore_is _ _ _ (by assumption)).mono ?_);rintro e w5 ⟨rfl,rfl⟩)))
    go_ret
    exact ⟨by first | (rw [HX.out];rfl) | rfl,(Below.refl _ _).alloc (Nat.le_refl _) _⟩
theorem pred3_b (x0 x1:Int) (w:World):Calls Tryz.prog 134 #[.agg #[.int .i64 x0,.int .i64 x1]] w fun e w' => e = .returned (.bool (decide (x1 < 0 ∨ 64 < x1))) ∧ Below w.heap.size w w':=by
  by_cases h1:decide (0 ≤ x1 ∧ x1 ≤ 64) = true
  · have HG:=Lib.hid (of_decide_eq_true h1)
    have HX:=Lib.hid (show decide (x1 < 0 ∨ 64 < x1) = false from decide_eq_false (by have:=HG.out;omega))
    go_enter Tryz.func134,Tryz.ntmps134
    go_wp2_with (first | (go_at_call 130;((with_reducible refine (within_is _ _ _ _ _ (by assumption)).mono ?_);rintro e w5 ⟨rfl,rfl⟩)))
    go_ret
    exact ⟨by first | (rw [HX.out];rfl) | rfl,(Below.refl _ _).alloc (Nat.le_refl _) _⟩
  · have h1:decide (0 ≤ x1 ∧ x1 ≤ 64) = false:=by simpa using h1
    have HG:=Lib.hid (of_decide_eq_false h1)
    have HX:=Lib.hid (show decide (x1 < 0 ∨ 64 < x1) = true from decide_eq_true (by have:=HG.out;omega))
    go_enter Tryz.func134,Tryz.ntmps134
    go_wp2_with (first | (go_at_call 130;((with_reducible refine (within_is _ _ _ _ _ (by assumption)).mono ?_);rintro e w5 ⟨rfl,rfl⟩)))
    go_ret
    exact ⟨by first | (rw [HX.out];rfl) | rfl,(Below.refl _ _).alloc (Nat.le_refl _) _⟩
theorem pred5_b (x0 x1 x2 x3 x4 x5 x6:Int) (w:World):Calls Tryz.prog 137 #[.agg #[.int .i64 x0,.int .i64 x1,.int .i64 x2,.int .i64 x3,.int .i64 x4,.int .i64 x5,.int .u32 x6]] w fun e w' => e = .returned (.bool (decide (x0 ≠ 1 ∧ x0 ≠ 2))) ∧ Below w.heap.size w w':=by
  by_cases h1:x0 = 1
  · have h1a:((x0:Int) == 1) = true:=by simp [h1]
    have h1b:((x0:Int) != 1) = false:=by simp [h1]
    have HX:=Lib.hid (show decide (x0 ≠ 1 ∧ x0 ≠ 2) = false from decide_eq_false (by omega))
    go_enter Tryz.func137,Tryz.ntmps137
    go_wp2
    go_ret
    exact ⟨by first | (rw [HX.out];rfl) | rfl,(Below.refl _ _).alloc (Nat.le_refl _) _⟩
  · have h1a:((x0:Int) == 1) = false:=by simp [h1]
    have h1b:((x0:Int) != 1) = true:=by simp [h1]
    by_cases h2:x0 = 2
    · have h2a:((x0:Int) == 2) = true:=by simp [h2]
      have h2b:((x0:Int) != 2) = false:=by simp [h2]
      have HX:=Lib.hid (show decide (x0 ≠ 1 ∧ x0 ≠ 2) = false from decide_eq_false (by omega))
      go_enter Tryz.func137,Tryz.ntmps137
      go_wp2
      go_ret
      exact ⟨by first | (rw [HX.out];rfl) | rfl,(Below.refl _ _).alloc (Nat.le_refl _) _⟩
    · have h2a:((x0:Int) == 2) = false:=by simp [h2]
      have h2b:((x0:Int) != 2) = true:=by simp [h2]
      have HX:=Lib.hid (show decide (x0 ≠ 1 ∧ x0 ≠ 2) = true from decide_eq_true (by omega))
      go_enter Tryz.func137,Tryz.ntmps137
      go_wp2
      go_ret
      exact ⟨by first | (rw [HX.out];rfl) | rfl,(Below.refl _ _).alloc (Nat.le_refl _) _⟩
theorem pred7_b (x0 x1 x2 x3 x4 x5 x6:Int) (w:World):Calls Tryz.prog 139 #[.agg #[.int .i64 x0,.int .i64 x1,.int .i64 x2,.int .i64 x3,.int .i64 x4,.int .i64 x5,.int .u32 x6]] w fun e w' => e = .returned (.bool (decide (x1 = x2))) ∧ Below w.heap.size w w':=by
  by_cases h1:x1 = x2
  · have h1a:((x1:Int) == x2) = true:=by simp [h1]
    have h1b:((x1:Int) != x2) = false:=by simp [h1]
    have HX:=Lib.hid (show decide (x1 = x2) = true from decide_eq_true (by omega))
    go_enter Tryz.func139,Tryz.ntmps139
    go_wp2
    go_ret
    exact ⟨by first | (rw [HX.out];rfl) | rfl,(Below.refl _ _).alloc (Nat.le_refl _) _⟩
  · have h1a:((x1:Int) == x2) = false:=by simp [h1]
    have h1b:((x1:Int) != x2) = true:=by simp [h1]
    have HX:=Lib.hid (show decide (x1 = x2) = false from decide_eq_false (by omega))
    go_enter Tryz.func139,Tryz.ntmps139
    go_wp2
    go_ret
    exact ⟨by first | (rw [HX.out];rfl) | rfl,(Below.refl _ _).alloc (Nat.le_refl _) _⟩
theorem pred9_b (x0 x1 x2 x3 x4 x5 x6:Int) (w:World):Calls Tryz.prog 141 #[.agg #[.int .i64 x0,.int .i64 x1,.int .i64 x2,.int .i64 x3,.int .i64 x4,.int .i64 x5,.int .u32 x6]] w fun e w' => e = .returned (.bool (decide ((x0 = 1 ∧ x4 ≠ 0) ∨ (x0 = 2 ∧ x4 ≠ 1 ∧ x4 ≠ 2 ∧ x4 ≠ 4 ∧ x4 ≠ 8)))) ∧ Below w.heap.size w w':=by
  by_cases h1:x0 = 1
  · have h1a:((x0:Int) == 1) = true:=by simp [h1]
    have h1b:((x0:Int) != 1) = false:=by simp [h1]
    by_cases h2:x4 = 0
    · have h2a:((x4:Int) == 0) = true:=by simp [h2]
      have h2b:((x4:Int) != 0) = false:=by simp [h2]
      have HX:=Lib.hid (show decide ((x0 = 1 ∧ x4 ≠ 0) ∨ (x0 = 2 ∧ x4 ≠ 1 ∧ x4 ≠ 2 ∧ x4 ≠ 4 ∧ x4 ≠ 8)) = false from decide_eq_false (by omega))
      go_enter Tryz.func141,Tryz.ntmps141
      go_wp2
      go_ret
      exact ⟨by first | (rw [HX.out];rfl) | rfl,(Below.refl _ _).alloc (Nat.le_refl _) _⟩
    · have h2a:((x4:Int) == 0) = false:=by simp [h2]
      have h2b:((x4:Int) != 0) = true:=by simp [h2]
      have HX:=Lib.hid (show decide ((x0 = 1 ∧ x4 ≠ 0) ∨ (x0 = 2 ∧ x4 ≠ 1 ∧ x4 ≠ 2 ∧ x4 ≠ 4 ∧ x4 ≠ 8)) = true from decide_eq_true (by omega))
      go_enter Tryz.func141,Tryz.ntmps141
      go_wp2
      go_ret
      exact ⟨by first | (rw [HX.out];rfl) | rfl,(Below.refl _ _).alloc (Nat.le_refl _) _⟩
  · have h1a:((x0:Int) == 1) = false:=by simp [h1]
    have h1b:((x0:Int) != 1) = true:=by simp [h1]
    by_cases h3:x0 = 2
    · have h3a:((x0:Int) == 2) = true:=by simp [h3]
      have h3b:((x0:Int) != 2) = false:=by simp [h3]
      by_cases h4:x4 = 1
      · have h4a:((x4:Int) == 1) = true:=by simp [h4]
        have h4b:((x4:Int) != 1) = false:=by simp [h4]
        have HX:=Lib.hid (show decide ((x0 = 1 ∧ x4 ≠ 0) ∨ (x0 = 2 ∧ x4 ≠ 1 ∧ x4 ≠ 2 ∧ x4 ≠ 4 ∧ x4 ≠ 8)) = false from decide_eq_false (by omega))
        go_enter Tryz.func141,Tryz.ntmps141
        go_wp2
        go_ret
        exact ⟨by first | (rw [HX.out];rfl) | rfl,(Below.refl _ _).alloc (Nat.le_refl _) _⟩
      · have h4a:((x4:Int) == 1) = false:=by simp [h4]
        have h4b:((x4:Int) != 1) = true:=by simp [h4]
        by_cases h5:x4 = 2
        · have h5a:((x4:Int) == 2) = true:=by simp [h5]
          have h5b:((x4:Int) != 2) = false:=by simp [h5]
          have HX:=Lib.hid (show decide ((x0 = 1 ∧ x4 ≠ 0) ∨ (x0 = 2 ∧ x4 ≠ 1 ∧ x4 ≠ 2 ∧ x4 ≠ 4 ∧ x4 ≠ 8)) = false from decide_eq_false (by omega))
          go_enter Tryz.func141,Tryz.ntmps141
          go_wp2
          go_ret
          exact ⟨by first | (rw [HX.out];rfl) | rfl,(Below.refl _ _).alloc (Nat.le_refl _) _⟩
        · have h5a:((x4:Int) == 2) = false:=by simp [h5]
          have h5b:((x4:Int) != 2) = true:=by simp [h5]
          by_cases h6:x4 = 4
          · have h6a:((x4:Int) == 4) = true:=by simp [h6]
            have h6b:((x4:Int) != 4) = false:=by simp [h6]
            have HX:=Lib.hid (show decide ((x0 = 1 ∧ x4 ≠ 0) ∨ (x0 = 2 ∧ x4 ≠ 1 ∧ x4 ≠ 2 ∧ x4 ≠ 4 ∧ x4 ≠ 8)) = false from decide_eq_false (by omega))
            go_enter Tryz.func141,Tryz.ntmps141
            go_wp2
            go_ret
            exact ⟨by first | (rw [HX.out];rfl) | rfl,(Below.refl _ _).alloc (Nat.le_refl _) _⟩
          · have h6a:((x4:Int) == 4) = false:=by simp [h6]
            have h6b:((x4:Int) != 4) = true:=by simp [h6]
            by_cases h7:x4 = 8
            · have h7a:((x4:Int) == 8) = true:=by simp [h7]
              have h7b:((x4:Int) != 8) = false:=by simp [h7]
              have HX:=Lib.hid (show decide ((x0 = 1 ∧ x4 ≠ 0) ∨ (x0 = 2 ∧ x4 ≠ 1 ∧ x4 ≠ 2 ∧ x4 ≠ 4 ∧ x4 ≠ 8)) = false from decide_eq_false (by omega))
              go_enter Tryz.func141,Tryz.ntmps141
              go_wp2
              go_ret
              exact ⟨by first | (rw [HX.out];rfl) | rfl,(Below.refl _ _).alloc (Nat.le_refl _) _⟩
            · have h7a:((x4:Int) == 8) = false:=by simp [h7]
              have h7b:((x4:Int) != 8) = true:=by simp [h7]
              have HX:=Lib.hid (show decide ((x0 = 1 ∧ x4 ≠ 0) ∨ (x0 = 2 ∧ x4 ≠ 1 ∧ x4 ≠ 2 ∧ x4 ≠ 4 ∧ x4 ≠ 8)) = true from decide_eq_true (by omega))
              go_enter Tryz.func141,Tryz.ntmps141
              go_wp2
              go_ret
              exact ⟨by first | (rw [HX.out];rfl) | rfl,(Below.refl _ _).alloc (Nat.le_refl _) _⟩
    · have h3a:((x0:Int) == 2) = false:=by simp [h3]
      have h3b:((x0:Int) != 2) = true:=by simp [h3]
      have HX:=Lib.hid (show decide ((x0 = 1 ∧ x4 ≠ 0) ∨ (x0 = 2 ∧ x4 ≠ 1 ∧ x4 ≠ 2 ∧ x4 ≠ 4 ∧ x4 ≠ 8)) = false from decide_eq_false (by omega))
      go_enter Tryz.func141,Tryz.ntmps141
      go_wp2
      go_ret
      exact ⟨by first | (rw [HX.out];rfl) | rfl,(Below.refl _ _).alloc (Nat.le_refl _) _⟩
theorem pred11_b (x0 x1 x2 x3 x4 x5 x6:Int) (w:World):Calls Tryz.prog 143 #[.agg #[.int .i64 x0,.int .i64 x1,.int .i64 x2,.int .i64 x3,.int .i64 x4,.int .i64 x5,.int .u32 x6]] w fun e w' => e = .returned (.bool (decide (x0 = 1 ∧ x6 ≠ 0))) ∧ Below w.heap.size w w':=by
  by_cases h1:x0 = 1
  · have h1a:((x0:Int) == 1) = true:=by simp [h1]
    have h1b:((x0:Int) != 1) = false:=by simp [h1]
    by_cases h2:x6 = 0
    · have h2a:((x6:Int) == 0) = true:=by simp [h2]
      have h2b:((x6:Int) != 0) = false:=by simp [h2]
      have HX:=Lib.hid (show decide (x0 = 1 ∧ x6 ≠ 0) = false from decide_eq_false (by omega))
      go_enter Tryz.func143,Tryz.ntmps143
      go_wp2
      go_ret
      exact ⟨by first | (rw [HX.out];rfl) | rfl,(Below.refl _ _).alloc (Nat.le_refl _) _⟩
    · have h2a:((x6:Int) == 0) = false:=by simp [h2]
      have h2b:((x6:Int) != 0) = true:=by simp [h2]
      have HX:=Lib.hid (show decide (x0 = 1 ∧ x6 ≠ 0) = true from decide_eq_true (by omega))
      go_enter Tryz.func143,Tryz.ntmps143
      go_wp2
      go_ret
      exact ⟨by first | (rw [HX.out];rfl) | rfl,(Below.refl _ _).alloc (Nat.le_refl _) _⟩
  · have h1a:((x0:Int) == 1) = false:=by simp [h1]
    have h1b:((x0:Int) != 1) = true:=by simp [h1]
    have HX:=Lib.hid (show decide (x0 = 1 ∧ x6 ≠ 0) = false from decide_eq_false (by omega))
    go_enter Tryz.func143,Tryz.ntmps143
    go_wp2
    go_ret
    exact ⟨by first | (rw [HX.out];rfl) | rfl,(Below.refl _ _).alloc (Nat.le_refl _) _⟩
theorem pred8_b (x0 x1 x2 x3 x4 x5 x6:Int) (w:World):Calls Tryz.prog 140 #[.agg #[.int .i64 x0,.int .i64 x1,.int .i64 x2,.int .i64 x3,.int .i64 x4,.int .i64 x5,.int .u32 x6]] w fun e w' => e = .returned (.bool (decide (x3 < 1 ∨ 16 < x3))) ∧ Below w.heap.size w w':=by
  by_cases h1:decide (1 ≤ x3 ∧ x3 ≤ 16) = true
  · have HG:=Lib.hid (of_decide_eq_true h1)
    have HX:=Lib.hid (show decide (x3 < 1 ∨ 16 < x3) = false from decide_eq_false (by have:=HG.out;omega))
    go_enter Tryz.func140,Tryz.ntmps140
    go_wp2_with (first | (go_at_call 130;((with_reducible refine (within_is _ _ _ _ _ (by assumption)).mono ?_);rintro e w5 ⟨rfl,rfl⟩)))
    go_ret
    exact ⟨by first | (rw [HX.out];rfl) | rfl,(Below.refl _ _).alloc (Nat.le_refl _) _⟩
  · have h1:decide (1 ≤ x3 ∧ x3 ≤ 16) = false:=by simpa using h1
    have HG:=Lib.hid (of_decide_eq_false h1)
    have HX:=Lib.hid (show decide (x3 < 1 ∨ 16 < x3) = true from decide_eq_true (by have:=HG.out;omega))
    go_enter Tryz.func140,Tryz.ntmps140
    go_wp2_with (first | (go_at_call 130;((with_reducible refine (within_is _ _ _ _ _ (by assumption)).mono ?_);rintro e w5 ⟨rfl,rfl⟩)))
    go_ret
    exact ⟨by first | (rw [HX.out];rfl) | rfl,(Below.refl _ _).alloc (Nat.le_refl _) _⟩
theorem pred10_b (x0 x1 x2 x3 x4 x5 x6:Int) (w:World):Calls Tryz.prog 142 #[.agg #[.int .i64 x0,.int .i64 x1,.int .i64 x2,.int .i64 x3,.int .i64 x4,.int .i64 x5,.int .u32 x6]] w fun e w' => e = .returned (.bool (decide ((x0 = 1 ∧ (x5 < 0 ∨ 1048576 < x5)) ∨ (x0 = 2 ∧ x5 ≠ 0)))) ∧ Below w.heap.size w w':=by
  by_cases h1:x0 = 1
  · have h1a:((x0:Int) == 1) = true:=by simp [h1]
    have h1b:((x0:Int) != 1) = false:=by simp [h1]
    by_cases h1:decide (0 ≤ x5 ∧ x5 ≤ 1048576) = true
    · have HG:=Lib.hid (of_decide_eq_true h1)
      have HX:=Lib.hid (show decide ((x0 = 1 ∧ (x5 < 0 ∨ 1048576 < x5)) ∨ (x0 = 2 ∧ x5 ≠ 0)) = false from decide_eq_false (by have:=HG.out;omega))
      go_enter Tryz.func142,Tryz.ntmps142
      go_wp2_with (first | (go_at_call 130;((with_reducible refine (within_is _ _ _ _ _ (by assumption)).mono ?_);rintro e w5 ⟨rfl,rfl⟩)))
      go_ret
      exact ⟨by first | (rw [HX.out];rfl) | rfl,(Below.refl _ _).alloc (Nat.le_refl _) _⟩
    · have h1:decide (0 ≤ x5 ∧ x5 ≤ 1048576) = false:=by simpa using h1
      have HG:=Lib.hid (of_decide_eq_false h1)
      have HX:=Lib.hid (show decide ((x0 = 1 ∧ (x5 < 0 ∨ 1048576 < x5)) ∨ (x0 = 2 ∧ x5 ≠ 0)) = true from decide_eq_true (by have:=HG.out;omega))
      go_enter Tryz.func142,Tryz.ntmps142
      go_wp2_with (first | (go_at_call 130;((with_reducible refine (within_is _ _ _ _ _ (by assumption)).mono ?_);rintro e w5 ⟨rfl,rfl⟩)))
      go_ret
      exact ⟨by first | (rw [HX.out];rfl) | rfl,(Below.refl _ _).alloc (Nat.le_refl _) _⟩
  · have h1a:((x0:Int) == 1) = false:=by simp [h1]
    have h1b:((x0:Int) != 1) = true:=by simp [h1]
    by_cases h2:x0 = 2
    · have h2a:((x0:Int) == 2) = true:=by simp [h2]
      have h2b:((x0:Int) != 2) = false:=by simp [h2]
      by_cases h3:x5 = 0
      · have h3a:((x5:Int) == 0) = true:=by simp [h3]
        have h3b:((x5:Int) != 0) = false:=by simp [h3]
        have HX:=Lib.hid (show decide ((x0 = 1 ∧ (x5 < 0 ∨ 1048576 < x5)) ∨ (x0 = 2 ∧ x5 ≠ 0)) = false from decide_eq_false (by omega))
        go_enter Tryz.func142,Tryz.ntmps142
        go_wp2
        go_ret
        exact ⟨by first | (rw [HX.out];rfl) | rfl,(Below.refl _ _).alloc (Nat.le_refl _) _⟩
      · have h3a:((x5:Int) == 0) = false:=by simp [h3]
        have h3b:((x5:Int) != 0) = true:=by simp [h3]
        have HX:=Lib.hid (show decide ((x0 = 1 ∧ (x5 < 0 ∨ 1048576 < x5)) ∨ (x0 = 2 ∧ x5 ≠ 0)) = true from decide_eq_true (by omega))
        go_enter Tryz.func142,Tryz.ntmps142
        go_wp2
        go_ret
        exact ⟨by first | (rw [HX.out];rfl) | rfl,(Below.refl _ _).alloc (Nat.le_refl _) _⟩
    · have h2a:((x0:Int) == 2) = false:=by simp [h2]
      have h2b:((x0:Int) != 2) = true:=by simp [h2]
      have HX:=Lib.hid (show decide ((x0 = 1 ∧ (x5 < 0 ∨ 1048576 < x5)) ∨ (x0 = 2 ∧ x5 ≠ 0)) = false from decide_eq_false (by omega))
      go_enter Tryz.func142,Tryz.ntmps142
      go_wp2
      go_ret
      exact ⟨by first | (rw [HX.out];rfl) | rfl,(Below.refl _ _).alloc (Nat.le_refl _) _⟩
end Go.Proofs.YtheeiklgblcjfaaGreatDoor
namespace Go.Proofs.YtheeiklgblcjfaaGreatDoor
open Go.RowKit Go.Sort Go.ChangeShapes Go.WideShapes
set_option linter.unusedVariables false
set_option linter.unusedSimpArgs false
theorem any_false {l:List (List Int)} {p:List Int → Bool} (h:∀ x ∈ l,p x = false):l.any p = false:=by
  rw [List.any_eq_false];intro x hx;simp [h x hx]
set_option maxHeartbeats 1600000 in
theorem index2_b (g:Nat) (p:List Int → Bool) (eg:∀ args w,(callFunc g args).run Tryz.prog w = .ok (.enter g args) w)
    (hp:∀ (x0 x1:Int) (w:World),Calls Tryz.prog g #[.agg #[.int .i64 x0,.int .i64 x1]] w fun e w' => e = .returned (.bool (p [x0,x1])) ∧ Below w.heap.size w w') (l:List (List Int)) (A:Option Addr) (c:Nat) (w:World) (hr:RowN [.i64,.i64] w w.heap.size A l) (wl:wfR [.i64,.i64] l) (hl:l.length ≤ 1000000) :
    Calls Tryz.prog 162 #[.slice A l.length c,.func (.func g) #[] #[]] w fun e w' => (∃ r:Int,e = .returned (.int .i64 r) ∧ decide (0 ≤ r) = l.any p) ∧ Below w.heap.size w w':=by
  go_enter Tryz.func162,Tryz.ntmps162
  go_wp2
  go_loopw [5,8] (fun _ ix wr => ∃ k:Nat,k ≤ l.length ∧ ix = .int .i64 k ∧ (∀ x ∈ l.take k,p x = false) ∧ Below w.heap.size w wr) (fun _ ix _ => l.length - (intOf ix).toNat)
  case atStart => exact ⟨0,Nat.zero_le _,rfl,(fun x hx => by simp at hx),Below.refl _ _⟩
  case round =>
    obtain ⟨k,hk,rfl,ha,hbc⟩:=hrel
    have HT:=Lib.hid ha
    clear ha
    by_cases hlt:k < l.length
    · obtain ⟨b,o,x0,x1,e0,_,e1,_,k0⟩:=hr.at2 wl hlt
      subst e0
      have k0:=k0 _ hbc
      obtain ⟨p0,p1⟩:=k0
      have E1:=Lib.hid e1
      have hcall:=gives_one (hp x0 x1 wr)
      clear e1 hp hr wl
      cases hq:p [x0,x1] with
      | true =>
        rw [hq] at hcall
        have HQ:=Lib.hid hq
        clear hq
        go_wp2_with ((with_reducible refine wpList_fn (caps:=[]) eg hcall ?_ ?_ ?_);(first | rfl | fail);(first | rfl | fail);rintro _ w' ⟨rfl,hb'⟩)
        go_ret
        refine ⟨⟨_,rfl,?_⟩,hbc.trans (hb'.mono hbc.size)⟩
        rw [List.any_eq_true.2 ⟨_,List.mem_of_getElem? E1.out,HQ.out⟩]
        exact decide_eq_true (by omega)
      | false =>
        rw [hq] at hcall
        have HQ:=Lib.hid hq
        clear hq
        go_wp2_with ((with_reducible refine wpList_fn (caps:=[]) eg hcall ?_ ?_ ?_);(first | rfl | fail);(first | rfl | fail);rintro _ w' ⟨rfl,hb'⟩)
        go_roundw
        case rel => exact ⟨k + 1,by omega,by go_num,(fun x hx => by
          rw [List.take_add_one,E1.out] at hx
          rcases List.mem_append.1 hx with h | h
          · exact HT.out x h
          · simp at h;rw [h];exact HQ.out),hbc.trans (hb'.mono hbc.size)⟩
        case measure => simp [intOf];omega
    · have HS:=Lib.hid (show l.any p = false from any_false (by have h:=HT.out;rw [List.take_of_length_le (by omega)] at h;exact h))
      clear HT hp hr wl
      go_wp2
      go_ret
      exact ⟨⟨_,rfl,by rw [HS.out];rfl⟩,hbc⟩
set_option maxHeartbeats 800000 in
theorem contains2_b (g:Nat) (p:List Int → Bool) (eg:∀ args w,(callFunc g args).run Tryz.prog w = .ok (.enter g args) w)
    (hp:∀ (x0 x1:Int) (w:World),Calls Tryz.prog g #[.agg #[.int .i64 x0,.int .i64 x1]] w fun e w' => e = .returned (.bool (p [x0,x1])) ∧ Below w.heap.size w w') (l:List (List Int)) (A:Option Addr) (c:Nat) (w:World) (hr:RowN [.i64,.i64] w w.heap.size A l) (wl:wfR [.i64,.i64] l) (hl:l.length ≤ 1000000) :
    Calls Tryz.prog 153 #[.slice A l.length c,.func (.func g) #[] #[]] w fun e w' => e = .returned (.bool (l.any p)) ∧ Below w.heap.size w w':=by
  have hI:=index2_b g p eg hp l A c w hr wl hl
  clear hp
  go_enter Tryz.func153,Tryz.ntmps153
  go_wp2_with fail
  refine hI.mono ?_
  rintro e w5 ⟨⟨r,rfl,hd⟩,hb5⟩
  by_cases h0:0 ≤ r
  · have HX:=Lib.hid (show l.any p = true by rw [← hd];exact decide_eq_true h0)
    clear hd
    go_wp2
    go_ret
    exact ⟨by rw [HX.out];rfl,hb5⟩
  · have HX:=Lib.hid (show l.any p = false by rw [← hd];exact decide_eq_false h0)
    have h1:decide (0 ≤ r) = false:=decide_eq_false h0
    clear hd
    go_wp2
    go_ret
    exact ⟨by rw [HX.out];rfl,hb5⟩
set_option maxHeartbeats 1600000 in
theorem index7_b (g:Nat) (p:List Int → Bool) (eg:∀ args w,(callFunc g args).run Tryz.prog w = .ok (.enter g args) w)
    (hp:∀ (x0 x1 x2 x3 x4 x5 x6:Int) (w:World),Calls Tryz.prog g #[.agg #[.int .i64 x0,.int .i64 x1,.int .i64 x2,.int .i64 x3,.int .i64 x4,.int .i64 x5,.int .u32 x6]] w fun e w' => e = .returned (.bool (p [x0,x1,x2,x3,x4,x5,x6])) ∧ Below w.heap.size w w') (l:List (List Int)) (A:Option Addr) (c:Nat) (w:World) (hr:RowN [.i64,.i64,.i64,.i64,.i64,.i64,.u32] w w.heap.size A l) (wl:wfR [.i64,.i64,.i64,.i64,.i64,.i64,.u32] l) (hl:l.length ≤ 1000000) :
    Calls Tryz.prog 163 #[.slice A l.length c,.func (.func g) #[] #[]] w fun e w' => (∃ r:Int,e = .returned (.int .i64 r) ∧ decide (0 ≤ r) = l.any p) ∧ Below w.heap.size w w':=by
  go_enter Tryz.func163,Tryz.ntmps163
  go_wp2
  go_loopw [5,8] (fun _ ix wr => ∃ k:Nat,k ≤ l.length ∧ ix = .int .i64 k ∧ (∀ x ∈ l.take k,p x = false) ∧ Below w.heap.size w wr) (fun _ ix _ => l.length - (intOf ix).toNat)
  case atStart => exact ⟨0,Nat.zero_le _,rfl,(fun x hx => by simp at hx),Below.refl _ _⟩
  case round =>
    obtain ⟨k,hk,rfl,ha,hbc⟩:=hrel
    have HT:=Lib.hid ha
    clear ha
    by_cases hlt:k < l.length
    · obtain ⟨b,o,x0,x1,x2,x3,x4,x5,x6,e0,_,e1,_,k0⟩:=hr.at7 wl hlt
      subst e0
      have k0:=k0 _ hbc
      obtain ⟨p0,k0⟩:=k0
      obtain ⟨p1,k0⟩:=k0
      obtain ⟨p2,k0⟩:=k0
      obtain ⟨p3,k0⟩:=k0
      obtain ⟨p4,k0⟩:=k0
      obtain ⟨p5,p6⟩:=k0
      have E1:=Lib.hid e1
      have hcall:=gives_one (hp x0 x1 x2 x3 x4 x5 x6 wr)
      clear e1 hp hr wl
      cases hq:p [x0,x1,x2,x3,x4,x5,x6] with
      | true =>
        rw [hq] at hcall
        have HQ:=Lib.hid hq
        clear hq
        go_wp2_with ((with_reducible refine wpList_fn (caps:=[]) eg hcall ?_ ?_ ?_);(first | rfl | fail);(first | rfl | fail);rintro _ w' ⟨rfl,hb'⟩)
        go_ret
        refine ⟨⟨_,rfl,?_⟩,hbc.trans (hb'.mono hbc.size)⟩
        rw [List.any_eq_true.2 ⟨_,List.mem_of_getElem? E1.out,HQ.out⟩]
        exact decide_eq_true (by omega)
      | false =>
        rw [hq] at hcall
        have HQ:=Lib.hid hq
        clear hq
        go_wp2_with ((with_reducible refine wpList_fn (caps:=[]) eg hcall ?_ ?_ ?_);(first | rfl | fail);(first | rfl | fail);rintro _ w' ⟨rfl,hb'⟩)
        go_roundw
        case rel => exact ⟨k + 1,by omega,by go_num,(fun x hx => by
          rw [List.take_add_one,E1.out] at hx
          rcases List.mem_append.1 hx with h | h
          · exact HT.out x h
          · simp at h;rw [h];exact HQ.out),hbc.trans (hb'.mono hbc.size)⟩
        case measure => simp [intOf];omega
    · have HS:=Lib.hid (show l.any p = false from any_false (by have h:=HT.out;rw [List.take_of_length_le (by omega)] at h;exact h))
      clear HT hp hr wl
      go_wp2
      go_ret
      exact ⟨⟨_,rfl,by rw [HS.out];rfl⟩,hbc⟩
set_option maxHeartbeats 800000 in
theorem contains7_b (g:Nat) (p:List Int → Bool) (eg:∀ args w,(callFunc g args).run Tryz.prog w = .ok (.enter g args) w)
    (hp:∀ (x0 x1 x2 x3 x4 x5 x6:Int) (w:World),Calls Tryz.prog g #[.agg #[.int .i64 x0,.int .i64 x1,.int .i64 x2,.int .i64 x3,.int .i64 x4,.int .i64 x5,.int .u32 x6]] w fun e w' => e = .returned (.bool (p [x0,x1,x2,x3,x4,x5,x6])) ∧ Below w.heap.size w w') (l:List (List Int)) (A:Option Addr) (c:Nat) (w:World) (hr:RowN [.i64,.i64,.i64,.i64,.i64,.i64,.u32] w w.heap.size A l) (wl:wfR [.i64,.i64,.i64,.i64,.i64,.i64,.u32] l) (hl:l.length ≤ 1000000) :
    Calls Tryz.prog 155 #[.slice A l.length c,.func (.func g) #[] #[]] w fun e w' => e = .returned (.bool (l.any p)) ∧ Below w.heap.size w w':=by
  have hI:=index7_b g p eg hp l A c w hr wl hl
  clear hp
  go_enter Tryz.func155,Tryz.ntmps155
  go_wp2_with fail
  refine hI.mono ?_
  rintro e w5 ⟨⟨r,rfl,hd⟩,hb5⟩
  by_cases h0:0 ≤ r
  · have HX:=Lib.hid (show l.any p = true by rw [← hd];exact decide_eq_true h0)
    clear hd
    go_wp2
    go_ret
    exact ⟨by rw [HX.out];rfl,hb5⟩
  · have HX:=Lib.hid (show l.any p = false by rw [← hd];exact decide_eq_false h0)
    have h1:decide (0 ≤ r) = false:=decide_eq_false h0
    clear hd
    go_wp2
    go_ret
    exact ⟨by rw [HX.out];rfl,hb5⟩
end Go.Proofs.YtheeiklgblcjfaaGreatDoor
namespace Go.Proofs.YtheeiklgblcjfaaGreatDoor
open Go.RowKit Go.Sort Go.Shelf
set_option linter.unusedVariables false
set_option linter.unusedSimpArgs false
theorem row1_b (parts chans:List (List Int)) (len0:Int) (win0:List (List Int)) (len1:Int) (win1:List (List Int)) (pa:Option Addr) (pc:Nat) (ca:Option Addr) (cc:Nat) (aa:Option Addr) (ac:Nat) (ba:Option Addr) (bc:Nat) (w:World):Calls Tryz.prog 129 #[.agg #[.slice pa parts.length pc,.slice ca chans.length cc,.int .i64 len0,.slice aa win0.length ac,.int .i64 len1,.slice ba win1.length bc]] w fun e w' => e = .returned (.bool (holdsP (⟨parts,chans,len0,win0,len1,win1⟩:Cfg) 1)) ∧ Below w.heap.size w w':=by
  by_cases h1:decide (1 ≤ (parts.length:Int) ∧ (parts.length:Int) ≤ 6) = true
  · have HG:=Lib.hid (of_decide_eq_true h1)
    have HX:=Lib.hid (show holdsP (⟨parts,chans,len0,win0,len1,win1⟩:Cfg) 1 = false from (show decide (parts.length < 1 ∨ 6 < parts.length) = false from decide_eq_false (by have:=HG.out;omega)))
    go_enter Tryz.func129,Tryz.ntmps129
    go_wp2_with (first | (go_at_call 130;((with_reducible refine (within_is _ _ _ _ _ (by assumption)).mono ?_);rintro e w5 ⟨rfl,rfl⟩)))
    go_ret
    exact ⟨by rw [HX.out];rfl,(Below.refl _ _).alloc (Nat.le_refl _) _⟩
  · have h1:decide (1 ≤ (parts.length:Int) ∧ (parts.length:Int) ≤ 6) = false:=by simpa using h1
    have HG:=Lib.hid (of_decide_eq_false h1)
    have HX:=Lib.hid (show holdsP (⟨parts,chans,len0,win0,len1,win1⟩:Cfg) 1 = true from (show decide (parts.length < 1 ∨ 6 < parts.length) = true from decide_eq_true (by have:=HG.out;omega)))
    go_enter Tryz.func129,Tryz.ntmps129
    go_wp2_with (first | (go_at_call 130;((with_reducible refine (within_is _ _ _ _ _ (by assumption)).mono ?_);rintro e w5 ⟨rfl,rfl⟩)))
    go_ret
    exact ⟨by rw [HX.out];rfl,(Below.refl _ _).alloc (Nat.le_refl _) _⟩
theorem row4_b (parts chans:List (List Int)) (len0:Int) (win0:List (List Int)) (len1:Int) (win1:List (List Int)) (pa:Option Addr) (pc:Nat) (ca:Option Addr) (cc:Nat) (aa:Option Addr) (ac:Nat) (ba:Option Addr) (bc:Nat) (w:World):Calls Tryz.prog 135 #[.agg #[.slice pa parts.length pc,.slice ca chans.length cc,.int .i64 len0,.slice aa win0.length ac,.int .i64 len1,.slice ba win1.length bc]] w fun e w' => e = .returned (.bool (holdsP (⟨parts,chans,len0,win0,len1,win1⟩:Cfg) 4)) ∧ Below w.heap.size w w':=by
  by_cases h1:(8:Int) < (chans.length:Int)
  · have HX:=Lib.hid (show holdsP (⟨parts,chans,len0,win0,len1,win1⟩:Cfg) 4 = true from (show decide (8 < chans.length) = true from decide_eq_true (by omega)))
    go_enter Tryz.func135,Tryz.ntmps135
    go_wp2
    go_ret
    exact ⟨by rw [HX.out];rfl,(Below.refl _ _).alloc (Nat.le_refl _) _⟩
  · have h1d:decide ((8:Int) < (chans.length:Int)) = false:=decide_eq_false h1
    have HX:=Lib.hid (show holdsP (⟨parts,chans,len0,win0,len1,win1⟩:Cfg) 4 = false from (show decide (8 < chans.length) = false from decide_eq_false (by omega)))
    go_enter Tryz.func135,Tryz.ntmps135
    go_wp2
    go_ret
    exact ⟨by rw [HX.out];rfl,(Below.refl _ _).alloc (Nat.le_refl _) _⟩
set_option maxHeartbeats 800000 in
theorem row2_b (parts chans:List (List Int)) (len0:Int) (win0:List (List Int)) (len1:Int) (win1:List (List Int)) (pa:Option Addr) (pc:Nat) (ca:Option Addr) (cc:Nat) (aa:Option Addr) (ac:Nat) (ba:Option Addr) (bc:Nat) (B:Nat) (w:World) (hp:RowN [.i64,.i64] w w.heap.size pa parts) (hpw:wfR [.i64,.i64] parts) (hpl:parts.length ≤ 1000000) (hc:RowN [.i64,.i64,.i64,.i64,.i64,.i64,.u32] w w.heap.size ca chans) (hcw:wfR [.i64,.i64,.i64,.i64,.i64,.i64,.u32] chans) (hcl:chans.length ≤ 1000000) (h0:RowN [.i64,.i64,.i64] w w.heap.size aa win0) (h0w:wfR [.i64,.i64,.i64] win0) (h0l:win0.length ≤ 1000000) (h1:RowN [.i64,.i64,.i64] w w.heap.size ba win1) (h1w:wfR [.i64,.i64,.i64] win1) (h1l:win1.length ≤ 1000000) (hB:w.cell? ⟨B,0,none⟩ = some (.func (.func 132) #[] #[])) :
    Calls Tryz.prog 152 #[.agg #[.slice pa parts.length pc,.slice ca chans.length cc,.int .i64 len0,.slice aa win0.length ac,.int .i64 len1,.slice ba win1.length bc],.pointer (some ⟨B,0,none⟩)] w fun e w' => e = .returned (.bool (holdsP (⟨parts,chans,len0,win0,len1,win1⟩:Cfg) 2)) ∧ Below w.heap.size w w':=by
  have hBw:B < w.heap.size:=by have:=World.block_lt_of_cell? w _ hB;exact this
  have HX:=Lib.hid (show holdsP (⟨parts,chans,len0,win0,len1,win1⟩:Cfg) 2 = parts.any (fun x => decide (fld x 0 ≠ 0 ∧ fld x 0 ≠ 1)) from scan_any parts (fun x => decide (fld x 0 ≠ 0 ∧ fld x 0 ≠ 1)))
  have hC:=fun w' (h:Below w.heap.size w w') => contains2_b 132 (fun x => decide (fld x 0 ≠ 0 ∧ fld x 0 ≠ 1)) (enters_of Tryz.func132 (by kernel_rfl) rfl) (fun x0 x1 w => pred2_b x0 x1 w) parts pa pc w' (hp.later h) hpw hpl
  rw [HX.out]
  generalize parts.any (fun x => decide (fld x 0 ≠ 0 ∧ fld x 0 ≠ 1)) = q at hC
  clear HX hp hc h0 h1
  go_enter Tryz.func152,Tryz.ntmps152
  go_wp2_with (go_at_call 153;refine (hC _ ((Below.refl _ _).alloc (Nat.le_refl _) _)).mono ?_;rintro e w' ⟨rfl,hb'⟩)
  go_ret
  exact ⟨rfl,((Below.refl _ _).alloc (Nat.le_refl _) _).trans (hb'.mono (by simp))⟩
set_option maxHeartbeats 800000 in
theorem row3_b (parts chans:List (List Int)) (len0:Int) (win0:List (List Int)) (len1:Int) (win1:List (List Int)) (pa:Option Addr) (pc:Nat) (ca:Option Addr) (cc:Nat) (aa:Option Addr) (ac:Nat) (ba:Option Addr) (bc:Nat) (B:Nat) (w:World) (hp:RowN [.i64,.i64] w w.heap.size pa parts) (hpw:wfR [.i64,.i64] parts) (hpl:parts.length ≤ 1000000) (hc:RowN [.i64,.i64,.i64,.i64,.i64,.i64,.u32] w w.heap.size ca chans) (hcw:wfR [.i64,.i64,.i64,.i64,.i64,.i64,.u32] chans) (hcl:chans.length ≤ 1000000) (h0:RowN [.i64,.i64,.i64] w w.heap.size aa win0) (h0w:wfR [.i64,.i64,.i64] win0) (h0l:win0.length ≤ 1000000) (h1:RowN [.i64,.i64,.i64] w w.heap.size ba win1) (h1w:wfR [.i64,.i64,.i64] win1) (h1l:win1.length ≤ 1000000) (hB:w.cell? ⟨B,0,none⟩ = some (.func (.func 134) #[] #[])) :
    Calls Tryz.prog 152 #[.agg #[.slice pa parts.length pc,.slice ca chans.length cc,.int .i64 len0,.slice aa win0.length ac,.int .i64 len1,.slice ba win1.length bc],.pointer (some ⟨B,0,none⟩)] w fun e w' => e = .returned (.bool (holdsP (⟨parts,chans,len0,win0,len1,win1⟩:Cfg) 3)) ∧ Below w.heap.size w w':=by
  have hBw:B < w.heap.size:=by have:=World.block_lt_of_cell? w _ hB;exact this
  have HX:=Lib.hid (show holdsP (⟨parts,chans,len0,win0,len1,win1⟩:Cfg) 3 = parts.any (fun x => decide (fld x 1 < 0 ∨ 64 < fld x 1)) from scan_any parts (fun x => decide (fld x 1 < 0 ∨ 64 < fld x 1)))
  have hC:=fun w' (h:Below w.heap.size w w') => contains2_b 134 (fun x => decide (fld x 1 < 0 ∨ 64 < fld x 1)) (enters_of Tryz.func134 (by kernel_rfl) rfl) (fun x0 x1 w => pred3_b x0 x1 w) parts pa pc w' (hp.later h) hpw hpl
  rw [HX.out]
  generalize parts.any (fun x => decide (fld x 1 < 0 ∨ 64 < fld x 1)) = q at hC
  clear HX hp hc h0 h1
  go_enter Tryz.func152,Tryz.ntmps152
  go_wp2_with (go_at_call 153;refine (hC _ ((Below.refl _ _).alloc (Nat.le_refl _) _)).mono ?_;rintro e w' ⟨rfl,hb'⟩)
  go_ret
  exact ⟨rfl,((Below.refl _ _).alloc (Nat.le_refl _) _).trans (hb'.mono (by simp))⟩
set_option maxHeartbeats 800000 in
theorem row5_b (parts chans:List (List Int)) (len0:Int) (win0:List (List Int)) (len1:Int) (win1:List (List Int)) (pa:Option Addr) (pc:Nat) (ca:Option Addr) (cc:Nat) (aa:Option Addr) (ac:Nat) (ba:Option Addr) (bc:Nat) (B:Nat) (w:World) (hp:RowN [.i64,.i64] w w.heap.size pa parts) (hpw:wfR [.i64,.i64] parts) (hpl:parts.length ≤ 1000000) (hc:RowN [.i64,.i64,.i64,.i64,.i64,.i64,.u32] w w.heap.size ca chans) (hcw:wfR [.i64,.i64,.i64,.i64,.i64,.i64,.u32] chans) (hcl:chans.length ≤ 1000000) (h0:RowN [.i64,.i64,.i64] w w.heap.size aa win0) (h0w:wfR [.i64,.i64,.i64] win0) (h0l:win0.length ≤ 1000000) (h1:RowN [.i64,.i64,.i64] w w.heap.size ba win1) (h1w:wfR [.i64,.i64,.i64] win1) (h1l:win1.length ≤ 1000000) (hB:w.cell? ⟨B,0,none⟩ = some (.func (.func 137) #[] #[])) :
    Calls Tryz.prog 154 #[.agg #[.slice pa parts.length pc,.slice ca chans.length cc,.int .i64 len0,.slice aa win0.length ac,.int .i64 len1,.slice ba win1.length bc],.pointer (some ⟨B,0,none⟩)] w fun e w' => e = .returned (.bool (holdsP (⟨parts,chans,len0,win0,len1,win1⟩:Cfg) 5)) ∧ Below w.heap.size w w':=by
  have hBw:B < w.heap.size:=by have:=World.block_lt_of_cell? w _ hB;exact this
  have HX:=Lib.hid (show holdsP (⟨parts,chans,len0,win0,len1,win1⟩:Cfg) 5 = chans.any (chanBad parts.length 5) from chansB_any (⟨parts,chans,len0,win0,len1,win1⟩:Cfg) 5)
  have hC:=fun w' (h:Below w.heap.size w w') => contains7_b 137 (chanBad parts.length 5) (enters_of Tryz.func137 (by kernel_rfl) rfl) (fun x0 x1 x2 x3 x4 x5 x6 w => pred5_b x0 x1 x2 x3 x4 x5 x6 w) chans ca cc w' (hc.later h) hcw hcl
  rw [HX.out]
  generalize chans.any (chanBad parts.length 5) = q at hC
  clear HX hp hc h0 h1
  go_enter Tryz.func154,Tryz.ntmps154
  go_wp2_with (go_at_call 155;refine (hC _ ((Below.refl _ _).alloc (Nat.le_refl _) _)).mono ?_;rintro e w' ⟨rfl,hb'⟩)
  go_ret
  exact ⟨rfl,((Below.refl _ _).alloc (Nat.le_refl _) _).trans (hb'.mono (by simp))⟩
set_option maxHeartbeats 800000 in
theorem row7_b (parts chans:List (List Int)) (len0:Int) (win0:List (List Int)) (len1:Int) (win1:List (List Int)) (pa:Option Addr) (pc:Nat) (ca:Option Addr) (cc:Nat) (aa:Option Addr) (ac:Nat) (ba:Option Addr) (bc:Nat) (B:Nat) (w:World) (hp:RowN [.i64,.i64] w w.heap.size pa parts) (hpw:wfR [.i64,.i64] parts) (hpl:parts.length ≤ 1000000) (hc:RowN [.i64,.i64,.i64,.i64,.i64,.i64,.u32] w w.heap.size ca chans) (hcw:wfR [.i64,.i64,.i64,.i64,.i64,.i64,.u32] chans) (hcl:chans.length ≤ 1000000) (h0:RowN [.i64,.i64,.i64] w w.heap.size aa win0) (h0w:wfR [.i64,.i64,.i64] win0) (h0l:win0.length ≤ 1000000) (h1:RowN [.i64,.i64,.i64] w w.heap.size ba win1) (h1w:wfR [.i64,.i64,.i64] win1) (h1l:win1.length ≤ 1000000) (hB:w.cell? ⟨B,0,none⟩ = some (.func (.func 139) #[] #[])) :
    Calls Tryz.prog 154 #[.agg #[.slice pa parts.length pc,.slice ca chans.length cc,.int .i64 len0,.slice aa win0.length ac,.int .i64 len1,.slice ba win1.length bc],.pointer (some ⟨B,0,none⟩)] w fun e w' => e = .returned (.bool (holdsP (⟨parts,chans,len0,win0,len1,win1⟩:Cfg) 7)) ∧ Below w.heap.size w w':=by
  have hBw:B < w.heap.size:=by have:=World.block_lt_of_cell? w _ hB;exact this
  have HX:=Lib.hid (show holdsP (⟨parts,chans,len0,win0,len1,win1⟩:Cfg) 7 = chans.any (chanBad parts.length 7) from chansB_any (⟨parts,chans,len0,win0,len1,win1⟩:Cfg) 7)
  have hC:=fun w' (h:Below w.heap.size w w') => contains7_b 139 (chanBad parts.length 7) (enters_of Tryz.func139 (by kernel_rfl) rfl) (fun x0 x1 x2 x3 x4 x5 x6 w => pred7_b x0 x1 x2 x3 x4 x5 x6 w) chans ca cc w' (hc.later h) hcw hcl
  rw [HX.out]
  generalize chans.any (chanBad parts.length 7) = q at hC
  clear HX hp hc h0 h1
  go_enter Tryz.func154,Tryz.ntmps154
  go_wp2_with (go_at_call 155;refine (hC _ ((Below.refl _ _).alloc (Nat.le_refl _) _)).mono ?_;rintro e w' ⟨rfl,hb'⟩)
  go_ret
  exact ⟨rfl,((Below.refl _ _).alloc (Nat.le_refl _) _).trans (hb'.mono (by simp))⟩
set_option maxHeartbeats 800000 in
theorem row8_b (parts chans:List (List Int)) (len0:Int) (win0:List (List Int)) (len1:Int) (win1:List (List Int)) (pa:Option Addr) (pc:Nat) (ca:Option Addr) (cc:Nat) (aa:Option Addr) (ac:Nat) (ba:Option Addr) (bc:Nat) (B:Nat) (w:World) (hp:RowN [.i64,.i64] w w.heap.size pa parts) (hpw:wfR [.i64,.i64] parts) (hpl:parts.length ≤ 1000000) (hc:RowN [.i64,.i64,.i64,.i64,.i64,.i64,.u32] w w.heap.size ca chans) (hcw:wfR [.i64,.i64,.i64,.i64,.i64,.i64,.u32] chans) (hcl:chans.length ≤ 1000000) (h0:RowN [.i64,.i64,.i64] w w.heap.size aa win0) (h0w:wfR [.i64,.i64,.i64] win0) (h0l:win0.length ≤ 1000000) (h1:RowN [.i64,.i64,.i64] w w.heap.size ba win1) (h1w:wfR [.i64,.i64,.i64] win1) (h1l:win1.length ≤ 1000000) (hB:w.cell? ⟨B,0,none⟩ = some (.func (.func 140) #[] #[])) :
    Calls Tryz.prog 154 #[.agg #[.slice pa parts.length pc,.slice ca chans.length cc,.int .i64 len0,.slice aa win0.length ac,.int .i64 len1,.slice ba win1.length bc],.pointer (some ⟨B,0,none⟩)] w fun e w' => e = .returned (.bool (holdsP (⟨parts,chans,len0,win0,len1,win1⟩:Cfg) 8)) ∧ Below w.heap.size w w':=by
  have hBw:B < w.heap.size:=by have:=World.block_lt_of_cell? w _ hB;exact this
  have HX:=Lib.hid (show holdsP (⟨parts,chans,len0,win0,len1,win1⟩:Cfg) 8 = chans.any (chanBad parts.length 8) from chansB_any (⟨parts,chans,len0,win0,len1,win1⟩:Cfg) 8)
  have hC:=fun w' (h:Below w.heap.size w w') => contains7_b 140 (chanBad parts.length 8) (enters_of Tryz.func140 (by kernel_rfl) rfl) (fun x0 x1 x2 x3 x4 x5 x6 w => pred8_b x0 x1 x2 x3 x4 x5 x6 w) chans ca cc w' (hc.later h) hcw hcl
  rw [HX.out]
  generalize chans.any (chanBad parts.length 8) = q at hC
  clear HX hp hc h0 h1
  go_enter Tryz.func154,Tryz.ntmps154
  go_wp2_with (go_at_call 155;refine (hC _ ((Below.refl _ _).alloc (Nat.le_refl _) _)).mono ?_;rintro e w' ⟨rfl,hb'⟩)
  go_ret
  exact ⟨rfl,((Below.refl _ _).alloc (Nat.le_refl _) _).trans (hb'.mono (by simp))⟩
set_option maxHeartbeats 800000 in
theorem row9_b (parts chans:List (List Int)) (len0:Int) (win0:List (List Int)) (len1:Int) (win1:List (List Int)) (pa:Option Addr) (pc:Nat) (ca:Option Addr) (cc:Nat) (aa:Option Addr) (ac:Nat) (ba:Option Addr) (bc:Nat) (B:Nat) (w:World) (hp:RowN [.i64,.i64] w w.heap.size pa parts) (hpw:wfR [.i64,.i64] parts) (hpl:parts.length ≤ 1000000) (hc:RowN [.i64,.i64,.i64,.i64,.i64,.i64,.u32] w w.heap.size ca chans) (hcw:wfR [.i64,.i64,.i64,.i64,.i64,.i64,.u32] chans) (hcl:chans.length ≤ 1000000) (h0:RowN [.i64,.i64,.i64] w w.heap.size aa win0) (h0w:wfR [.i64,.i64,.i64] win0) (h0l:win0.length ≤ 1000000) (h1:RowN [.i64,.i64,.i64] w w.heap.size ba win1) (h1w:wfR [.i64,.i64,.i64] win1) (h1l:win1.length ≤ 1000000) (hB:w.cell? ⟨B,0,none⟩ = some (.func (.func 141) #[] #[])) :
    Calls Tryz.prog 154 #[.agg #[.slice pa parts.length pc,.slice ca chans.length cc,.int .i64 len0,.slice aa win0.length ac,.int .i64 len1,.slice ba win1.length bc],.pointer (some ⟨B,0,none⟩)] w fun e w' => e = .returned (.bool (holdsP (⟨parts,chans,len0,win0,len1,win1⟩:Cfg) 9)) ∧ Below w.heap.size w w':=by
  have hBw:B < w.heap.size:=by have:=World.block_lt_of_cell? w _ hB;exact this
  have HX:=Lib.hid (show holdsP (⟨parts,chans,len0,win0,len1,win1⟩:Cfg) 9 = chans.any (chanBad parts.length 9) from chansB_any (⟨parts,chans,len0,win0,len1,win1⟩:Cfg) 9)
  have hC:=fun w' (h:Below w.heap.size w w') => contains7_b 141 (chanBad parts.length 9) (enters_of Tryz.func141 (by kernel_rfl) rfl) (fun x0 x1 x2 x3 x4 x5 x6 w => pred9_b x0 x1 x2 x3 x4 x5 x6 w) chans ca cc w' (hc.later h) hcw hcl
  rw [HX.out]
  generalize chans.any (chanBad parts.length 9) = q at hC
  clear HX hp hc h0 h1
  go_enter Tryz.func154,Tryz.ntmps154
  go_wp2_with (go_at_call 155;refine (hC _ ((Below.refl _ _).alloc (Nat.le_refl _) _)).mono ?_;rintro e w' ⟨rfl,hb'⟩)
  go_ret
  exact ⟨rfl,((Below.refl _ _).alloc (Nat.le_refl _) _).trans (hb'.mono (by simp))⟩
set_option maxHeartbeats 800000 in
theorem row10_b (parts chans:List (List Int)) (len0:Int) (win0:List (List Int)) (len1:Int) (win1:List (List Int)) (pa:Option Addr) (pc:Nat) (ca:Option Addr) (cc:Nat) (aa:Option Addr) (ac:Nat) (ba:Option Addr) (bc:Nat) (B:Nat) (w:World) (hp:RowN [.i64,.i64] w w.heap.size pa parts) (hpw:wfR [.i64,.i64] parts) (hpl:parts.length ≤ 1000000) (hc:RowN [.i64,.i64,.i64,.i64,.i64,.i64,.u32] w w.heap.size ca chans) (hcw:wfR [.i64,.i64,.i64,.i64,.i64,.i64,.u32] chans) (hcl:chans.length ≤ 1000000) (h0:RowN [.i64,.i64,.i64] w w.heap.size aa win0) (h0w:wfR [.i64,.i64,.i64] win0) (h0l:win0.length ≤ 1000000) (h1:RowN [.i64,.i64,.i64] w w.heap.size ba win1) (h1w:wfR [.i64,.i64,.i64] win1) (h1l:win1.length ≤ 1000000) (hB:w.cell? ⟨B,0,none⟩ = some (.func (.func 142) #[] #[])) :
    Calls Tryz.prog 154 #[.agg #[.slice pa parts.length pc,.slice ca chans.length cc,.int .i64 len0,.slice aa win0.length ac,.int .i64 len1,.slice ba win1.length bc],.pointer (some ⟨B,0,none⟩)] w fun e w' => e = .returned (.bool (holdsP (⟨parts,chans,len0,win0,len1,win1⟩:Cfg) 10)) ∧ Below w.heap.size w w':=by
  have hBw:B < w.heap.size:=by have:=World.block_lt_of_cell? w _ hB;exact this
  have HX:=Lib.hid (show holdsP (⟨parts,chans,len0,win0,len1,win1⟩:Cfg) 10 = chans.any (chanBad parts.length 10) from chansB_any (⟨parts,chans,len0,win0,len1,win1⟩:Cfg) 10)
  have hC:=fun w' (h:Below w.heap.size w w') => contains7_b 142 (chanBad parts.length 10) (enters_of Tryz.func142 (by kernel_rfl) rfl) (fun x0 x1 x2 x3 x4 x5 x6 w => pred10_b x0 x1 x2 x3 x4 x5 x6 w) chans ca cc w' (hc.later h) hcw hcl
  rw [HX.out]
  generalize chans.any (chanBad parts.length 10) = q at hC
  clear HX hp hc h0 h1
  go_enter Tryz.func154,Tryz.ntmps154
  go_wp2_with (go_at_call 155;refine (hC _ ((Below.refl _ _).alloc (Nat.le_refl _) _)).mono ?_;rintro e w' ⟨rfl,hb'⟩)
  go_ret
  exact ⟨rfl,((Below.refl _ _).alloc (Nat.le_refl _) _).trans (hb'.mono (by simp))⟩
set_option maxHeartbeats 800000 in
theorem row11_b (parts chans:List (List Int)) (len0:Int) (win0:List (List Int)) (len1:Int) (win1:List (List Int)) (pa:Option Addr) (pc:Nat) (ca:Option Addr) (cc:Nat) (aa:Option Addr) (ac:Nat) (ba:Option Addr) (bc:Nat) (B:Nat) (w:World) (hp:RowN [.i64,.i64] w w.heap.size pa parts) (hpw:wfR [.i64,.i64] parts) (hpl:parts.length ≤ 1000000) (hc:RowN [.i64,.i64,.i64,.i64,.i64,.i64,.u32] w w.heap.size ca chans) (hcw:wfR [.i64,.i64,.i64,.i64,.i64,.i64,.u32] chans) (hcl:chans.length ≤ 1000000) (h0:RowN [.i64,.i64,.i64] w w.heap.size aa win0) (h0w:wfR [.i64,.i64,.i64] win0) (h0l:win0.length ≤ 1000000) (h1:RowN [.i64,.i64,.i64] w w.heap.size ba win1) (h1w:wfR [.i64,.i64,.i64] win1) (h1l:win1.length ≤ 1000000) (hB:w.cell? ⟨B,0,none⟩ = some (.func (.func 143) #[] #[])) :
    Calls Tryz.prog 154 #[.agg #[.slice pa parts.length pc,.slice ca chans.length cc,.int .i64 len0,.slice aa win0.length ac,.int .i64 len1,.slice ba win1.length bc],.pointer (some ⟨B,0,none⟩)] w fun e w' => e = .returned (.bool (holdsP (⟨parts,chans,len0,win0,len1,win1⟩:Cfg) 11)) ∧ Below w.heap.size w w':=by
  have hBw:B < w.heap.size:=by have:=World.block_lt_of_cell? w _ hB;exact this
  have HX:=Lib.hid (show holdsP (⟨parts,chans,len0,win0,len1,win1⟩:Cfg) 11 = chans.any (chanBad parts.length 11) from chansB_any (⟨parts,chans,len0,win0,len1,win1⟩:Cfg) 11)
  have hC:=fun w' (h:Below w.heap.size w w') => contains7_b 143 (chanBad parts.length 11) (enters_of Tryz.func143 (by kernel_rfl) rfl) (fun x0 x1 x2 x3 x4 x5 x6 w => pred11_b x0 x1 x2 x3 x4 x5 x6 w) chans ca cc w' (hc.later h) hcw hcl
  rw [HX.out]
  generalize chans.any (chanBad parts.length 11) = q at hC
  clear HX hp hc h0 h1
  go_enter Tryz.func154,Tryz.ntmps154
  go_wp2_with (go_at_call 155;refine (hC _ ((Below.refl _ _).alloc (Nat.le_refl _) _)).mono ?_;rintro e w' ⟨rfl,hb'⟩)
  go_ret
  exact ⟨rfl,((Below.refl _ _).alloc (Nat.le_refl _) _).trans (hb'.mono (by simp))⟩
end Go.Proofs.YtheeiklgblcjfaaGreatDoor
namespace Go.Proofs.YtheeiklgblcjfaaGreatDoor
open Go.RowKit Go.Sort Go.ChangeShapes Go.WideShapes
set_option linter.unusedVariables false
set_option linter.unusedSimpArgs false
set_option maxRecDepth 100000 in
set_option maxHeartbeats 4000000 in
theorem row6_b (parts chans:List (List Int)) (len0:Int) (win0:List (List Int)) (len1:Int) (win1:List (List Int)) (pa:Option Addr) (pc:Nat) (ca:Option Addr) (cc:Nat) (aa:Option Addr) (ac:Nat) (ba:Option Addr) (bc:Nat) (w:World) (hp:RowN [.i64,.i64] w w.heap.size pa parts) (hpw:wfR [.i64,.i64] parts) (hpl:parts.length ≤ 1000000) (hc:RowN [.i64,.i64,.i64,.i64,.i64,.i64,.u32] w w.heap.size ca chans) (hcw:wfR [.i64,.i64,.i64,.i64,.i64,.i64,.u32] chans) (hcl:chans.length ≤ 1000000) (h0:RowN [.i64,.i64,.i64] w w.heap.size aa win0) (h0w:wfR [.i64,.i64,.i64] win0) (h0l:win0.length ≤ 1000000) (h1:RowN [.i64,.i64,.i64] w w.heap.size ba win1) (h1w:wfR [.i64,.i64,.i64] win1) (h1l:win1.length ≤ 1000000):Calls Tryz.prog 138 #[.agg #[.slice pa parts.length pc,.slice ca chans.length cc,.int .i64 len0,.slice aa win0.length ac,.int .i64 len1,.slice ba win1.length bc]] w fun e w' => e = .returned (.bool (holdsP (⟨parts,chans,len0,win0,len1,win1⟩:Cfg) 6)) ∧ Below w.heap.size w w':=by
  obtain ⟨W,HW,hB,-,bx⟩:=one_cbox w ⟨parts,chans,len0,win0,len1,win1⟩ ⟨pa,pc,ca,cc,aa,ac,ba,bc⟩ 29
  have HB:=Lib.hid hB
  have hp:=hp.later hB;have hc:=hc.later hB;have h0:=h0.later hB;have h1:=h1.later hB
  clear hB
  go_enter Tryz.func138,Tryz.ntmps138
  go_wp2
  go_loopw [8] (fun ix wr => ∃ i:Nat,i ≤ chans.length ∧ ix = .int .i64 i ∧ scan i (fun i => chanBad parts.length 6 (row chans i)) = false ∧ Below W.heap.size W wr) (fun ix _ => chans.length - (intOf ix).toNat)
  case atStart => exact ⟨0,Nat.zero_le _,rfl,rfl,(by rw [← HW.out];exact Below.refl _ _)⟩
  case round =>
    obtain ⟨i,hi,rfl,ht,hbc⟩:=hrel
    have HT:=Lib.hid ht
    obtain ⟨c0,c1,c2,c3,c4,c5⟩:=bx _ hbc
    clear ht
    by_cases hlt:i < chans.length
    · obtain ⟨b,o,x0,x1,x2,x3,x4,x5,x6,e0,_,e1,⟨hw0,hw1,hw2,hw3,hw4,hw5,hw6⟩,k0⟩:=hc.at7 hcw hlt
      subst e0
      have k0:=k0 _ hbc
      obtain ⟨p0,k0⟩:=k0
      obtain ⟨p1,k0⟩:=k0
      obtain ⟨p2,k0⟩:=k0
      obtain ⟨p3,k0⟩:=k0
      obtain ⟨p4,k0⟩:=k0
      obtain ⟨p5,p6⟩:=k0
      have E1:=Lib.hid e1
      clear e1
      obtain ⟨wa,hwa⟩:∃ u,Hid (u = wr.alloc (.cells #[.int .i64 x0,.int .i64 x1,.int .i64 x2,.int .i64 x3,.int .i64 x4,.int .i64 x5,.int .u32 x6] 91)):=⟨_,rfl⟩
      have hba:Below wr.heap.size wr wa:=by rw [hwa.out];exact (Below.refl _ _).alloc (Nat.le_refl _) _
      have hxa:wa.heap[wr.heap.size]? = some (.cells #[.int .i64 x0,.int .i64 x1,.int .i64 x2,.int .i64 x3,.int .i64 x4,.int .i64 x5,.int .u32 x6] 91 (0,0)):=by rw [hwa.out];exact heap_alloc_new _ _
      have hwb:=hbc.trans (hba.mono hbc.size)
      have hla:wr.heap.size < wa.heap.size:=(Array.getElem?_eq_some_iff.1 hxa).1
      obtain ⟨a0,a1,a2,a3,a4,a5⟩:=bx _ hwb
      have q1:=cell_blk hxa (i:=1) rfl
      have HWB:=Lib.hid hwb
      clear hba hwb
      by_cases hA:partB (⟨parts,chans,len0,win0,len1,win1⟩:Cfg) x1 = true
      · have hA':=of_decide_eq_true hA
        have HA:=Lib.hid hA
        clear hA
        go_wp2_with (rw [← hwa.out])
        refine (isPart_is parts chans len0 win0 len1 win1 pa pc (some ⟨b,o,none⟩) cc aa ac ba bc x1 true _ hpl HA.out).mono ?_
        rintro e w5 ⟨rfl,hb5⟩
        have hxb:=(hb5.block _ hla).trans hxa
        have hwb:=HWB.out.trans (hb5.mono HWB.out.size)
        obtain ⟨b0,b1,b2,b3,b4,b5⟩:=bx _ hwb
        have q2:=cell_blk hxb (i:=2) rfl
        have HWB5:=Lib.hid hwb
        clear hwb hxb hb5 a0 a1 a2 a3 a4 a5 q1
        by_cases hC:partB (⟨parts,chans,len0,win0,len1,win1⟩:Cfg) x2 = true
        · have hC':=of_decide_eq_true hC
          have HC:=Lib.hid hC
          clear hC
          go_wp2_with fail
          refine (isPart_is parts chans len0 win0 len1 win1 pa pc (some ⟨b,o,none⟩) cc aa ac ba bc x2 true _ hpl HC.out).mono ?_
          rintro e w6 ⟨rfl,hb6⟩
          have hbc:=HWB5.out.trans (hb6.mono HWB5.out.size)
          have hA2:0 ≤ x1 ∧ x1 < (parts.length:Int):=hA'
          have hC2:0 ≤ x2 ∧ x2 < (parts.length:Int):=hC'
          clear hA' hC'
          have HX:=Lib.hid (show scan (i + 1) (fun i => chanBad parts.length 6 (row chans i)) = false from scan_next HT.out (show chanBad parts.length 6 (row chans i) = false by rw [row_at E1.out];exact (show decide (¬ (0 ≤ x1 ∧ x1 < (parts.length:Int)) ∨ ¬ (0 ≤ x2 ∧ x2 < (parts.length:Int))) = false from decide_eq_false (by omega))))
          go_wp2
          go_roundw
          case rel => exact ⟨i + 1,by omega,by go_num,HX.out,hbc⟩
          case measure => simp [intOf];omega
        · have hC:partB (⟨parts,chans,len0,win0,len1,win1⟩:Cfg) x2 = false:=by simpa using hC
          have hC':=of_decide_eq_false hC
          have HC:=Lib.hid hC
          clear hC
          go_wp2_with fail
          refine (isPart_is parts chans len0 win0 len1 win1 pa pc (some ⟨b,o,none⟩) cc aa ac ba bc x2 false _ hpl HC.out).mono ?_
          rintro e w6 ⟨rfl,hb6⟩
          have hbc:=HWB5.out.trans (hb6.mono HWB5.out.size)
          have hC2:¬ (0 ≤ x2 ∧ x2 < (parts.length:Int)):=hC'
          clear hA' hC'
          have HX:=Lib.hid (show holdsP (⟨parts,chans,len0,win0,len1,win1⟩:Cfg) 6 = true from scan_hit (f:=(fun i => chanBad parts.length 6 (row chans i))) hlt (show chanBad parts.length 6 (row chans i) = true by rw [row_at E1.out];exact (show decide (¬ (0 ≤ x1 ∧ x1 < (parts.length:Int)) ∨ ¬ (0 ≤ x2 ∧ x2 < (parts.length:Int))) = true from decide_eq_true (by omega))))
          go_wp2
          go_ret
          exact ⟨by rw [HX.out];rfl,HB.out.trans (hbc.mono HB.out.size)⟩
      · have hA:partB (⟨parts,chans,len0,win0,len1,win1⟩:Cfg) x1 = false:=by simpa using hA
        have hA':=of_decide_eq_false hA
        have HA:=Lib.hid hA
        clear hA
        go_wp2_with (rw [← hwa.out])
        refine (isPart_is parts chans len0 win0 len1 win1 pa pc (some ⟨b,o,none⟩) cc aa ac ba bc x1 false _ hpl HA.out).mono ?_
        rintro e w5 ⟨rfl,hb5⟩
        have hbc:=HWB.out.trans (hb5.mono HWB.out.size)
        have hA2:¬ (0 ≤ x1 ∧ x1 < (parts.length:Int)):=hA'
        clear hA'
        have HX:=Lib.hid (show holdsP (⟨parts,chans,len0,win0,len1,win1⟩:Cfg) 6 = true from scan_hit (f:=(fun i => chanBad parts.length 6 (row chans i))) hlt (show chanBad parts.length 6 (row chans i) = true by rw [row_at E1.out];exact (show decide (¬ (0 ≤ x1 ∧ x1 < (parts.length:Int)) ∨ ¬ (0 ≤ x2 ∧ x2 < (parts.length:Int))) = true from decide_eq_true (by omega))))
        go_wp2
        go_ret
        exact ⟨by rw [HX.out];rfl,HB.out.trans (hbc.mono HB.out.size)⟩
    · have HS:=Lib.hid (show holdsP (⟨parts,chans,len0,win0,len1,win1⟩:Cfg) 6 = false by have h:=HT.out;rw [show i = chans.length by omega] at h;exact h)
      clear HT
      go_wp2
      go_ret
      exact ⟨by rw [HS.out];rfl,HB.out.trans (hbc.mono HB.out.size)⟩
end Go.Proofs.YtheeiklgblcjfaaGreatDoor
