/- Texts of the ring, joined, what is used of them. No condition but those in the statements. -/
import Derived.Test.YtjfolhkblbakiaaGreatDoorProg
import Derived.BigQuiet
import Derived.IntWalk
import Derived.Laws.EntriesVeiled
import Derived.Laws.StructEq
import Derived.Lib.Hide
import Derived.LoopIn
import Derived.LoopNIn
import Derived.OpenShut
import Derived.OwnWalkIn
import Derived.RangeFuncBound
import Derived.RangeFuncBox
import Derived.RangeFuncCalls
import Derived.RangeFuncLeaves
import Derived.RangeFuncNested
import Derived.Shelf.Abstract
import Derived.Shelf.RegionOpen
import Derived.TacticsInMore
import Derived.Test.YtjfolhkblbakiaaGreatDoorQAllF
import Derived.Test.YtjfolhkblbakiaaGreatDoorQLK
import Derived.Test.YtjfolhkblbakiaaGreatDoorQRK
import Derived.Test.YtjfolhkblbakiaaGreatDoorQgB
import Derived.Test.YtjfolhkblbakiaaGreatDoorQgT
namespace Go.Proofs.YtjfolhkblbakiaaGreatDoor
namespace One
/-- Is a span right? -/
def rightB (f s:Int):Bool:=decide (0 ≤ f ∧ f ≤ 2147483647 ∧ 0 ≤ s ∧ s ≤ 2147483647 - f)
/-- Has it that address? -/
def hasB (f s x:Int):Bool:=rightB f s && decide (f ≤ x ∧ x < f + s)
theorem rightB_yes {f s:Int}:rightB f s = true ↔ 0 ≤ f ∧ f ≤ 2147483647 ∧ 0 ≤ s ∧ s ≤ 2147483647 - f:=by
  unfold rightB;exact decide_eq_true_iff
theorem rightB_no {f s:Int}:rightB f s = false ↔ ¬ (0 ≤ f ∧ f ≤ 2147483647 ∧ 0 ≤ s ∧ s ≤ 2147483647 - f):=by
  unfold rightB;exact decide_eq_false_iff_not
theorem hasB_yes {f s x:Int}:hasB f s x = true ↔ (0 ≤ f ∧ f ≤ 2147483647 ∧ 0 ≤ s ∧ s ≤ 2147483647 - f) ∧ f ≤ x ∧ x < f + s:=by
  unfold hasB;rw [Bool.and_eq_true,rightB_yes,decide_eq_true_iff]
end One
end Go.Proofs.YtjfolhkblbakiaaGreatDoor
namespace Go.Proofs.YtjfolhkblbakiaaGreatDoor
namespace One
open Go.RowKit Go.Sort
set_option linter.unusedVariables false
set_option linter.unusedSimpArgs false
theorem right_b (f s:Int) (w:World) :
    Calls Tryz.prog 179 #[.agg #[.int .i64 f,.int .i64 s]] w fun e w' => e = .returned (.bool (rightB f s)) ∧ Below w.heap.size w w':=by
  by_cases h1:0 ≤ f
  · by_cases h2:f ≤ 2147483647
    · by_cases h3:0 ≤ s
      · by_cases h4:s ≤ 2147483647 - f
        · rw [rightB_yes.2 ⟨h1,h2,h3,by omega⟩]
          go_enter Tryz.func179,Tryz.ntmps179
          go_wp2
          go_ret
          exact ⟨rfl,(Below.refl _ _).alloc (Nat.le_refl _) _⟩
        · rw [rightB_no.2 (by omega)]
          go_enter Tryz.func179,Tryz.ntmps179
          go_wp2
          go_ret
          exact ⟨rfl,(Below.refl _ _).alloc (Nat.le_refl _) _⟩
      · rw [rightB_no.2 (by omega)]
        go_enter Tryz.func179,Tryz.ntmps179
        go_wp2
        go_ret
        exact ⟨rfl,(Below.refl _ _).alloc (Nat.le_refl _) _⟩
    · rw [rightB_no.2 (by omega)]
      go_enter Tryz.func179,Tryz.ntmps179
      go_wp2
      go_ret
      exact ⟨rfl,(Below.refl _ _).alloc (Nat.le_refl _) _⟩
  · rw [rightB_no.2 (by omega)]
    go_enter Tryz.func179,Tryz.ntmps179
    go_wp2
    go_ret
    exact ⟨rfl,(Below.refl _ _).alloc (Nat.le_refl _) _⟩
theorem end_b (f s:Int) (w:World) (h:rightB f s = true) :
    Calls Tryz.prog 180 #[.agg #[.int .i64 f,.int .i64 s]] w fun e w' => e = .returned (.int .i64 (f + s)) ∧ Below w.heap.size w w':=by
  obtain ⟨h1,h2,h3,h4⟩:=rightB_yes.1 h
  clear h
  go_enter Tryz.func180,Tryz.ntmps180
  go_wp2
  go_ret
  exact ⟨rfl,(Below.refl _ _).alloc (Nat.le_refl _) _⟩
theorem has_b (f s x:Int) (w:World) :
    Calls Tryz.prog 164 #[.agg #[.int .i64 f,.int .i64 s],.int .i64 x] w fun e w' => e = .returned (.bool (hasB f s x)) ∧ Below w.heap.size w w':=by
  obtain ⟨W,HW,hbw,hsz,k0,k1⟩:=one_box w (.int .i64 f) (.int .i64 s) 135
  by_cases hr:rightB f s = true
  · by_cases h0:f ≤ x
    · rw [show hasB f s x = decide (x < f + s) by unfold hasB;simp [hr,h0]]
      go_enter Tryz.func164,Tryz.ntmps164
      have hbc:=Below.refl W.heap.size W
      go_wp2_with ((try rw [← HW.out]);(first | with_reducible refine wpList_on hbc ?_ | with_reducible refine wp_on hbc (by kernel_rfl) (by kernel_rfl) ?_);(repeat (go_big_quiet_step (first | exact regrown_is (by assumption) (right_b _ _ _) | exact Calls.regrown_of (right_b _ _ _) | exact Calls.regrown_of (end_b _ _ _ (by assumption)))));with_reducible refine wpQuiet_nil ?_;intro wc hbc)
      go_ret
      exact ⟨by simp [*],hbw.trans (hbc.mono (by omega))⟩
    · rw [(bool_of hasB_yes).2 (by omega)]
      have h0':decide (f ≤ x) = false:=by simpa using h0
      go_enter Tryz.func164,Tryz.ntmps164
      have hbc:=Below.refl W.heap.size W
      go_wp2_with ((try rw [← HW.out]);(first | with_reducible refine wpList_on hbc ?_ | with_reducible refine wp_on hbc (by kernel_rfl) (by kernel_rfl) ?_);(repeat (go_big_quiet_step (first | exact regrown_is (by assumption) (right_b _ _ _) | exact Calls.regrown_of (right_b _ _ _) | exact Calls.regrown_of (end_b _ _ _ (by assumption)))));with_reducible refine wpQuiet_nil ?_;intro wc hbc)
      go_ret
      exact ⟨by simp [*],hbw.trans (hbc.mono (by omega))⟩
  · have hr':rightB f s = false:=by simpa using hr
    rw [show hasB f s x = false by unfold hasB;simp [hr']]
    go_enter Tryz.func164,Tryz.ntmps164
    have hbc:=Below.refl W.heap.size W
    go_wp2_with ((try rw [← HW.out]);(first | with_reducible refine wpList_on hbc ?_ | with_reducible refine wp_on hbc (by kernel_rfl) (by kernel_rfl) ?_);(repeat (go_big_quiet_step (first | exact regrown_is (by assumption) (right_b _ _ _) | exact Calls.regrown_of (right_b _ _ _) | exact Calls.regrown_of (end_b _ _ _ (by assumption)))));with_reducible refine wpQuiet_nil ?_;intro wc hbc)
    go_ret
    exact ⟨by simp [*],hbw.trans (hbc.mono (by omega))⟩
end One
end Go.Proofs.YtjfolhkblbakiaaGreatDoor
namespace Go.Proofs.YtjfolhkblbakiaaGreatDoor
open Go.RowKit Go.Sort Go.ChangeShapes Go.WideShapes
set_option linter.unusedVariables false
set_option linter.unusedSimpArgs false
/-- A span's two numbers,and back. -/
def pr (x:List Int):Int × Int:=(fld x 0,fld x 1)
end Go.Proofs.YtjfolhkblbakiaaGreatDoor
namespace Go.Proofs.YtjfolhkblbakiaaGreatDoor
open Go.RowKit Go.Sort Go.Shelf
set_option linter.unusedVariables false
set_option linter.unusedSimpArgs false
set_option linter.unusedVariables false
attribute [local go_sem] Oper.semAt_some
end Go.Proofs.YtjfolhkblbakiaaGreatDoor
namespace Go.Proofs.YtjfolhkblbakiaaGreatDoor
open Go.RowKit Go.Sort Go.Shelf
set_option linter.unusedVariables false
set_option linter.unusedSimpArgs false
set_option linter.unusedVariables false
attribute [local go_sem] Oper.semAt_some
end Go.Proofs.YtjfolhkblbakiaaGreatDoor
namespace Go.Proofs.YtjfolhkblbakiaaGreatDoor
open Go.RowKit Go.Sort Go.Shelf
set_option linter.unusedVariables false
set_option linter.unusedSimpArgs false
set_option linter.unusedVariables false
attribute [local go_sem] Oper.semAt_some
end Go.Proofs.YtjfolhkblbakiaaGreatDoor
