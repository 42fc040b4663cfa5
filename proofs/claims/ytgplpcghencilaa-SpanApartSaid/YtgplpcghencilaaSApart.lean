/- SpanApart's walk, given what the library's sort does to a row of its own (SortSays). -/
import Derived.Test.YtgplpcghencilaaApart
namespace Go.Proofs.Ytgplpcghencilaa
open Go.RowKit Go.Sort
set_option maxHeartbeats 800000 in
theorem spanApart_walk (hsort : SortSays) (l : List (Int × Int)) (A : Option Addr) (c : Nat) (w : World) (hrow : PairRow w w.heap.size A l) :
    Calls Try.prog 5 #[.slice A l.length c] w fun e w' => e = .returned (.bool true) ∧ Below w.heap.size w w' := by
  have HSO := Lib.hid hsort
  clear hsort
  have hbc := Below.refl w.heap.size w
  by_cases h60 : (60 : Int) < (l.length : Int)
  · go_enter Try.func5, Try.ntmps5
    go_wp2_with (with_reducible refine wpList_on hbc ?_; (repeat (go_big_quiet_step (first | exact regrown_is (by assumption) (wakes_b _) | exact Calls.regrown_of (wakes_b _) | exact Calls.regrown_of (sapart_b HSO.out l A c _ (by omega) ((hrow.below (below_regrown _ _ _)).more (below_regrown _ _ _).size)) | exact Calls.regrown_of (rapart_b l A c _ (by omega) ((hrow.below (below_regrown _ _ _)).more (below_regrown _ _ _).size))))); with_reducible refine wpQuiet_nil ?_; intro wc hbc)
    go_ret
    exact ⟨by simp, hbc⟩
  · go_enter Try.func5, Try.ntmps5
    go_wp2_with (with_reducible refine wpList_on hbc ?_; (repeat (go_big_quiet_step (first | exact regrown_is (by assumption) (wakes_b _) | exact Calls.regrown_of (wakes_b _) | exact Calls.regrown_of (sapart_b HSO.out l A c _ (by omega) ((hrow.below (below_regrown _ _ _)).more (below_regrown _ _ _).size)) | exact Calls.regrown_of (rapart_b l A c _ (by omega) ((hrow.below (below_regrown _ _ _)).more (below_regrown _ _ _).size))))); with_reducible refine wpQuiet_nil ?_; intro wc hbc)
    go_ret
    exact ⟨by simp, hbc⟩
end Go.Proofs.Ytgplpcghencilaa
