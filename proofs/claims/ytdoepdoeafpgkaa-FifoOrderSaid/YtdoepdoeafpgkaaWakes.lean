/- wakes. No condition but those in the statements. -/
import Derived.Test.YtdoepdoeafpgkaaFifo
import Derived.Test.YtdoepdoeafpgkaaKitI
namespace Go.Proofs.Ytdoepdoeafpgkaa
open Go.RowKit Go.Sort

theorem grow_below {base rb : Nat} {most : Int} {v v' : Value} {xs : List Int} {w0 w w' : World} {B : Nat} (hb : Below B w0 w) (hR : IRow w base rb most v xs) (hM : Moved rb v v' w w') (hB : B ≤ base) : Below B w0 w' :=
  hb.trans ((hM.below hR).mono hB)

set_option maxHeartbeats 800000 in
theorem wakes_b (w : World) : Calls Try.prog 7 #[] w fun e w' => e = .returned (.bool true) ∧ Below w.heap.size w w' := by
  go_enter Try.func7, Try.ntmps7
  go_wp2_with fail
  refine (new_in 2 _ (by omega) (by omega)).mono ?_
  rintro e w1 ⟨rb, rfl, hR, hB⟩
  have HB := Lib.hid hB
  clear hB
  go_wp2_with fail
  refine (put_in _ rb 2 _ [] 1 _ hR (by simp) (by omega)).mono ?_
  rintro e w2 ⟨v2, rfl, hR2, hM2⟩
  have HB2 := Lib.hid (grow_below HB.out hR hM2 (Nat.le_refl _))
  clear hR hM2
  go_wp2_with fail
  refine (put_in _ rb 2 _ [1] 2 _ hR2 (by simp) (by omega)).mono ?_
  rintro e w3 ⟨v3, rfl, hR3, hM3⟩
  have HB3 := Lib.hid (grow_below HB2.out hR2 hM3 (Nat.le_refl _))
  clear hR2 hM3
  go_wp2_with fail
  refine (put_full _ rb 2 _ [1, 2] 3 _ hR3 (by simp)).mono ?_
  rintro e w4 ⟨rfl, hb4⟩
  have hR4 := hR3.keptB hb4
  have HB4 := Lib.hid (HB3.out.trans (hb4.mono HB3.out.size))
  clear hR3 hb4
  go_wp2_with fail
  refine (take_in _ rb 2 _ 1 [2] _ hR4 (by simp)).mono ?_
  rintro e w5 ⟨v5, rfl, hR5, hM5⟩
  have HB5 := Lib.hid (grow_below HB4.out hR4 hM5 (Nat.le_refl _))
  clear hR4 hM5
  go_wp2
  go_ret
  exact ⟨by simp, HB5.out⟩
end Go.Proofs.Ytdoepdoeafpgkaa
