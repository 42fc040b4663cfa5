/- SignWords answers true. No condition but those in the statements. -/
import Derived.Test.YtnemabgenaijhaaDoorSWakes
import Derived.BigQuiet
import Derived.IntWalk
namespace Go.Proofs.YtnemabgenaijhaaDoor
open Go.RowKit Go.Sort Go.ChangeShapes Go.WideShapes
set_option linter.unusedVariables false
set_option linter.unusedSimpArgs false

set_option maxRecDepth 100000 in
set_option maxHeartbeats 1600000 in
theorem lwords_b (s : ByteArray) (op : Int) (w : World) (hT : TabsAt w) (hs : s.size ≤ maxLen) : Calls Tryd.prog 3 #[.string s, .int .i64 op] w fun e w' => e = .returned (.bool true) ∧ Below w.heap.size w w' := by
  go_enter Tryd.func3, Tryd.ntmps3
  go_wp2_with fail
  refine (wakes10_b w hT ).mono ?_
  rintro e w1 ⟨rfl, hb1⟩
  have H1 := Lib.hid hb1
  clear hb1
  by_cases hg : (100 : Int) < (s.size : Int)
  · go_wp2
    go_ret
    exact ⟨rfl, H1.out⟩
  have hgd : decide ((100 : Int) < (s.size : Int)) = false := decide_eq_false hg
  obtain ⟨k, hk⟩ : ∃ k, opN s = k := ⟨_, rfl⟩
  obtain ⟨y, hy⟩ : ∃ y, nameS op = y := ⟨_, rfl⟩
  have hr := rop_b s
  rw [hk] at hr
  have HK := Lib.hid hk; have HY := Lib.hid hy; have HR := Lib.hid hr
  clear hk hy hr
  go_wp2_with fail
  refine (pop_is s k w1 (hT.later H1.out) HK.out).mono ?_
  rintro e w2 ⟨rfl, hb2⟩
  have H2 := Lib.hid (H1.out.trans (hb2.mono H1.out.size))
  clear hb2
  go_wp2_with fail
  refine (HR.out w2).mono ?_
  rintro e w3 ⟨rfl, rfl⟩
  go_wp2_with fail
  refine (pname_is op y w2 (hT.later H2.out) HY.out).mono ?_
  rintro e w4 ⟨rfl, hb4⟩
  have H4 := Lib.hid (H2.out.trans (hb4.mono H2.out.size))
  clear hb4
  go_wp2_with fail
  refine (rname_is op y w4 HY.out).mono ?_
  rintro e w5 ⟨rfl, rfl⟩
  go_wp2
  go_ret
  exact ⟨by first | rfl | simp, H4.out⟩
end Go.Proofs.YtnemabgenaijhaaDoor
