/- The play: write. No condition but those in the statements. The play: read. No condition but those in the statements. -/
import Derived.Test.YtocdidkfnbkkhaaGreatFPwA
import Derived.Test.YtocdidkfnbkkhaaGreatFPwB
import Derived.BigQuiet
import Derived.IntWalk
import Derived.Deep.MidRow
import Derived.Deep.Upon
import Derived.BigRegion
import Derived.Deep.RegionHeld3
import Derived.Test.YtocdidkfnbkkhaaGreatFPrA
import Derived.Test.YtocdidkfnbkkhaaGreatFPrB
namespace Go.Proofs.YtocdidkfnbkkhaaGreat
open Go.RowKit Go.Sort
set_option linter.unusedVariables false
set_option linter.unusedSimpArgs false
set_option linter.unusedVariables false
set_option linter.unusedSimpArgs false
open Go.Proofs.YtocdidkfnbkkhaaGreat.Simp
set_option maxRecDepth 100000
set_option maxHeartbeats 12800000
section
variable {W w w' : World} {E : Nat → Prop} {pb mb rb N K wq rq : Nat} {per : Int} {x : CfgAt} {P : Pl}
theorem PAt.more (h : PAt W w E pb mb rb N per x (K) (P) wq rq) : PAt W w E pb mb rb N per x (K + 1) (P) wq rq := by
  obtain ⟨l1, l2, l3, l4, l5, l6⟩ := h.lim
  exact ⟨h.blk, h.duo, h.pe, h.cfg, h.nn, l1, by omega, l3, by omega, l5, by omega⟩
theorem write_b (now : Int) (h : PAt W w E pb mb rb N per x (K) (P) wq rq) (hK : K ≤ 90000)  : Calls Tryz.prog 22 #[.pointer (some ⟨pb, 0, none⟩), .int .i64 now] w (WroteW W w E pb mb rb N per x (K + 2) (playW N per P now) rq) := by
  cases hw : P.w with
  | none => exact writeN_b now h hK hw
  | some s => exact writeS_b now h hK hw
end
end Go.Proofs.YtocdidkfnbkkhaaGreat

namespace Go.Proofs.YtocdidkfnbkkhaaGreat
open Go.RowKit Go.Sort
set_option linter.unusedVariables false
set_option linter.unusedSimpArgs false
set_option linter.unusedVariables false
set_option linter.unusedSimpArgs false
open Go.Proofs.YtocdidkfnbkkhaaGreat.Simp
set_option maxRecDepth 100000
set_option maxHeartbeats 12800000
section
variable {W w w' : World} {E : Nat → Prop} {pb mb rb N K wq rq : Nat} {per : Int} {x : CfgAt} {P : Pl}
theorem read_b (now : Int) (hnow : 0 ≤ now ∧ now ≤ 1000000000000) (h : PAt W w E pb mb rb N per x (K) (P) wq rq) (hK : K ≤ 90000) (hok : (playR N per P now).2 = true)  : Calls Tryz.prog 23 #[.pointer (some ⟨pb, 0, none⟩), .int .i64 now] w fun e w' => e = .returned (.bool true) ∧ ∃ rq', PAt W w' E pb mb rb N per x (K + 1) ((playR N per P now).1) wq rq' ∧ Only (fun k => (¬ E k ∨ k = pb) ∧ W.heap.size ≤ k) w w' := by
  cases hr : P.r with
  | none => exact readN_b now hnow h hK hok hr
  | some s => exact readS_b now hnow h hK hok hr
end
end Go.Proofs.YtocdidkfnbkkhaaGreat
