/- Two partitions, a sampling channel: who may change what. No condition but those in the statements. -/
import Derived.Test.YtocdidkfnbkkhaaGreatMK
import Derived.Test.YtocdidkfnbkkhaaGreatGF
namespace Go.Proofs.YtocdidkfnbkkhaaGreat
open Go.RowKit Go.Sort
set_option linter.unusedVariables false
set_option linter.unusedSimpArgs false
set_option linter.unusedVariables false
set_option linter.unusedSimpArgs false
section
variable {n per : Int} (h1 : 1 ≤ n) (h2 : n ≤ 16) (h3 : 0 ≤ per) (h4 : per ≤ 1048576)
include h1 h2 h3 h4
/-- Who may change what: the first one its own word and the source's, the second one the destination's word. -/
theorem cfg2_may0 {a : Int} (ha : 1 ≤ a) (hb : a < 12 + 4 * n) : mayB (cfg2 n per) 0 a = true := by
  have hs := cfg2_src h1 h2 h3 h4
  have hc : chMay (cfg2 n per) 0 a 0 = true := by
    unfold chMay
    rw [show ((0 : Nat) : Int) = 0 from rfl, hs]
    have : hasS (1, 11 + 4 * n) a = true := by
      unfold hasS One.hasB One.rightB
      simp
      omega
    rw [this]; rfl
  unfold mayB
  rw [show (cfg2 n per).chans.length = 1 from rfl, scan_true (k := 0) (by decide) hc, Bool.or_true]
theorem cfg2_may1 : mayB (cfg2 n per) 1 (12 + 4 * n) = true := by
  have hd := cfg2_dst h1 h2 h3 h4
  have hc : chMay (cfg2 n per) 1 (12 + 4 * n) 0 = true := by
    unfold chMay
    rw [show ((0 : Nat) : Int) = 0 from rfl, hd]
    have : hasS (12 + 4 * n, 1) (12 + 4 * n) = true := by
      unfold hasS One.hasB One.rightB
      simp
      omega
    rw [this, Bool.or_eq_true]; exact .inr rfl
  unfold mayB
  rw [show (cfg2 n per).chans.length = 1 from rfl, scan_true (k := 0) (by decide) hc, Bool.or_true]
end
end Go.Proofs.YtocdidkfnbkkhaaGreat
