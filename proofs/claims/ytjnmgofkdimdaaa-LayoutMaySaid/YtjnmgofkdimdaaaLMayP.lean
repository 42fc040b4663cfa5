/- Who may change an address, in plain lists. No condition but those in the statements. -/
import Derived.Test.YtjnmgofkdimdaaaLIt
import Derived.Test.YtjnmgofkdimdaaaOneApart
import Derived.Test.YtjnmgofkdimdaaaSameE
import Derived.BigQuiet
namespace Go.Proofs.Ytjnmgofkdimdaaa
open Go.RowKit Go.Sort Go.ChangeShapes Go.WideShapes
set_option linter.unusedVariables false
set_option linter.unusedSimpArgs false

/-- Has a span, told by two numbers, the address? -/
def hasS (x : Int × Int) (a : Int) : Bool := One.hasB x.1 x.2 a
/-- By channel k: may p change the address? -/
def chMay (c : Cfg) (p a : Int) (k : Nat) : Bool := (decide (fld (row c.chans k) 1 = p) && hasS (srcSpan c (k : Int)) a) || (decide (fld (row c.chans k) 2 = p) && hasS (dstSpan c (k : Int)) a)
def mayB (c : Cfg) (p a : Int) : Bool := hasS (privSpan c p) a || scan c.chans.length (chMay c p a)
theorem hasS_zero (a : Int) : hasS (0, 0) a = false := by
  unfold hasS One.hasB One.rightB
  simp
theorem may_not {c : Cfg} (hq : acceptsB c = false) (p a : Int) : mayB c p a = false := by
  unfold mayB
  rw [show privSpan c p = (0, 0) from if_neg (fun h => by rw [hq] at h; cases h.1), hasS_zero, Bool.false_or]
  refine scan_false.2 fun k _ => ?_
  unfold chMay
  rw [show srcSpan c (k : Int) = (0, 0) from if_neg (by unfold chanB; rw [hq]; simp), show dstSpan c (k : Int) = (0, 0) from if_neg (by unfold chanB; rw [hq]; simp), hasS_zero]
  simp
/-- The program's: its loop goes through the spans that there are. -/
theorem may_sr (c : Cfg) (p a : Int) : (hasS (privSpan c p) a || scan (SR c).length (chMay c p a)) = mayB c p a := by
  cases hq : acceptsB c with
  | false =>
    rw [may_not hq, show SR c = [] from if_neg (by rw [hq]; decide), show privSpan c p = (0, 0) from if_neg (fun h => by rw [hq] at h; cases h.1), hasS_zero]
    rfl
  | true => rw [show SR c = srL c c.chans.length from if_pos hq, srL_len]; rfl
theorem scan_true {n : Nat} {f : Nat → Bool} {k : Nat} (hk : k < n) (h : f k = true) : scan n f = true := by
  unfold scan
  exact List.any_eq_true.2 ⟨k, List.mem_range.2 hk, h⟩
theorem scan_no {n : Nat} {f : Nat → Bool} (h : ∀ k, k < n → f k = false) : scan n f = false := scan_false.2 h
end Go.Proofs.Ytjnmgofkdimdaaa
