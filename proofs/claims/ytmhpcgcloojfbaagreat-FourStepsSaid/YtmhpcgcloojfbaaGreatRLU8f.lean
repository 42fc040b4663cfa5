/- Texts of the ring, joined, what is used of them. No condition but those in the statements. -/
import Derived.BigQuiet
import Derived.BigRegion
import Derived.Deep.MidRow
import Derived.Deep.RegionHeld3
import Derived.Deep.Upon
import Derived.IntWalk
import Derived.Shelf.Abstract
import Derived.Test.YtmhpcgcloojfbaaGreatRLFSteps
import Derived.Test.YtmhpcgcloojfbaaGreatRgN
namespace Go.Proofs.YtmhpcgcloojfbaaGreat
open Go.RowKit Go.Sort
set_option linter.unusedVariables false
set_option linter.unusedSimpArgs false
set_option linter.unusedVariables false
set_option linter.unusedSimpArgs false
open Go.Proofs.YtmhpcgcloojfbaaGreat.Simp
set_option maxRecDepth 100000
set_option maxHeartbeats 12800000
theorem u8_wfF {l:List Int} (h:∀ q ∈ l,(Lit.int .u8 q).wf = true) (j:Nat):0 ≤ l.getD j 0 ∧ l.getD j 0 ≤ 255:=by
  by_cases hj:j < l.length
  · have:=h (l.getD j 0) (by rw [List.getD_eq_getElem?_getD,List.getElem?_eq_getElem hj];exact List.getElem_mem hj)
    exact u8_in11 this
  · rw [List.getD_eq_getElem?_getD,List.getElem?_eq_none (by omega)];decide
end Go.Proofs.YtmhpcgcloojfbaaGreat
