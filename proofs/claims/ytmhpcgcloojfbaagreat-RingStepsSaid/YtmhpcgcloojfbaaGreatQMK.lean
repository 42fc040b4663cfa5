/- Texts of the ring, joined, what is used of them. No condition but those in the statements. -/
import Derived.Test.YtmhpcgcloojfbaaGreatProg
import Derived.BigQuiet
import Derived.IntWalk
import Derived.Laws.EntriesVeiled
import Derived.Laws.StructEq
import Derived.Lib.Hide
import Derived.LoopIn
import Derived.LoopNIn
import Derived.OpenShut
import Derived.OwnWalkIn
import Derived.RangeFuncBound
import Derived.RangeFuncBox
import Derived.RangeFuncCalls
import Derived.RangeFuncLeaves
import Derived.RangeFuncNested
import Derived.Shelf.Abstract
import Derived.Shelf.RegionOpen
import Derived.TacticsInMore
import Derived.Test.YtmhpcgcloojfbaaGreatQAllF
import Derived.Test.YtmhpcgcloojfbaaGreatQLK
import Derived.Test.YtmhpcgcloojfbaaGreatQRK
import Derived.Test.YtmhpcgcloojfbaaGreatQgB
import Derived.Test.YtmhpcgcloojfbaaGreatQgT
namespace Go.Proofs.YtmhpcgcloojfbaaGreat
open Go.RowKit Go.Sort Go.ChangeShapes Go.WideShapes
set_option linter.unusedVariables false
set_option linter.unusedSimpArgs false
def two (x:Int × Int):List Int:=[x.1,x.2]
end Go.Proofs.YtmhpcgcloojfbaaGreat
namespace Go.Proofs.YtmhpcgcloojfbaaGreat
open Go.RowKit Go.Sort Go.Shelf
set_option linter.unusedVariables false
set_option linter.unusedSimpArgs false
set_option linter.unusedVariables false
attribute [local go_sem] Oper.semAt_some
end Go.Proofs.YtmhpcgcloojfbaaGreat
namespace Go.Proofs.YtmhpcgcloojfbaaGreat
open Go.RowKit Go.Sort Go.Shelf
set_option linter.unusedVariables false
set_option linter.unusedSimpArgs false
set_option linter.unusedVariables false
attribute [local go_sem] Oper.semAt_some
end Go.Proofs.YtmhpcgcloojfbaaGreat
namespace Go.Proofs.YtmhpcgcloojfbaaGreat
open Go.RowKit Go.Sort Go.Shelf
set_option linter.unusedVariables false
set_option linter.unusedSimpArgs false
set_option linter.unusedVariables false
attribute [local go_sem] Oper.semAt_some
end Go.Proofs.YtmhpcgcloojfbaaGreat
