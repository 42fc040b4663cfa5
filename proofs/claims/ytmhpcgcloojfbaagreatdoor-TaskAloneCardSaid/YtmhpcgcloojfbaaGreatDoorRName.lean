/- The document's Name, Op, as contracts. No condition but those in the statements. -/
import Derived.Test.YtmhpcgcloojfbaaGreatDoorSig
import Derived.Test.YtmhpcgcloojfbaaGreatDoorProg
import Derived.IntWalk
namespace Go.Proofs.YtmhpcgcloojfbaaGreatDoor
open Go.RowKit Go.Sort
set_option linter.unusedVariables false
set_option linter.unusedSimpArgs false
set_option linter.unusedVariables false
set_option linter.unusedSimpArgs false

end Go.Proofs.YtmhpcgcloojfbaaGreatDoor
