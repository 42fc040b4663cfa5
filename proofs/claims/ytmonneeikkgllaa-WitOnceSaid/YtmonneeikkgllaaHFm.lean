/- hist's marked and saw, the document's one and before, as contracts. No condition but those in the statements. -/
import Derived.Test.YtmonneeikkgllaaHFn
import Derived.BigQuiet
import Derived.IntWalk
import Derived.BigRegion
import Derived.OpenShut
import Derived.Deep.MidRow

namespace Go.Proofs.Ytmonneeikkgllaa
open Go.RowKit Go.Sort Go.ChangeShapes Go.WideShapes
set_option linter.unusedVariables false
set_option linter.unusedSimpArgs false


end Go.Proofs.Ytmonneeikkgllaa
