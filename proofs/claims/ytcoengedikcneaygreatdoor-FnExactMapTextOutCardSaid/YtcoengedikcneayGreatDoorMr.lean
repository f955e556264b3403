/- Walks: MapIn of the model. -/
import Derived.Test.YtcoengedikcneayGreatDoorMo
namespace Go.Proofs.YtcoengedikcneayGreatDoor.Ms
open Go.RowKit Go.Proofs.YtcoengedikcneayGreatDoor.Kit Go.Proofs.YtcoengedikcneayGreatDoor.Mp Go.Proofs.YtcoengedikcneayGreatDoor.Mm Go.Proofs.YtcoengedikcneayGreatDoor.App
open Go.Proofs.YtcoengedikcneayGreatDoor.EndW (endV sideZ isB spec1 l6in_any)
set_option linter.unusedSimpArgs false
set_option linter.unusedVariables false


end Go.Proofs.YtcoengedikcneayGreatDoor.Ms
