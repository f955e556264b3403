/- Walks: MapIn of the model. -/
import Derived.Test.YtlejldaennlfaayGreatDoorMo
namespace Go.Proofs.YtlejldaennlfaayGreatDoor.Ms
open Go.RowKit Go.Proofs.YtlejldaennlfaayGreatDoor.Kit Go.Proofs.YtlejldaennlfaayGreatDoor.Mp Go.Proofs.YtlejldaennlfaayGreatDoor.Mm Go.Proofs.YtlejldaennlfaayGreatDoor.App
open Go.Proofs.YtlejldaennlfaayGreatDoor.EndW (endV sideZ isB spec1 l6in_any)
set_option linter.unusedSimpArgs false
set_option linter.unusedVariables false


end Go.Proofs.YtlejldaennlfaayGreatDoor.Ms
