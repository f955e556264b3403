/- Walks: MapIn of the model. -/
import Derived.Test.YtlejldaennlfaadGreatDoorMo
namespace Go.Proofs.YtlejldaennlfaadGreatDoor.Ms
open Go.RowKit Go.Proofs.YtlejldaennlfaadGreatDoor.Kit Go.Proofs.YtlejldaennlfaadGreatDoor.Mp Go.Proofs.YtlejldaennlfaadGreatDoor.Mm Go.Proofs.YtlejldaennlfaadGreatDoor.App
open Go.Proofs.YtlejldaennlfaadGreatDoor.EndW (endV sideZ isB spec1 l6in_any)
set_option linter.unusedSimpArgs false
set_option linter.unusedVariables false


end Go.Proofs.YtlejldaennlfaadGreatDoor.Ms
