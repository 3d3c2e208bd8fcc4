/- Put again: the room of what it hands back. -/
import Derived.Test.YtegflmaobmibnaaGreatDoorQPlanH
namespace Go.Proofs.YtegflmaobmibnaaGreatDoor
set_option maxRecDepth 100000
open Go.RowKit Go.Shelf
set_option linter.unusedVariables false
set_option linter.unusedSimpArgs false
attribute [local go_sem] Oper.semAt_some

end Go.Proofs.YtegflmaobmibnaaGreatDoor
