/- Package topo: Right, Over. -/
import Derived.Test.YthjnhigcheakaaaDoorQTopoC
namespace Go.Proofs.YthjnhigcheakaaaDoor
open Go.RowKit Go.Shelf
set_option linter.unusedVariables false
set_option linter.unusedSimpArgs false

end Go.Proofs.YthjnhigcheakaaaDoor
