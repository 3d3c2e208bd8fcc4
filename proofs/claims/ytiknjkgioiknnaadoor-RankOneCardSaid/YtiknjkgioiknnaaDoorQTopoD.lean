/- Package topo: Right, Over. -/
import Derived.Test.YtiknjkgioiknnaaDoorQTopoC
namespace Go.Proofs.YtiknjkgioiknnaaDoor
open Go.RowKit Go.Shelf
set_option linter.unusedVariables false
set_option linter.unusedSimpArgs false

end Go.Proofs.YtiknjkgioiknnaaDoor
