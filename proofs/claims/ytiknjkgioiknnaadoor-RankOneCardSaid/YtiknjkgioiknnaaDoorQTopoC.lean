/- Package topo: the first exit whose overlap is none, the rules, Check, Right, Over. -/
import Derived.Test.YtiknjkgioiknnaaDoorQTopoA
import Derived.Test.YtiknjkgioiknnaaDoorQTopoB
namespace Go.Proofs.YtiknjkgioiknnaaDoor
open Go.RowKit Go.Shelf
set_option linter.unusedVariables false
set_option linter.unusedSimpArgs false

end Go.Proofs.YtiknjkgioiknnaaDoor
