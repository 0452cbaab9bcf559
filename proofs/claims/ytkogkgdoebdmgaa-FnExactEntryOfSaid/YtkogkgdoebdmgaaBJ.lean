/- Bounds of the model: the ends. -/
import Derived.Test.YtkogkgdoebdmgaaBI
import Derived.Deep.DeepCutAuto
namespace Go.Proofs.Ytkogkgdoebdmgaa
open Go.RowKit
set_option linter.unusedSimpArgs false
set_option linter.unusedVariables false

end Go.Proofs.Ytkogkgdoebdmgaa