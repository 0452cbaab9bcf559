/- Bounds of the model: the ends. -/
import Derived.Test.YtfbigielooemaaaBI
import Derived.Deep.DeepCutAuto
namespace Go.Proofs.Ytfbigielooemaaa
open Go.RowKit
set_option linter.unusedSimpArgs false
set_option linter.unusedVariables false

end Go.Proofs.Ytfbigielooemaaa