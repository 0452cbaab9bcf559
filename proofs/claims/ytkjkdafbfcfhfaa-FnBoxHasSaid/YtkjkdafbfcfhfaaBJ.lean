/- Bounds of the model: the ends. -/
import Derived.Test.YtkjkdafbfcfhfaaBI
import Derived.Deep.DeepCutAuto
namespace Go.Proofs.Ytkjkdafbfcfhfaa
open Go.RowKit
set_option linter.unusedSimpArgs false
set_option linter.unusedVariables false

end Go.Proofs.Ytkjkdafbfcfhfaa