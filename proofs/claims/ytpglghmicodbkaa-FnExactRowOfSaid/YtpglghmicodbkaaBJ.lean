/- Bounds of the model: the ends. -/
import Derived.Test.YtpglghmicodbkaaBI
import Derived.Deep.DeepCutAuto
namespace Go.Proofs.Ytpglghmicodbkaa
open Go.RowKit
set_option linter.unusedSimpArgs false
set_option linter.unusedVariables false

end Go.Proofs.Ytpglghmicodbkaa