/- Bounds of the model: the ends. -/
import Derived.Test.YtldfpkcdoppphaaBI
import Derived.Deep.DeepCutAuto
namespace Go.Proofs.Ytldfpkcdoppphaa
open Go.RowKit
set_option linter.unusedSimpArgs false
set_option linter.unusedVariables false

end Go.Proofs.Ytldfpkcdoppphaa