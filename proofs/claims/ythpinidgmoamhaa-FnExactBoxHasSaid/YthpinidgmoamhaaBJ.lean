/- Bounds of the model: the ends. -/
import Derived.Test.YthpinidgmoamhaaBI
import Derived.Deep.DeepCutAuto
namespace Go.Proofs.Ythpinidgmoamhaa
open Go.RowKit
set_option linter.unusedSimpArgs false
set_option linter.unusedVariables false

end Go.Proofs.Ythpinidgmoamhaa