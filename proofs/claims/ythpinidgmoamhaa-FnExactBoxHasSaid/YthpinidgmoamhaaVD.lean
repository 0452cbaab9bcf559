/- The walk of the law FnExactVecOk. -/
import Derived.Test.YthpinidgmoamhaaVC
import Derived.Test.YthpinidgmoamhaaVA
import Derived.Test.YthpinidgmoamhaaVD0
namespace Go.Proofs.Ythpinidgmoamhaa
open Go.RowKit
set_option linter.unusedVariables false

end Go.Proofs.Ythpinidgmoamhaa