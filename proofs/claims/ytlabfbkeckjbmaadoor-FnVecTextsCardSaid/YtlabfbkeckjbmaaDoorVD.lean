/- The walk of the law FnExactVecOk. -/
import Derived.Test.YtlabfbkeckjbmaaDoorVC
import Derived.Test.YtlabfbkeckjbmaaDoorVA
import Derived.Test.YtlabfbkeckjbmaaDoorVD0
namespace Go.Proofs.YtlabfbkeckjbmaaDoor
open Go.RowKit
set_option maxRecDepth 8000
set_option linter.unusedVariables false

end Go.Proofs.YtlabfbkeckjbmaaDoor