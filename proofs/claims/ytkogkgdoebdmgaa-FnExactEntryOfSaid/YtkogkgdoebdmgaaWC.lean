/- Contracts of ranges, more: RangeLeq. -/
import Derived.Test.YtkogkgdoebdmgaaWB
namespace Go.Proofs.Ytkogkgdoebdmgaa
open Go.RowKit
set_option linter.unusedSimpArgs false



end Go.Proofs.Ytkogkgdoebdmgaa