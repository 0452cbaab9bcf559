/- Contracts of ranges, more: RangeLeq. -/
import Derived.Test.YtadedoogcdaimaaWB
namespace Go.Proofs.Ytadedoogcdaimaa
open Go.RowKit
set_option linter.unusedSimpArgs false



end Go.Proofs.Ytadedoogcdaimaa