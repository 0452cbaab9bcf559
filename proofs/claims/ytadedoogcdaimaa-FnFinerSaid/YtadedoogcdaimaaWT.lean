/- Contracts of the laws' small functions over ranges: toRange, eqRange. -/
import Derived.Test.YtadedoogcdaimaaWB
namespace Go.Proofs.Ytadedoogcdaimaa
open Go.RowKit
set_option linter.unusedSimpArgs false





end Go.Proofs.Ytadedoogcdaimaa
