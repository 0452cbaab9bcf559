/- Contracts of the laws' small functions over ranges: toRange, eqRange. -/
import Derived.Test.YtnblahppkfbhdaaWB
namespace Go.Proofs.Ytnblahppkfbhdaa
open Go.RowKit
set_option linter.unusedSimpArgs false





end Go.Proofs.Ytnblahppkfbhdaa
