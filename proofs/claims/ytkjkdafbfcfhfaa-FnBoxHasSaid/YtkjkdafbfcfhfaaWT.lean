/- Contracts of the laws' small functions over ranges: toRange, eqRange. -/
import Derived.Test.YtkjkdafbfcfhfaaWB
namespace Go.Proofs.Ytkjkdafbfcfhfaa
open Go.RowKit
set_option linter.unusedSimpArgs false





end Go.Proofs.Ytkjkdafbfcfhfaa
