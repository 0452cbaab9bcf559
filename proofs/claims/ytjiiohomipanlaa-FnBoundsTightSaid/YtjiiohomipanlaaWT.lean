/- Contracts of the laws' small functions over ranges: toRange, eqRange. -/
import Derived.Test.YtjiiohomipanlaaWB
namespace Go.Proofs.Ytjiiohomipanlaa
open Go.RowKit
set_option linter.unusedSimpArgs false





end Go.Proofs.Ytjiiohomipanlaa
