/- Contracts of the laws' small functions over ranges: toRange, eqRange. -/
import Derived.Test.YtpbehhanccodeaaWB
namespace Go.Proofs.Ytpbehhanccodeaa
open Go.RowKit
set_option maxRecDepth 8000
set_option linter.unusedSimpArgs false





end Go.Proofs.Ytpbehhanccodeaa
