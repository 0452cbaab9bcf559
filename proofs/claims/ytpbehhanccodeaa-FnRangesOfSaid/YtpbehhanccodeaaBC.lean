/- eqRangeS of the laws. -/
import Derived.Test.YtpbehhanccodeaaBB
namespace Go.Proofs.Ytpbehhanccodeaa
open Go.RowKit
set_option maxRecDepth 8000
set_option linter.unusedSimpArgs false
set_option linter.unusedVariables false









end Go.Proofs.Ytpbehhanccodeaa