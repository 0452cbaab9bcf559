/- eqNearS of the laws. -/
import Derived.Test.YtkonckgapicdfaaHC
namespace Go.Proofs.Ytkonckgapicdfaa
open Go.RowKit
set_option maxRecDepth 8000
set_option linter.unusedSimpArgs false
set_option linter.unusedVariables false









end Go.Proofs.Ytkonckgapicdfaa