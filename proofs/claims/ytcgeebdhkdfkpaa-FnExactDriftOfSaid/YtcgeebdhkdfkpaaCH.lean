/- Cells of the model: CellOf. -/
import Derived.Test.YtcgeebdhkdfkpaaCG
namespace Go.Proofs.Ytcgeebdhkdfkpaa
open Go.RowKit
set_option maxRecDepth 8000
set_option linter.unusedSimpArgs false
set_option linter.unusedVariables false



end Go.Proofs.Ytcgeebdhkdfkpaa