/- Rows that are right: packRow of the program at all arguments, RowOk of the program; of the model: lists held against each other. -/
import Derived.Test.YtcgeebdhkdfkpaaKI
namespace Go.Proofs.Ytcgeebdhkdfkpaa
open Go.RowKit
set_option maxRecDepth 8000
set_option linter.unusedSimpArgs false
set_option linter.unusedVariables false













end Go.Proofs.Ytcgeebdhkdfkpaa