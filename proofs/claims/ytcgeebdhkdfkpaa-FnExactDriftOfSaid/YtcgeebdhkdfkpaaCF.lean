/- Cells of the program and of the model: what a cell has. -/
import Derived.Test.YtcgeebdhkdfkpaaCE
import Derived.Test.YtcgeebdhkdfkpaaWX
namespace Go.Proofs.Ytcgeebdhkdfkpaa
open Go.RowKit
set_option maxRecDepth 8000
set_option linter.unusedSimpArgs false
set_option linter.unusedVariables false

/-- Whether there is a cell c, and it has something. -/
def inCell (lo hi t c : Int) : Bool := decide (0 ≤ c) && decide (c < cellsN t) && decide (fromN lo hi (cellsN t) c ≤ fromN lo hi (cellsN t) (c + 1) - 1)







end Go.Proofs.Ytcgeebdhkdfkpaa