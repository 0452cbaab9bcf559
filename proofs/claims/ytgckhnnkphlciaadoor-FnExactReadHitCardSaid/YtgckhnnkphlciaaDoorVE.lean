/- Vectors of the program: vectorsOf. -/
import Derived.Test.YtgckhnnkphlciaaDoorVC
namespace Go.Proofs.YtgckhnnkphlciaaDoor
open Go.RowKit
set_option maxRecDepth 8000
set_option linter.unusedSimpArgs false

def pairB (xs ys : List Int) : Bool := vecOkB xs && vecOkB ys && decide (xs.length = ys.length)





end Go.Proofs.YtgckhnnkphlciaaDoor