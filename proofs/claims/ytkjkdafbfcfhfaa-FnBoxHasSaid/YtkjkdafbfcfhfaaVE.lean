/- Vectors of the program: vectorsOf. -/
import Derived.Test.YtkjkdafbfcfhfaaVC
namespace Go.Proofs.Ytkjkdafbfcfhfaa
open Go.RowKit
set_option linter.unusedSimpArgs false

def pairB (xs ys : List Int) : Bool := vecOkB xs && vecOkB ys && decide (xs.length = ys.length)





end Go.Proofs.Ytkjkdafbfcfhfaa