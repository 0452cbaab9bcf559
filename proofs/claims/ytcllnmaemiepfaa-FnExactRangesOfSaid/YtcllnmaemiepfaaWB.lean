/- Contracts of ranges: whatever the numbers, each function answers as the plain function beside it, and nothing that was there turns. -/
import Derived.Test.YtcllnmaemiepfaaWN
namespace Go.Proofs.Ytcllnmaemiepfaa
open Go.RowKit
set_option maxRecDepth 8000
set_option linter.unusedSimpArgs false

def rightB (lo hi : Int) : Bool := compB lo && compB hi && decide (lo ≤ hi)
def hasB (lo hi x : Int) : Bool := rightB lo hi && inB x lo hi
def leqB (al ah bl bh : Int) : Bool := rightB al ah && rightB bl bh && decide (bl ≤ al) && decide (ah ≤ bh)











end Go.Proofs.Ytcllnmaemiepfaa