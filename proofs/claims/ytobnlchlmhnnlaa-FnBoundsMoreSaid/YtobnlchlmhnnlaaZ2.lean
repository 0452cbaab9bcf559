/- Contracts of ranges, more: ofBoth at meet; RangeJoin, RangeMeet of the program. -/
import Derived.Test.YtobnlchlmhnnlaaZ1
namespace Go.Proofs.Ytobnlchlmhnnlaa
open Go.RowKit
set_option maxRecDepth 8000
set_option linter.unusedSimpArgs false

def joinB (al ah bl bh : Int) : Bool := rightB al ah && rightB bl bh
def meetB (al ah bl bh : Int) : Bool := rightB al ah && rightB bl bh && rightB (max al bl) (min ah bh)





end Go.Proofs.Ytobnlchlmhnnlaa