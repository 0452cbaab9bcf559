/- Contracts of ranges, more: ofBoth at meet; RangeJoin, RangeMeet of the program. -/
import Derived.Test.YtogmogmdgacnkaaWD
namespace Go.Proofs.Ytogmogmdgacnkaa
open Go.RowKit
set_option linter.unusedSimpArgs false

def joinB (al ah bl bh : Int) : Bool := rightB al ah && rightB bl bh
def meetB (al ah bl bh : Int) : Bool := rightB al ah && rightB bl bh && rightB (max al bl) (min ah bh)





end Go.Proofs.Ytogmogmdgacnkaa