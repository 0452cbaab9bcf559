/- szInt64S of the laws. -/
import Derived.Test.YtcbmfannbaaokaaVA0
namespace Go.Proofs.Ytcbmfannbaaokaa
open Go.RowKit
set_option linter.unusedSimpArgs false

def szN (left : Int) (n : Nat) : Int := if left - (n : Int) < 0 then -1 else left - (n : Int)

end Go.Proofs.Ytcbmfannbaaokaa