/- Drawn ranges: span. -/
import Derived.Test.YtacfmhcilifkiaaZ10
namespace Go.Proofs.Ytacfmhcilifkiaa
open Go.RowKit
set_option maxRecDepth 8000
set_option linter.unusedSimpArgs false
set_option linter.unusedVariables false

def SpanPost (B : Nat) (w : World) (rb : Nat) (a : Option Addr) (n c : Nat) (e : Ending) (w' : World) : Prop :=
  ∃ lo hi : Int, e = .returned (.agg #[.int .i64 lo, .int .i64 hi]) ∧ -4000000 ≤ lo ∧ lo ≤ 4000000 ∧ -4000000 ≤ hi ∧ hi ≤ 4000000 ∧ Rd B w' rb a n c ∧ But rb w w'

end Go.Proofs.Ytacfmhcilifkiaa