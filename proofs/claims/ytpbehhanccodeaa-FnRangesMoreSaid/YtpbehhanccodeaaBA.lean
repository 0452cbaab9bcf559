/- Slices of ranges in memory: each takes two cells. BoxOk of the program and of the model. -/
import Derived.Test.YtpbehhanccodeaaPA
import Derived.Test.YtpbehhanccodeaaWB
namespace Go.Proofs.Ytpbehhanccodeaa
open Go.RowKit
set_option maxRecDepth 8000
set_option linter.unusedSimpArgs false
set_option linter.unusedVariables false

def boxB (n : Nat) (f g : Nat → Int) : Bool := decide (1 ≤ n ∧ n ≤ 8) && allN n (fun i => rightB (f i) (g i))











end Go.Proofs.Ytpbehhanccodeaa