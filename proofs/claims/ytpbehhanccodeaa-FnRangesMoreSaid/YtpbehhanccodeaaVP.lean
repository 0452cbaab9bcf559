/- VecAdd of the program; the walk of the law FnExactVecAdd. -/
import Derived.Test.YtpbehhanccodeaaVL
import Derived.Test.YtpbehhanccodeaaVO
namespace Go.Proofs.Ytpbehhanccodeaa
open Go.RowKit
set_option maxRecDepth 8000
set_option linter.unusedSimpArgs false

def IAddPost (w : World) (xs ys : List Int) (e : Ending) (w' : World) : Prop :=
  ∃ v, e = .returned (.tuple #[v, .bool (addOkB xs ys)]) ∧ Fresh w.heap.size w' v (addL xs ys) ∧ Below w.heap.size w w'

end Go.Proofs.Ytpbehhanccodeaa