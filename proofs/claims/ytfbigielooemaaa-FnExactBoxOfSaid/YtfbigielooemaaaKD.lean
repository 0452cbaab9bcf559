/- packVector of the program. -/
import Derived.Test.YtfbigielooemaaaKC
namespace Go.Proofs.Ytfbigielooemaaa
open Go.RowKit
set_option linter.unusedSimpArgs false
set_option linter.unusedVariables false

/-- The code of each number of a vector, in its range, of a tier. -/
def vcode (f g : Nat → Int) (xs : List Int) (t : Int) (i : Nat) : Int := codeB (f i) (g i) t (nth xs i)
theorem vcode_ok {n : Nat} {f g : Nat → Int} (xs : List Int) (h : ∀ i, i < n → rightB (f i) (g i) = true) : CodesOk n (vcode f g xs 1) (vcode f g xs 2) (vcode f g xs 3) := fun i hi => codeB_ok (h i hi)





/-- The packed row of a vector in a book, where it fits. -/
def packT (n : Nat) (f g : Nat → Int) (m : Nat) (xs : List Int) : Value := if formB n f g m xs then PK (vcode f g xs 1) (vcode f g xs 2) (vcode f g xs 3) n n else PK0

end Go.Proofs.Ytfbigielooemaaa