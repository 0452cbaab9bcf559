/- Drawn boxes and vectors: DrawLowOf, DrawHighOf. -/
import Derived.Test.YtkjkdafbfcfhfaaDZ
namespace Go.Proofs.Ytkjkdafbfcfhfaa
open Go.RowKit
set_option linter.unusedSimpArgs false
set_option linter.unusedVariables false

def LowPost (w : World) (e : Ending) (w' : World) : Prop :=
  ∃ (a1 : Option Addr) (n1 c1 : Nat) (f g : Nat → Int) (a2 : Option Addr) (n2 c2 : Nat) (ys : List Int), e = .returned (.tuple #[.slice a1 n1 c1, .slice a2 n2 c2]) ∧ PRow w' a1 n1 f g ∧ Bds f g n1 ∧ Row w' a2 n2 ys ∧ n1 ≤ 200 ∧ n2 ≤ 200 ∧ Below w.heap.size w w'



end Go.Proofs.Ytkjkdafbfcfhfaa