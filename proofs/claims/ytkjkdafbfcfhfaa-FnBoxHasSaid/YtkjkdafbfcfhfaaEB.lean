/- inside of the laws: a vector of a box. -/
import Derived.Test.YtkjkdafbfcfhfaaLG1
import Derived.Test.YtkjkdafbfcfhfaaBK
import Derived.Deep.AppendLies
import Derived.Deep.RegionHeld3
import Derived.Deep.DeepCutAuto
namespace Go.Proofs.Ytkjkdafbfcfhfaa
open Go.RowKit
set_option linter.unusedSimpArgs false
set_option linter.unusedVariables false

def InPost (w : World) (n1 : Nat) (f g : Nat → Int) (e : Ending) (w' : World) : Prop :=
  ∃ (a' : Option Addr) (c' : Nat) (ys : List Int), e = .returned (.slice a' n1 c') ∧ Row w' a' n1 ys ∧ (∀ j, j < n1 → f j ≤ nth ys j ∧ nth ys j ≤ g j) ∧ Below w.heap.size w w'

def Betw (f g F : Nat → Int) (k : Nat) : Prop := ∀ j, j < k → f j ≤ F j ∧ F j ≤ g j
theorem Betw.snoc {f g F : Nat → Int} {k : Nat} (h : Betw f g F k) {x : Int} (h0 : f k ≤ x) (h1 : x ≤ g k) : Betw f g (fun j => if j = k then x else F j) (k + 1) := by
  intro j hj
  by_cases e : j = k
  · subst e; simp; exact ⟨h0, h1⟩
  · simp [e]; exact h j (by omega)



end Go.Proofs.Ytkjkdafbfcfhfaa