/- Vectors: VecOk of the model and of the program. -/
import Derived.Test.YtfjhgagpmhedfaaDoorVA0
import Derived.Test.YtfjhgagpmhedfaaDoorWN
namespace Go.Proofs.YtfjhgagpmhedfaaDoor
open Go.RowKit
set_option maxRecDepth 8000
set_option linter.unusedSimpArgs false

def vecOkB (xs : List Int) : Bool := decide (1 ≤ xs.length ∧ xs.length ≤ 8) && xs.all compB

theorem all_nth {xs : List Int} (h : ∀ j, j < xs.length → compB (nth xs j) = true) : xs.all compB = true := by
  rw [List.all_eq_true]
  intro x hx
  obtain ⟨j, hj, rfl⟩ := List.getElem_of_mem hx
  have := h j hj
  simpa [nth, hj] using this

theorem not_all_nth {xs : List Int} {j : Nat} (hj : j < xs.length) (h : compB (nth xs j) = false) : xs.all compB = false := by
  rw [List.all_eq_false]
  exact ⟨xs[j], List.getElem_mem hj, by simpa [nth, hj] using h⟩





end Go.Proofs.YtfjhgagpmhedfaaDoor