/- VecNeg of the model: a list made by append. -/
import Derived.Test.YtgckhnnkphlciaaDoorVC
import Derived.Test.YtgckhnnkphlciaaDoorVV
namespace Go.Proofs.YtgckhnnkphlciaaDoor
open Go.RowKit
set_option maxRecDepth 8000
set_option linter.unusedSimpArgs false

theorem vecOk_bd {xs : List Int} {n : Nat} (h : vecOkB xs = true) (hl : xs.length = n) : 1 ≤ n ∧ n ≤ 8 ∧ ∀ j, j < n → -1048576 ≤ nth xs j ∧ nth xs j ≤ 1048576 := by
  unfold vecOkB at h
  rw [Bool.and_eq_true] at h
  have h1 := of_decide_eq_true h.1
  refine ⟨by omega, by omega, fun j hj => ?_⟩
  have := List.all_eq_true.1 h.2 (nth xs j) (by simp [nth, show j < xs.length by omega])
  simpa [compB] using this





/-- Each number turned; none where it is no vector. -/
def negL (xs : List Int) : List Int := if vecOkB xs then ints (fun j => -(nth xs j)) xs.length else []

end Go.Proofs.YtgckhnnkphlciaaDoor