/- VecNeg, VecAdd of the program. -/
import Derived.Test.YtgckhnnkphlciaaDoorVK
import Derived.Test.YtgckhnnkphlciaaDoorVE
namespace Go.Proofs.YtgckhnnkphlciaaDoor
open Go.RowKit
set_option maxRecDepth 8000
set_option linter.unusedSimpArgs false

theorem bd8 {xs : List Int} {n : Nat} (h : vecOkB xs = true) (hl : xs.length = n) : ∀ j, j < 8 → -1048576 ≤ nth xs j ∧ nth xs j ≤ 1048576 := by
  intro j hj
  obtain ⟨_, _, hc⟩ := vecOk_bd h hl
  by_cases hjn : j < n
  · exact hc j hjn
  · rw [nth_past (by omega)]; omega

/-- A list of numbers made by f, read again by its places. -/
theorem ints_nth (f : Nat → Int) (n : Nat) : ints (nth (ints f n)) n = ints f n := by
  unfold ints
  exact List.map_congr_left fun j hj => nth_ints f n j (List.mem_range.1 hj)

/-- An answer of the program: nil, or a row of its own. -/
def Fresh (base : Nat) (w : World) (v : Value) (xs : List Int) : Prop :=
  (v = .slice none 0 0 ∧ xs = []) ∨ ∃ g, v = .slice (some ⟨g, 0, none⟩) xs.length xs.length ∧ base ≤ g ∧ Own w g xs

end Go.Proofs.YtgckhnnkphlciaaDoor