/- The walks of FnCode and FnCodeOrder. -/
import Derived.Test.YtadedoogcdaimaaCJ
import Derived.Test.YtadedoogcdaimaaWC
import Derived.Test.YtadedoogcdaimaaDV
import Derived.Test.YtadedoogcdaimaaDP
namespace Go.Proofs.Ytadedoogcdaimaa
open Go.RowKit
set_option linter.unusedSimpArgs false
set_option linter.unusedVariables false

theorem code_mono (lo hi N x y : Int) (hN : 0 < N) (hS : lo ≤ hi) (h : x ≤ y) : codeN lo hi N x ≤ codeN lo hi N y := by
  have h1 := (from_le lo hi N (codeN lo hi N x) x hN hS).2 (Int.le_refl _)
  exact (from_le lo hi N (codeN lo hi N x) y hN hS).1 (by omega)

theorem cells_pos {t : Int} (ht : tierB t = true) : 0 < cellsN t ∧ cellsN t ≤ 256 := by rcases tier_cases ht with rfl | rfl | rfl <;> decide

/-- The cell that a number has. -/
theorem code_cell (lo hi t x : Int) (hr : rightB lo hi = true) (hx0 : lo ≤ x) (hx1 : x ≤ hi) (ht : tierB t = true) :
    0 ≤ codeN lo hi (cellsN t) x ∧ codeN lo hi (cellsN t) x < cellsN t ∧ cellB lo hi t (codeN lo hi (cellsN t) x) = true ∧ cellLo lo hi t (codeN lo hi (cellsN t) x) ≤ x ∧ x ≤ cellHi lo hi t (codeN lo hi (cellsN t) x) ∧ codeN lo hi (cellsN t) (cellLo lo hi t (codeN lo hi (cellsN t) x)) = codeN lo hi (cellsN t) x ∧ codeN lo hi (cellsN t) (cellHi lo hi t (codeN lo hi (cellsN t) x)) = codeN lo hi (cellsN t) x ∧ cellLo lo hi t (codeN lo hi (cellsN t) x) = fromN lo hi (cellsN t) (codeN lo hi (cellsN t) x) ∧ cellHi lo hi t (codeN lo hi (cellsN t) x) = fromN lo hi (cellsN t) (codeN lo hi (cellsN t) x + 1) - 1 := by
  obtain ⟨a1, a2, a3, a4, a5⟩ := right_nums hr
  obtain ⟨n0, n1⟩ := cells_pos ht
  have F := fun i y => from_le lo hi (cellsN t) i y n0 a5
  have c0 := code_nonneg lo hi (cellsN t) x n0 hx0 a5
  have c1 := code_lt lo hi (cellsN t) x n0 hx1 a5
  have e1 : fromN lo hi (cellsN t) (codeN lo hi (cellsN t) x) ≤ x := (F _ _).2 (Int.le_refl _)
  have e2 : ¬ fromN lo hi (cellsN t) (codeN lo hi (cellsN t) x + 1) ≤ x := fun h => by have := (F _ _).1 h; omega
  have e3 : codeN lo hi (cellsN t) (fromN lo hi (cellsN t) (codeN lo hi (cellsN t) x)) = codeN lo hi (cellsN t) x := by
    have p := (F (codeN lo hi (cellsN t) x) _).1 (Int.le_refl _)
    have q := code_mono lo hi (cellsN t) _ x n0 a5 e1
    omega
  have e4 : codeN lo hi (cellsN t) (fromN lo hi (cellsN t) (codeN lo hi (cellsN t) x + 1) - 1) = codeN lo hi (cellsN t) x := by
    have q := code_mono lo hi (cellsN t) x (fromN lo hi (cellsN t) (codeN lo hi (cellsN t) x + 1) - 1) n0 a5 (by omega)
    have p : ¬ codeN lo hi (cellsN t) x + 1 ≤ codeN lo hi (cellsN t) (fromN lo hi (cellsN t) (codeN lo hi (cellsN t) x + 1) - 1) := fun h => by have := (F _ _).2 h; omega
    omega
  have hb : cellB lo hi t (codeN lo hi (cellsN t) x) = true := by
    simp only [cellB, hr, ht, Bool.true_and, Bool.or_eq_true, Bool.and_eq_true, decide_eq_true_eq]
    exact .inr ⟨⟨c0, c1⟩, by omega⟩
  have hne : codeN lo hi (cellsN t) x ≠ -1 := by omega
  have l1 : cellLo lo hi t (codeN lo hi (cellsN t) x) = fromN lo hi (cellsN t) (codeN lo hi (cellsN t) x) := by simp only [cellLo, hb, if_true, hne, if_false]
  have l2 : cellHi lo hi t (codeN lo hi (cellsN t) x) = fromN lo hi (cellsN t) (codeN lo hi (cellsN t) x + 1) - 1 := by simp only [cellHi, hb, if_true, hne, if_false]
  rw [l1, l2]
  exact ⟨c0, c1, hb, e1, by omega, e3, e4, rfl, rfl⟩

theorem code_split (lo hi t x : Int) : (codeB lo hi t x = -1) ∨ (rightB lo hi = true ∧ lo ≤ x ∧ x ≤ hi ∧ tierB t = true ∧ codeB lo hi t x = codeN lo hi (cellsN t) x) := by
  unfold codeB
  cases hh : hasB lo hi x && tierB t
  · exact .inl rfl
  · simp only [hasB, inB, Bool.and_eq_true, decide_eq_true_eq] at hh
    exact .inr ⟨hh.1.1, hh.1.2.1, hh.1.2.2, hh.2, rfl⟩

end Go.Proofs.Ytadedoogcdaimaa