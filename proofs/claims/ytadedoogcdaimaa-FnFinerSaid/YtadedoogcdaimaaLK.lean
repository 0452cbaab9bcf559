/- The walks of FnCells and FnCellWide. -/
import Derived.Test.YtadedoogcdaimaaLJ
import Derived.Test.YtadedoogcdaimaaDW
import Derived.Test.YtadedoogcdaimaaWS
namespace Go.Proofs.Ytadedoogcdaimaa
open Go.RowKit
set_option linter.unusedSimpArgs false
set_option linter.unusedVariables false

theorem cell_nums {lo hi t c : Int} (h : cellB lo hi t c = true) (hc : c ≠ -1) : rightB lo hi = true ∧ tierB t = true ∧ 0 ≤ c ∧ c < cellsN t ∧ cellLo lo hi t c = fromN lo hi (cellsN t) c ∧ cellHi lo hi t c = fromN lo hi (cellsN t) (c + 1) - 1 := by
  have hr : rightB lo hi = true := by simp only [cellB, Bool.and_eq_true] at h; exact h.1.1
  have ht : tierB t = true := by simp only [cellB, Bool.and_eq_true] at h; exact h.1.2
  have h3 : 0 ≤ c ∧ c < cellsN t := by
    simp only [cellB, hr, ht, hc, decide_false, Bool.true_and, Bool.false_or, Bool.and_eq_true, decide_eq_true_eq] at h
    exact ⟨h.1.1, h.1.2⟩
  refine ⟨hr, ht, h3.1, h3.2, ?_, ?_⟩
  · simp only [cellLo, h, hc, if_true, if_false]
  · simp only [cellHi, h, hc, if_true, if_false]

theorem codeB_in {lo hi t x : Int} (hr : rightB lo hi = true) (ht : tierB t = true) (h0 : lo ≤ x) (h1 : x ≤ hi) : codeB lo hi t x = codeN lo hi (cellsN t) x := by
  unfold codeB
  rw [show hasB lo hi x = true from by simp only [hasB, hr, inB, Bool.true_and, decide_eq_true_eq]; omega, ht]; rfl

/-- The last cell, or the one behind a cell. -/
theorem cells_next {lo hi t c : Int} (h : cellB lo hi t c = true) (hc : c ≠ -1) :
    (cellHi lo hi t c = hi ∧ codeB lo hi t hi = c) ∨
    (cellHi lo hi t c ≠ hi ∧ lo ≤ cellHi lo hi t c + 1 ∧ cellHi lo hi t c + 1 ≤ hi ∧ c < codeB lo hi t (cellHi lo hi t c + 1) ∧ cellB lo hi t (codeB lo hi t (cellHi lo hi t c + 1)) = true ∧ cellLo lo hi t (codeB lo hi t (cellHi lo hi t c + 1)) = cellHi lo hi t c + 1) := by
  obtain ⟨hr, ht, v1, v2, v3⟩ := cell_within h hc
  obtain ⟨_, _, c0, c1, l1, l2⟩ := cell_nums h hc
  obtain ⟨a1, a2, a3, a4, a5⟩ := right_nums hr
  obtain ⟨n0, n1⟩ := cells_pos ht
  have F := fun i y => from_le lo hi (cellsN t) i y n0 a5
  by_cases he : cellHi lo hi t c = hi
  · refine .inl ⟨he, ?_⟩
    rw [codeB_in hr ht a5 (Int.le_refl _)]
    have p : c ≤ codeN lo hi (cellsN t) hi := (F _ _).1 (by omega)
    have q : ¬ c + 1 ≤ codeN lo hi (cellsN t) hi := fun hh => by have := (F _ _).2 hh; omega
    omega
  · refine .inr ⟨he, by omega, by omega, ?_⟩
    rw [codeB_in hr ht (show lo ≤ cellHi lo hi t c + 1 by omega) (by omega)]
    obtain ⟨d0, d1, db, k1, k2, e1, e2, r1, r2⟩ := code_cell lo hi t (cellHi lo hi t c + 1) hr (by omega) (by omega) ht
    have p : c + 1 ≤ codeN lo hi (cellsN t) (cellHi lo hi t c + 1) := (F _ _).1 (by omega)
    have q := from_mono lo hi (cellsN t) _ _ n0 a5 p
    exact ⟨by omega, db, by omega⟩

theorem wide {lo hi t c : Int} (h : cellB lo hi t c = true) (hc : c ≠ -1) : cellHi lo hi t c - cellLo lo hi t c + 1 ≤ (hi - lo + 1) / cellsN t + 1 := by
  obtain ⟨hr, ht, c0, c1, l1, l2⟩ := cell_nums h hc
  rw [l1, l2]
  unfold fromN
  have e : (hi - lo + 1) * (c + 1) = (hi - lo + 1) * c + (hi - lo + 1) := by rw [Int.mul_add, Int.mul_one]
  rw [e]
  have hN : cellsN t = 2 ∨ cellsN t = 16 ∨ cellsN t = 256 := by rcases tier_cases ht with rfl | rfl | rfl <;> decide
  rcases hN with h | h | h <;> rw [h] <;> omega

end Go.Proofs.Ytadedoogcdaimaa