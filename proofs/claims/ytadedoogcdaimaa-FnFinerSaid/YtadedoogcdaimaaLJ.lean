/- The walk of FnNested. -/
import Derived.Test.YtadedoogcdaimaaLH
namespace Go.Proofs.Ytadedoogcdaimaa
open Go.RowKit
set_option linter.unusedSimpArgs false
set_option linter.unusedVariables false

theorem from_scale (lo hi N k i : Int) (hk : 0 < k) : fromN lo hi (N * k) (i * k) = fromN lo hi N i := by
  unfold fromN
  rw [← Int.mul_assoc, Int.mul_ediv_mul_of_pos_left _ _ hk]
theorem from_mono (lo hi N i j : Int) (hN : 0 < N) (hS : lo ≤ hi) (h : i ≤ j) : fromN lo hi N i ≤ fromN lo hi N j := by
  unfold fromN
  have := Int.ediv_le_ediv hN (Int.mul_le_mul_of_nonneg_left h (show 0 ≤ hi - lo + 1 by omega))
  omega
theorem code_scale (lo hi N k x : Int) (hN : 0 < N) (hk : 0 < k) (hS : lo ≤ hi) : codeN lo hi (N * k) x / k = codeN lo hi N x := by
  have key : ∀ q : Int, q ≤ codeN lo hi (N * k) x / k ↔ q ≤ codeN lo hi N x := by
    intro q
    rw [Int.le_ediv_iff_mul_le hk, ← from_le lo hi (N * k) (q * k) x (Int.mul_pos hN hk) hS, from_scale lo hi N k q hk, from_le lo hi N q x hN hS]
  exact Int.le_antisymm ((key _).1 (Int.le_refl _)) ((key _).2 (Int.le_refl _))

/-- A number's cell of a finer tier lies within that of a coarser one. -/
theorem nested (lo hi s t k x : Int) (hr : rightB lo hi = true) (hx0 : lo ≤ x) (hx1 : x ≤ hi) (hs : tierB s = true) (ht : tierB t = true) (hk : 0 < k) (hN : cellsN t = cellsN s * k) :
    codeN lo hi (cellsN t) x / k = codeN lo hi (cellsN s) x ∧
    leqB (cellLo lo hi t (codeN lo hi (cellsN t) x)) (cellHi lo hi t (codeN lo hi (cellsN t) x)) (cellLo lo hi s (codeN lo hi (cellsN s) x)) (cellHi lo hi s (codeN lo hi (cellsN s) x)) = true := by
  obtain ⟨a1, a2, a3, a4, a5⟩ := right_nums hr
  obtain ⟨n0, n1⟩ := cells_pos hs
  obtain ⟨m0, m1⟩ := cells_pos ht
  have hc := code_scale lo hi (cellsN s) k x n0 hk a5
  rw [← hN] at hc
  obtain ⟨c0, c1, cb, k1, k2, e1, e2, l1, l2⟩ := code_cell lo hi t x hr hx0 hx1 ht
  obtain ⟨d0, d1, db, j1, j2, g1, g2, r1, r2⟩ := code_cell lo hi s x hr hx0 hx1 hs
  obtain ⟨_, _, v1, v2, v3⟩ := cell_within cb (by omega)
  obtain ⟨_, _, u1, u2, u3⟩ := cell_within db (by omega)
  refine ⟨hc, ?_⟩
  have p1 : codeN lo hi (cellsN s) x * k ≤ codeN lo hi (cellsN t) x := (Int.le_ediv_iff_mul_le hk).1 (by omega)
  have p2 : codeN lo hi (cellsN t) x < (codeN lo hi (cellsN s) x + 1) * k := (Int.ediv_lt_iff_lt_mul hk).1 (by omega)
  have q1 := from_mono lo hi (cellsN t) _ _ m0 a5 p1
  have q2 := from_mono lo hi (cellsN t) (codeN lo hi (cellsN t) x + 1) _ m0 a5 (show codeN lo hi (cellsN t) x + 1 ≤ (codeN lo hi (cellsN s) x + 1) * k by omega)
  have s1 := from_scale lo hi (cellsN s) k (codeN lo hi (cellsN s) x) hk
  have s2 := from_scale lo hi (cellsN s) k (codeN lo hi (cellsN s) x + 1) hk
  rw [← hN] at s1 s2
  simp only [leqB, rightB, compB, Bool.and_eq_true, decide_eq_true_eq]
  omega

end Go.Proofs.Ytadedoogcdaimaa