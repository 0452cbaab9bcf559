/- Distances: l1Dist, DistOf of the model. -/
import Derived.Test.YtkjkdafbfcfhfaaVB
import Derived.Test.YtkjkdafbfcfhfaaVC
import Derived.Test.YtkjkdafbfcfhfaaVE
namespace Go.Proofs.Ytkjkdafbfcfhfaa
open Go.RowKit
set_option linter.unusedSimpArgs false

/-- The sum of the squares of the differences of the first k numbers. -/
def dsum (xs ys : List Int) : Nat → Int
  | 0 => 0
  | k + 1 => dsum xs ys k + (nth xs k - nth ys k) * (nth xs k - nth ys k)

theorem sq_bd {x y : Int} (hx : compB x = true) (hy : compB y = true) : 0 ≤ (x - y) * (x - y) ∧ (x - y) * (x - y) ≤ 4398046511104 := by
  simp only [compB, decide_eq_true_eq] at hx hy
  have h1 : -2097152 ≤ x - y := by omega
  have h2 : x - y ≤ 2097152 := by omega
  generalize x - y = d at h1 h2
  refine ⟨by rcases Int.le_total 0 d with h | h; exact Int.mul_nonneg h h; exact Int.mul_nonneg_of_nonpos_of_nonpos h h, ?_⟩
  rcases Int.le_total 0 d with h | h
  · exact Int.le_trans (Int.mul_le_mul h2 h2 h (by omega)) (by omega)
  · have e : d * d = (-d) * (-d) := by rw [Int.neg_mul_neg]
    rw [e]
    exact Int.le_trans (Int.mul_le_mul (show -d ≤ 2097152 by omega) (show -d ≤ 2097152 by omega) (by omega) (by omega)) (by omega)

theorem dsum_bd {xs ys : List Int} {n : Nat} (hx : ∀ j, j < n → compB (nth xs j) = true) (hy : ∀ j, j < n → compB (nth ys j) = true) : ∀ k, k ≤ n → 0 ≤ dsum xs ys k ∧ dsum xs ys k ≤ 4398046511104 * (k : Int)
  | 0, _ => by simp [dsum]
  | k + 1, h => by
    have ih := dsum_bd hx hy k (by omega)
    have := sq_bd (hx k (by omega)) (hy k (by omega))
    simp only [dsum]
    omega



theorem vecOk_all {xs : List Int} {n : Nat} (h : vecOkB xs = true) (hl : xs.length = n) : 1 ≤ n ∧ n ≤ 8 ∧ ∀ j, j < n → compB (nth xs j) = true := by
  unfold vecOkB at h
  rw [Bool.and_eq_true] at h
  have h1 := of_decide_eq_true h.1
  refine ⟨by omega, by omega, fun j hj => ?_⟩
  exact List.all_eq_true.1 h.2 (nth xs j) (by simp [nth, show j < xs.length by omega])



def distL (xs ys : List Int) : Int := if pairB xs ys then dsum xs ys xs.length else -1

end Go.Proofs.Ytkjkdafbfcfhfaa