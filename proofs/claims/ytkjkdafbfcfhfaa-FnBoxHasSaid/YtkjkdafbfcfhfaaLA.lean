/- The law FnDist: its plain facts, and its walk. -/
import Derived.Test.YtkjkdafbfcfhfaaDE
import Derived.Test.YtkjkdafbfcfhfaaDP
import Derived.Test.YtkjkdafbfcfhfaaVG
import Derived.Test.YtkjkdafbfcfhfaaVS
import Derived.OpenShut
namespace Go.Proofs.Ytkjkdafbfcfhfaa
open Go.RowKit
set_option linter.unusedSimpArgs false
set_option linter.unusedVariables false

theorem dsum_comm (xs ys : List Int) : ∀ k, dsum xs ys k = dsum ys xs k
  | 0 => rfl
  | k + 1 => by
    have h : (nth xs k - nth ys k) * (nth xs k - nth ys k) = (nth ys k - nth xs k) * (nth ys k - nth xs k) := by
      rw [← Int.neg_mul_neg]; congr 1 <;> omega
    simp only [dsum, dsum_comm xs ys k, h]
theorem pairB_comm (xs ys : List Int) : pairB xs ys = pairB ys xs := by
  unfold pairB
  rw [Bool.and_comm (vecOkB xs)]
  congr 1
  exact decide_eq_decide.2 eq_comm
theorem distL_comm (xs ys : List Int) : distL xs ys = distL ys xs := by
  unfold distL
  rw [pairB_comm]
  cases h : pairB ys xs
  · rfl
  · have hl : ys.length = xs.length := by unfold pairB at h; simp only [Bool.and_eq_true, decide_eq_true_eq] at h; exact h.2
    simp only [if_true]
    rw [dsum_comm, hl]
theorem sq_zero {d : Int} (h : d * d = 0) : d = 0 := by
  rcases Int.mul_eq_zero.1 h with h | h <;> exact h
theorem dsum_zero {xs ys : List Int} {n : Nat} (hx : ∀ j, j < n → compB (nth xs j) = true) (hy : ∀ j, j < n → compB (nth ys j) = true) : ∀ k, k ≤ n → dsum xs ys k = 0 → ∀ j, j < k → nth xs j = nth ys j
  | 0, _, _ => fun j hj => absurd hj (by omega)
  | k + 1, hk, h => by
    have b0 := (dsum_bd hx hy k (by omega)).1
    have b1 := (sq_bd (hx k (by omega)) (hy k (by omega))).1
    simp only [dsum] at h
    have h1 : dsum xs ys k = 0 := by omega
    have h2 : (nth xs k - nth ys k) * (nth xs k - nth ys k) = 0 := by omega
    have h3 := sq_zero h2
    intro j hj
    rcases Nat.lt_succ_iff_lt_or_eq.1 hj with g | g
    · exact dsum_zero hx hy k (by omega) h1 j g
    · subst g; omega
theorem pairB_parts {xs ys : List Int} (h : pairB xs ys = true) : vecOkB xs = true ∧ vecOkB ys = true ∧ xs.length = ys.length := by
  unfold pairB at h
  simp only [Bool.and_eq_true, decide_eq_true_eq] at h
  exact ⟨h.1.1, h.1.2, h.2⟩
theorem distL_bd {xs ys : List Int} (h : pairB xs ys = true) : 0 ≤ distL xs ys ∧ distL xs ys ≤ 35184372088832 := by
  obtain ⟨hx, hy, hl⟩ := pairB_parts h
  obtain ⟨n1, n8, hc⟩ := vecOk_all hx rfl
  obtain ⟨_, _, hc'⟩ := vecOk_all hy hl.symm
  have := dsum_bd hc hc' xs.length (Nat.le_refl _)
  unfold distL
  rw [h, if_pos rfl]
  omega
theorem dsum_same (xs : List Int) : ∀ k, dsum xs xs k = 0
  | 0 => rfl
  | k + 1 => by simp [dsum, dsum_same xs k]
theorem distL_zero {xs ys : List Int} (h : pairB xs ys = true) : (distL xs ys == 0) = decide (xs = ys) := by
  obtain ⟨hx, hy, hl⟩ := pairB_parts h
  obtain ⟨n1, n8, hc⟩ := vecOk_all hx rfl
  obtain ⟨_, _, hc'⟩ := vecOk_all hy hl.symm
  unfold distL
  rw [h, if_pos rfl]
  by_cases e : xs = ys
  · subst e
    rw [decide_eq_true rfl, dsum_same]; rfl
  · rw [decide_eq_false e]
    rw [beq_eq_false_iff_ne]
    intro h0
    exact e (nth_ext hl (dsum_zero hc hc' xs.length (Nat.le_refl _) h0))

end Go.Proofs.Ytkjkdafbfcfhfaa