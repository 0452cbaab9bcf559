/- The walk of FnPoint. -/
import Derived.Test.YtkjkdafbfcfhfaaLA
import Derived.Test.YtkjkdafbfcfhfaaBK
import Derived.Test.YtkjkdafbfcfhfaaBM
import Derived.Deep.RegionHeldLaw
namespace Go.Proofs.Ytkjkdafbfcfhfaa
open Go.RowKit
set_option linter.unusedSimpArgs false
set_option linter.unusedVariables false

theorem sq_turn (x y : Int) : (y - x) * (y - x) = (x - y) * (x - y) := by
  rw [← Int.neg_mul_neg]; congr 1 <;> omega
theorem least_point (x y : Int) : leastV x x y * leastV x x y = (x - y) * (x - y) := by
  by_cases h : x ≤ y
  · rw [show leastV x x y = y - x from by unfold leastV; omega]; exact sq_turn x y
  · rw [show leastV x x y = x - y from by unfold leastV; omega]
theorem most_point (x y : Int) : mostV x x y * mostV x x y = (x - y) * (x - y) := by
  by_cases h : x ≤ y
  · rw [show mostV x x y = y - x from by unfold mostV; omega]; exact sq_turn x y
  · rw [show mostV x x y = x - y from by unfold mostV; omega]
theorem leastN_point (xs ys : List Int) (n : Nat) : leastN n (nth xs) (nth xs) ys = dsum xs ys n := by
  unfold leastN
  induction n with
  | zero => rfl
  | succ n ih => simp only [sumSq, dsum, ih, least_point]
theorem mostN_point (xs ys : List Int) (n : Nat) : mostN n (nth xs) (nth xs) ys = dsum xs ys n := by
  unfold mostN
  induction n with
  | zero => rfl
  | succ n ih => simp only [sumSq, dsum, ih, most_point]
theorem vec_num {xs : List Int} (h : vecOkB xs = true) : 1 ≤ xs.length ∧ xs.length ≤ 8 := by
  simp only [vecOkB, Bool.and_eq_true, decide_eq_true_eq] at h; exact h.1
theorem boxB_point {xs : List Int} (h : vecOkB xs = true) : boxB xs.length (nth xs) (nth xs) = true := by
  unfold boxB
  rw [decide_eq_true (vec_num h), Bool.true_and]
  refine allN_yes fun i hi => ?_
  have := vecOkB_at h hi
  simp [rightB, this]
theorem hasN_point {xs : List Int} (h : vecOkB xs = true) : hasN xs.length (nth xs) (nth xs) xs = true := by
  refine allN_yes fun i hi => ?_
  have := vecOkB_at h hi
  simp [hasB, rightB, this, inB]

end Go.Proofs.Ytkjkdafbfcfhfaa