/- The walk of FnBounds. -/
import Derived.Test.YtkjkdafbfcfhfaaLP
import Derived.Test.YtkjkdafbfcfhfaaEA
import Derived.Test.YtkjkdafbfcfhfaaEB
namespace Go.Proofs.Ytkjkdafbfcfhfaa
open Go.RowKit
set_option linter.unusedSimpArgs false
set_option linter.unusedVariables false

theorem sq_le {l z : Int} (h0 : 0 ≤ l) (h : l ≤ z ∨ l ≤ -z) : l * l ≤ z * z := by
  rcases h with h | h
  · exact Int.mul_le_mul h h h0 (by omega)
  · rw [← Int.neg_mul_neg z z]; exact Int.mul_le_mul h h h0 (by omega)
theorem sq_ge {m z : Int} (h1 : z ≤ m) (h2 : -z ≤ m) : z * z ≤ m * m := by
  by_cases h : 0 ≤ z
  · exact Int.mul_le_mul h1 h1 h (by omega)
  · rw [← Int.neg_mul_neg z z]; exact Int.mul_le_mul h2 h2 (by omega) (by omega)
theorem least_le_dsum (n : Nat) (f g : Nat → Int) (vs qs : List Int) (h : ∀ j, j < n → f j ≤ nth vs j ∧ nth vs j ≤ g j) : leastN n f g qs ≤ dsum vs qs n := by
  unfold leastN
  induction n with
  | zero => simp [sumSq, dsum]
  | succ n ih =>
    have i := ih (fun j hj => h j (by omega))
    obtain ⟨h1, h2⟩ := h n (by omega)
    have s := sq_le (l := leastV (f n) (g n) (nth qs n)) (z := nth vs n - nth qs n) (by unfold leastV; omega) (by unfold leastV; omega)
    simp only [sumSq, dsum]
    omega
theorem dsum_le_most (n : Nat) (f g : Nat → Int) (vs qs : List Int) (h : ∀ j, j < n → f j ≤ nth vs j ∧ nth vs j ≤ g j) : dsum vs qs n ≤ mostN n f g qs := by
  unfold mostN
  induction n with
  | zero => simp [sumSq, dsum]
  | succ n ih =>
    have i := ih (fun j hj => h j (by omega))
    obtain ⟨h1, h2⟩ := h n (by omega)
    have s := sq_ge (m := mostV (f n) (g n) (nth qs n)) (z := nth vs n - nth qs n) (by unfold mostV; omega) (by unfold mostV; omega)
    simp only [sumSq, dsum]
    omega
theorem vecOk_between {n : Nat} {f g : Nat → Int} {vs : List Int} (hb : boxB n f g = true) (hl : vs.length = n) (h : ∀ j, j < n → f j ≤ nth vs j ∧ nth vs j ≤ g j) : vecOkB vs = true := by
  have hn := boxB_num' hb
  unfold vecOkB
  rw [hl, decide_eq_true hn, Bool.true_and]
  refine all_nth fun j hj => ?_
  have hr := boxB_at' hb (show j < n by omega)
  have := h j (by omega)
  simp only [rightB, compB, Bool.and_eq_true, decide_eq_true_eq] at hr ⊢
  omega
theorem hasN_between {n : Nat} {f g : Nat → Int} {vs : List Int} (hb : boxB n f g = true) (h : ∀ j, j < n → f j ≤ nth vs j ∧ nth vs j ≤ g j) : hasN n f g vs = true := by
  refine allN_yes fun j hj => ?_
  have := h j hj
  simp only [hasB, boxB_at' hb hj, Bool.true_and, inB, decide_eq_true_eq]
  exact this
theorem form_parts {n : Nat} {f g : Nat → Int} {m : Nat} {xs : List Int} (h : formB n f g m xs = true) : boxB n f g = true ∧ vecOkB xs = true ∧ n = m := by
  simp only [formB, Bool.and_eq_true, decide_eq_true_eq] at h
  exact ⟨h.1.1, h.1.2, h.2⟩

end Go.Proofs.Ytkjkdafbfcfhfaa