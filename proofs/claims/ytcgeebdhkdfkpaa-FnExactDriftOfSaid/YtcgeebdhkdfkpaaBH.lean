/- Bounds of the program: how far a number is from a range, at least and at most; the sums; LowOf, HighOf, BoxHas. -/
import Derived.Test.YtcgeebdhkdfkpaaBA
import Derived.Test.YtcgeebdhkdfkpaaVC
import Derived.Deep.RegionHeld3
namespace Go.Proofs.Ytcgeebdhkdfkpaa
open Go.RowKit
set_option maxRecDepth 8000
set_option linter.unusedSimpArgs false
set_option linter.unusedVariables false

def leastV (lo hi x : Int) : Int := max (max (lo - x) (x - hi)) 0
def mostV (lo hi x : Int) : Int := max (hi - x) (x - lo)
def sumSq (d : Nat → Int) : Nat → Int
  | 0 => 0
  | k + 1 => sumSq d k + d k * d k

theorem sq_bounds {x : Int} (h0 : 0 ≤ x) (h1 : x ≤ 4194304) : 0 ≤ x * x ∧ x * x ≤ 17592186044416 := by
  have a := Int.mul_nonneg h0 h0
  have b : x * x ≤ 4194304 * 4194304 := Int.mul_le_mul h1 h1 h0 (by omega)
  omega

theorem sumSq_bounds (d : Nat → Int) (n : Nat) (h : ∀ i, i < n → 0 ≤ d i ∧ d i ≤ 4194304) : ∀ k, k ≤ n → 0 ≤ sumSq d k ∧ sumSq d k ≤ k * 17592186044416 := by
  intro k
  induction k with
  | zero => intro _; simp [sumSq]
  | succ k ih =>
    intro hk
    have hi := ih (by omega)
    have hb := sq_bounds (h k (by omega)).1 (h k (by omega)).2
    simp only [sumSq]
    omega

theorem sumSq_congr {d e : Nat → Int} {n : Nat} (h : ∀ i, i < n → d i = e i) : sumSq d n = sumSq e n := by
  induction n with
  | zero => rfl
  | succ n ih => simp only [sumSq]; rw [ih (fun i hi => h i (by omega)), h n (by omega)]

theorem least_bounds {lo hi x : Int} (hr : rightB lo hi = true) (hx : compB x = true) : 0 ≤ leastV lo hi x ∧ leastV lo hi x ≤ 4194304 := by
  simp only [rightB, compB, Bool.and_eq_true, decide_eq_true_eq] at hr hx
  unfold leastV; omega

theorem most_bounds {lo hi x : Int} (hr : rightB lo hi = true) (hx : compB x = true) : 0 ≤ mostV lo hi x ∧ mostV lo hi x ≤ 4194304 := by
  simp only [rightB, compB, Bool.and_eq_true, decide_eq_true_eq] at hr hx
  unfold mostV; omega





end Go.Proofs.Ytcgeebdhkdfkpaa
