/- Bounds of the program: the sums; LowOf, HighOf, BoxHas. -/
import Derived.Test.YtfbigielooemaaaBH
namespace Go.Proofs.Ytfbigielooemaaa
open Go.RowKit
set_option linter.unusedSimpArgs false
set_option linter.unusedVariables false

/-- Whether it is a box, and a vector of as many numbers. -/
def formB (n : Nat) (f g : Nat → Int) (m : Nat) (xs : List Int) : Bool := boxB n f g && vecOkB xs && decide (n = m)
theorem vecOkB_at {xs : List Int} (h : vecOkB xs = true) {k : Nat} (hk : k < xs.length) : compB (nth xs k) = true := by
  simp only [vecOkB, Bool.and_eq_true, List.all_eq_true] at h
  have := h.2 (nth xs k) (by unfold nth; simp [hk])
  exact this
theorem boxB_num' {n : Nat} {f g : Nat → Int} (h : boxB n f g = true) : 1 ≤ n ∧ n ≤ 8 := by
  simp only [boxB, Bool.and_eq_true, decide_eq_true_eq] at h; exact h.1
theorem boxB_at' {n k : Nat} {f g : Nat → Int} (h : boxB n f g = true) (hk : k < n) : rightB (f k) (g k) = true := by
  simp only [boxB, Bool.and_eq_true] at h; exact allN_at h.2 hk

def leastN (n : Nat) (f g : Nat → Int) (xs : List Int) : Int := sumSq (fun i => leastV (f i) (g i) (nth xs i)) n
def mostN (n : Nat) (f g : Nat → Int) (xs : List Int) : Int := sumSq (fun i => mostV (f i) (g i) (nth xs i)) n













end Go.Proofs.Ytfbigielooemaaa