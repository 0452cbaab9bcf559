/- Bounds of the model: LowOf, HighOf, BoxHas. -/
import Derived.Test.YtkogkgdoebdmgaaBJ
namespace Go.Proofs.Ytkogkgdoebdmgaa
open Go.RowKit
set_option linter.unusedSimpArgs false
set_option linter.unusedVariables false







def hasN (n : Nat) (f g : Nat → Int) (xs : List Int) : Bool := allN n (fun i => hasB (f i) (g i) (nth xs i))

theorem sumSq_zero (d : Nat → Int) (n : Nat) (h0 : ∀ i, i < n → 0 ≤ d i ∧ d i ≤ 4194304) : sumSq d n = 0 ↔ ∀ i, i < n → d i = 0 := by
  induction n with
  | zero => simp [sumSq]
  | succ n ih =>
    have ih := ih (fun i hi => h0 i (by omega))
    have b := (sumSq_bounds d n (fun i hi => h0 i (by omega)) n (Nat.le_refl _)).1
    have q := (sq_bounds (h0 n (by omega)).1 (h0 n (by omega)).2).1
    simp only [sumSq]
    constructor
    · intro hs
      have e1 : sumSq d n = 0 := by omega
      have e2 : d n * d n = 0 := by omega
      intro i hi
      rcases Nat.lt_succ_iff_lt_or_eq.1 hi with h | h
      · exact ih.1 e1 i h
      · subst h; exact (Int.mul_eq_zero.1 e2).elim id id
    · intro hs
      rw [ih.2 (fun i hi => hs i (by omega)), hs n (by omega)]; rfl

theorem allN_congr {n : Nat} {p q : Nat → Bool} (h : ∀ i, i < n → p i = q i) : allN n p = allN n q := by
  unfold allN
  rw [Bool.eq_iff_iff]
  simp only [List.all_eq_true, List.mem_range]
  exact ⟨fun k i hi => by rw [← h i hi]; exact k i hi, fun k i hi => by rw [h i hi]; exact k i hi⟩

/-- What is at no distance from a box is what it has. -/
theorem least_zero {n : Nat} {f g : Nat → Int} {m : Nat} {xs : List Int} (hm : xs.length = m) (h : formB n f g m xs = true) : (leastN n f g xs == 0) = hasN n f g xs := by
  simp only [formB, Bool.and_eq_true, decide_eq_true_eq] at h
  obtain ⟨⟨h1, h2⟩, rfl⟩ := h
  have hb : ∀ i, i < n → 0 ≤ leastV (f i) (g i) (nth xs i) ∧ leastV (f i) (g i) (nth xs i) ≤ 4194304 := fun i hi => least_bounds (boxB_at' h1 hi) (vecOkB_at h2 (by omega))
  have key := sumSq_zero (fun i => leastV (f i) (g i) (nth xs i)) n hb
  rw [Bool.eq_iff_iff, beq_iff_eq]
  unfold leastN
  rw [key]
  constructor
  · intro q
    refine allN_yes fun i hi => ?_
    have := q i hi
    simp only [hasB, boxB_at' h1 hi, Bool.true_and, inB, decide_eq_true_eq]
    unfold leastV at this
    omega
  · intro q i hi
    have := allN_at q hi
    simp only [hasB, boxB_at' h1 hi, Bool.true_and, inB, decide_eq_true_eq] at this
    unfold leastV
    omega

def boxHasB (n : Nat) (f g : Nat → Int) (m : Nat) (xs : List Int) : Bool := formB n f g m xs && hasN n f g xs





end Go.Proofs.Ytkogkgdoebdmgaa