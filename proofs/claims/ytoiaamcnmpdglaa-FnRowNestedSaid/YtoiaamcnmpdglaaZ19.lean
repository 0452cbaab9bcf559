/- RangesOf of the program. -/
import Derived.Test.YtoiaamcnmpdglaaZ9
import Derived.Test.YtoiaamcnmpdglaaZ14
import Derived.OpenShut
namespace Go.Proofs.Ytoiaamcnmpdglaa
open Go.RowKit
set_option maxRecDepth 8000
set_option linter.unusedSimpArgs false
set_option linter.unusedVariables false

/-- Are these vectors that have ranges? -/
def rngB (xss : List (List Int)) : Bool := decide (1 ≤ xss.length) && decide (xss.length ≤ 60) && alikeMB xss

theorem rng_few {xss : List (List Int)} (h : ¬ 1 ≤ xss.length) : rngB xss = false := by unfold rngB; rw [decide_eq_false h]; rfl

theorem rng_many {xss : List (List Int)} (h : ¬ xss.length ≤ 60) : rngB xss = false := by unfold rngB; rw [decide_eq_false h, Bool.and_false]; rfl

theorem rng_of {xss : List (List Int)} (h1 : 1 ≤ xss.length) (h2 : xss.length ≤ 60) : rngB xss = alikeMB xss := by unfold rngB; rw [decide_eq_true h1, decide_eq_true h2]; rfl

theorem alike_at {xss : List (List Int)} (h : alikeMB xss = true) {k : Nat} (hk : k < xss.length) : vecOkB (row xss k) = true ∧ (row xss k).length = (row xss 0).length := by
  have := of_decide_eq_true h k hk
  unfold okAt at this
  simp only [Bool.and_eq_true, decide_eq_true_eq] at this
  exact this

theorem vecOk_len {xs : List Int} (h : vecOkB xs = true) : 1 ≤ xs.length ∧ xs.length ≤ 8 := by
  unfold vecOkB at h
  simp only [Bool.and_eq_true, decide_eq_true_eq] at h
  exact h.1
/-- What RangesOf tells. -/
def RngR (w : World) (xss : List (List Int)) (e : Ending) (w' : World) : Prop :=
  (rngB xss = false ∧ e = .returned (.tuple #[.slice none 0 0, .bool false]) ∧ Below w.heap.size w w') ∨
  (rngB xss = true ∧ ∃ b, e = .returned (.tuple #[.slice (some ⟨b, 0, none⟩) (row xss 0).length (row xss 0).length, .bool true]) ∧ w.heap.size ≤ b ∧ OwnP w' b (row xss 0).length (fun p => loF xss p xss.length) (fun p => hiF xss p xss.length) ∧ Below w.heap.size w w')



end Go.Proofs.Ytoiaamcnmpdglaa