/- A text that is read rune by rune: what a rune is made of; plain. -/
import Derived.Test.YtecheolhmohhjaaDoorSC1
import Derived.Laws.RangeAny
import Derived.Lib.OthersKept
namespace Go.Proofs.YtecheolhmohhjaaDoor
open Go.RowKit
set_option maxRecDepth 8000
set_option linter.unusedSimpArgs false
set_option linter.unusedVariables false

set_option maxHeartbeats 1000000 in
/-- A rune that begins with no byte of ASCII lies in the text, and none of its bytes is ASCII. -/
theorem decode_wide (s : ByteArray) (pos : Nat) (h : pos < s.size) (ha : 128 ≤ (s[pos]'h).toNat) :
    128 ≤ (Utf8.decode s pos).1 ∧ 1 ≤ (Utf8.decode s pos).2 ∧ pos + (Utf8.decode s pos).2 ≤ s.size ∧ ∀ j, j < (Utf8.decode s pos).2 → 128 ≤ (s.get! (pos + j)).toNat := by
  refine ⟨(decode_high s pos h ha).1, (decode_high s pos h ha).2, ?_⟩
  have hn : ¬ (s[pos]'h).toNat < 128 := by omega
  have h0 : 128 ≤ (s.get! (pos + 0)).toNat := by rw [get_at s pos h]; exact ha
  simp only [Utf8.decode, get_at s pos h, hn, if_false]
  have one : pos + 1 ≤ s.size ∧ ∀ j, j < 1 → 128 ≤ (s.get! (pos + j)).toNat := ⟨by omega, fun j hj => by obtain rfl : j = 0 := (by omega); exact h0⟩
  split
  · rename_i c
    simp only [Bool.and_eq_true, decide_eq_true_eq, beq_iff_eq] at c
    split
    · exact ⟨by simp only; omega, fun j hj => by
        simp only at hj
        rcases (by omega : j = 0 ∨ j = 1) with rfl | rfl
        · exact h0
        · omega⟩
    · exact one
  · split
    · rename_i c
      simp only [Bool.and_eq_true, decide_eq_true_eq, beq_iff_eq] at c
      split
      · exact ⟨by simp only; omega, fun j hj => by
          simp only at hj
          rcases (by omega : j = 0 ∨ j = 1 ∨ j = 2) with rfl | rfl | rfl
          · exact h0
          · omega
          · omega⟩
      · exact one
    · split
      · rename_i c
        simp only [Bool.and_eq_true, decide_eq_true_eq, beq_iff_eq] at c
        split
        · exact ⟨by simp only; omega, fun j hj => by
            simp only at hj
            rcases (by omega : j = 0 ∨ j = 1 ∨ j = 2 ∨ j = 3) with rfl | rfl | rfl | rfl
            · exact h0
            · omega
            · omega
            · omega⟩
        · exact one
      · exact one

theorem get_list (s : ByteArray) (k : Nat) (h : k < s.size) : s.data.toList[k]? = some (s.get! k) := by
  have e := get_at s k h
  rw [Nat.add_zero] at e
  rw [e]; exact byte_at s k h
end Go.Proofs.YtecheolhmohhjaaDoor
