/- An answer that the program made ('Mine'): nil, or a row of its own: read, marked, held. -/
import Derived.Test.YtggjcccdeaadbaaGreatDoorZ10
import Derived.Test.YtggjcccdeaadbaaGreatDoorZ11
import Derived.Test.YtggjcccdeaadbaaGreatDoorZ5
namespace Go.Proofs.YtggjcccdeaadbaaGreatDoor
open Go.RowKit
set_option maxRecDepth 8000
set_option linter.unusedSimpArgs false

theorem Fresh.mine {base : Nat} {w : World} {v : Value} {xs : List Int} (h : Fresh base w v xs) : ∃ a cap, v = .slice a xs.length cap ∧ Mine base w a xs.length xs := by
  rcases h with ⟨rfl, rfl⟩ | ⟨g, rfl, hb, ho⟩
  · exact ⟨none, 0, rfl, rfl, .inl ⟨rfl, rfl⟩⟩
  · exact ⟨_, _, rfl, rfl, .inr ⟨g, rfl, hb, ho⟩⟩

theorem negL_len (xs : List Int) : (negL xs).length ≤ 8 := by
  unfold negL
  cases h : vecOkB xs
  · simp
  · simp only [if_true, ints_len]
    exact (vecOk_bd h rfl).2.1

end Go.Proofs.YtggjcccdeaadbaaGreatDoor