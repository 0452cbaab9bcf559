/- Marks over heaps: markNearS, heldNearS, markHeap, heldHeap of the laws. -/
import Derived.Test.YtkonckgapicdfaaHO
import Derived.Test.YtkonckgapicdfaaHR0
import Derived.Test.YtkonckgapicdfaaHH
namespace Go.Proofs.Ytkonckgapicdfaa
open Go.RowKit
set_option maxRecDepth 8000
set_option linter.unusedSimpArgs false
set_option linter.unusedVariables false

/-- A box that is not the row. -/
theorem HBx.turn {w w' : World} {x : Nat} {K : Int} {c : Option Addr} {m cap : Nat} {a : Option Addr} {l B : Nat} (h : HBx w x K c m cap) (t : Turn a l B w w') (ne : l = 0 ∨ ∃ b, a = some ⟨b, 0, none⟩ ∧ b ≠ x) : HBx w' x K c m cap := by
  rcases t with t | ⟨h0, b, e, hb, hbut⟩
  · exact h.below t
  · rcases ne with h1 | ⟨b', e', hne⟩
    · exact absurd h1 h0
    · rw [e] at e'
      cases e'
      exact ⟨Nat.lt_of_lt_of_le h.lt hbut.size, (hbut.cellN h.lt (Ne.symm hne)).trans h.c0, (hbut.cellN h.lt (Ne.symm hne)).trans h.c1⟩



end Go.Proofs.Ytkonckgapicdfaa