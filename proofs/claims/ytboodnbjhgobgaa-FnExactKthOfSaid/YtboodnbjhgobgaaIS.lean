/- Small laws for the walks of the exact laws over items. -/
import Derived.Test.YtboodnbjhgobgaaIN
import Derived.Test.YtboodnbjhgobgaaIC
import Derived.Test.YtboodnbjhgobgaaIO
namespace Go.Proofs.Ytboodnbjhgobgaa
open Go.RowKit
set_option linter.unusedSimpArgs false
set_option linter.unusedVariables false

theorem szN_no {n : Nat} (h : 1048576 < n) : szN 1048576 n = -1 := by unfold szN; rw [if_pos (by omega)]
theorem szN_yes {n : Nat} (h : n ≤ 1048576) : szN 1048576 n = 1048576 - (n : Int) := by unfold szN; rw [if_neg (by omega)]
/-- A box of three cells, where blocks from B to ahead of C alone may have turned. -/
theorem Tri.far {w w' : World} {B C b : Nat} {x y z : Value} (h : Tri w b x y z) (hf : Far B C w w') (hb : b < B ∨ C ≤ b) : Tri w' b x y z := by
  have e := hf.block b h.lt hb
  obtain ⟨h0, h1, h2, h3, h4, h5, h6⟩ := h
  refine ⟨Nat.lt_of_lt_of_le h0 hf.size, ?_, ?_, ?_, ?_, ?_, ?_⟩ <;> simp only [World.cell?, World.frozen?, e] at * <;> assumption
theorem VSl.at {w : World} {B C : Nat} {a : Option Addr} {n c : Nat} {xs : List Int} {b : Nat} (h : VSl w B C (.slice a n c) xs b) : Row w a n xs := by
  obtain ⟨a', c', e, hr⟩ := h.row
  cases e
  exact hr
theorem Far.after {B C : Nat} {w x y : World} (h : Below w.heap.size w x) (hf : Far B C x y) (hB : w.heap.size ≤ B) : Below w.heap.size w y := h.trans (hf.below hB h.size)
end Go.Proofs.Ytboodnbjhgobgaa
