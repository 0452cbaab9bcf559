/- The walk of the law FnExactReadVec. -/
import Derived.Test.YtggjcccdeaadbaaGreatDoorZ29
import Derived.Test.YtggjcccdeaadbaaGreatDoorZ14
import Derived.WalkSmall
namespace Go.Proofs.YtggjcccdeaadbaaGreatDoor
open Go.RowKit
set_option maxRecDepth 8000
set_option linter.unusedSimpArgs false
set_option linter.unusedVariables false

theorem tab_lt {w : World} (h : Tab w) : 2 < w.heap.size := by
  unfold Tab Lib.TabIs World.var? at h
  rw [tabG] at h
  simp only [Option.bind_some] at h
  rcases Nat.lt_or_ge 2 w.heap.size with h' | h'
  · exact h'
  · rw [Array.getElem?_eq_none h'] at h; cases h

theorem Vars.from {B : Nat} {w2 w w' : World} (h2 : Vars w2) (h : Vars w) (hb : Below B w w') (hB : w2.heap.size ≤ B) : Vars w' := by
  have lt := tab_lt h2.tab
  have l1 := h2.ls
  have l2 := h2.lr
  obtain ⟨t, ls, ⟨te, pe, hs⟩, lr, ⟨te', pe', hr⟩⟩ := h
  refine ⟨?_, Nat.lt_of_lt_of_le ls hb.size, ⟨te, pe, (hb.cell (p := ⟨5, 0, none⟩) (by show 5 < B; omega)).trans hs⟩, Nat.lt_of_lt_of_le lr hb.size, ⟨te', pe', (hb.cell (p := ⟨6, 0, none⟩) (by show 6 < B; omega)).trans hr⟩⟩
  exact var?_below hb tabG (by omega) t

theorem Mlen.from {B : Nat} {w2 w w' : World} (h2 : Mlen w2) (h : Mlen w) (hb : Below B w w') (hB : w2.heap.size ≤ B) : Mlen w' := by
  have l1 := h2.lt
  obtain ⟨lt, m, hm⟩ := h
  exact ⟨Nat.lt_of_lt_of_le lt hb.size, m, (hb.cell (p := ⟨1, 0, none⟩) (by show 1 < B; omega)).trans hm⟩

end Go.Proofs.YtggjcccdeaadbaaGreatDoor