/- Slices of texts that are read; plain. -/
import Derived.Test.YtecheolhmohhjaaDoorSB0
import Derived.Test.YtecheolhmohhjaaDoorVA0
namespace Go.Proofs.YtecheolhmohhjaaDoor
open Go.RowKit
set_option maxRecDepth 8000
set_option linter.unusedSimpArgs false
set_option linter.unusedVariables false

theorem nth_map (p : List (List UInt8)) (k : Nat) (x : List UInt8) (h : p[k]? = some x) : nth (p.map numV) k = numV x := by
  unfold nth
  rw [List.getD_eq_getElem?_getD, List.getElem?_map, h]; rfl
/-- A slice of texts that is read. -/
structure Strs (w : World) (g n : Nat) (P : List (List UInt8)) : Prop where
  lt : g < w.heap.size
  len : P.length = n
  cell : ∀ j, j < n → ∃ x, P[j]? = some x ∧ w.cell? ⟨g, j, none⟩ = some (.string (bs x))

theorem Strs.below {w w' : World} {g n : Nat} {P : List (List UInt8)} (h : Strs w g n P) (hb : Below w.heap.size w w') : Strs w' g n P :=
  ⟨Nat.lt_of_lt_of_le h.lt hb.size, h.len, fun j hj => by obtain ⟨x, a, b⟩ := h.cell j hj; exact ⟨x, a, (hb.cell (p := ⟨g, j, none⟩) h.lt).trans b⟩⟩
end Go.Proofs.YtecheolhmohhjaaDoor
