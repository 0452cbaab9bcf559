/- Numbers' texts and cuts, plain. -/
import Derived.Test.YtggjcccdeaadbaaGreatDoorZ2
import Derived.Test.YtggjcccdeaadbaaGreatDoorZ4
namespace Go.Proofs.YtggjcccdeaadbaaGreatDoor
open Go.RowKit
set_option maxRecDepth 8000
open Go.Lib
set_option linter.unusedSimpArgs false
set_option linter.unusedVariables false

theorem not_in_itoa {x : Int} (h : 0 ≤ x) {c : UInt8} (hc : ¬ (48 ≤ c.toNat ∧ c.toNat ≤ 57)) : c ∉ itoa x := fun q => by
  rw [itoa_pos h] at q
  exact hc (dec_dig (x.toNat + 1) x.toNat (by omega) c q)

theorem numV_itoa {x : Int} (h0 : 0 ≤ x) (h1 : x ≤ 9999999999999999) : numV (itoa x) = x ∧ (numL (itoa x)).isSome = true := by
  unfold numV; rw [numL_itoa (by omega) h1]; exact ⟨rfl, rfl⟩

theorem mag_len (l : List UInt8) : l.length ≤ (magL l).length + 1 := by
  unfold magL
  split
  · rw [List.length_tail]; omega
  · omega

theorem itoa17 {x : Int} (h0 : 0 ≤ x) (h1 : x ≤ 9999999999999999) : (itoa x).length ≤ 17 := by
  have := ((numL_iff _ _).1 (numL_itoa (x := x) (by omega) h1)).2
  have := mag_len (itoa x)
  omega

theorem cut_fst (c : UInt8) (l : List UInt8) : (cutL c l).1.length ≤ l.length := by
  have := congrArg List.length (cut_back c l).2
  rw [List.length_append] at this; omega

theorem cut_snd (c : UInt8) (l : List UInt8) : (cutL c l).2.1.length ≤ l.length := by have := cut_len c l; omega
end Go.Proofs.YtggjcccdeaadbaaGreatDoor

/- Slices of texts that are read; plain. -/
namespace Go.Proofs.YtggjcccdeaadbaaGreatDoor
open Go.RowKit
set_option maxRecDepth 8000
set_option linter.unusedSimpArgs false
set_option linter.unusedVariables false

theorem nth_map (p : List (List UInt8)) (k : Nat) (x : List UInt8) (h : p[k]? = some x) : nth (p.map numV) k = numV x := by
  unfold nth
  rw [List.getD_eq_getElem?_getD, List.getElem?_map, h]; rfl
/-- A slice of texts that is read. -/
structure Strs (w : World) (g n : Nat) (P : List (List UInt8)) : Prop where
  lt : g < w.heap.size
  len : P.length = n
  cell : ∀ j, j < n → ∃ x, P[j]? = some x ∧ w.cell? ⟨g, j, none⟩ = some (.string (bs x))

theorem Strs.below {w w' : World} {g n : Nat} {P : List (List UInt8)} (h : Strs w g n P) (hb : Below w.heap.size w w') : Strs w' g n P :=
  ⟨Nat.lt_of_lt_of_le h.lt hb.size, h.len, fun j hj => by obtain ⟨x, a, b⟩ := h.cell j hj; exact ⟨x, a, (hb.cell (p := ⟨g, j, none⟩) h.lt).trans b⟩⟩
end Go.Proofs.YtggjcccdeaadbaaGreatDoor
