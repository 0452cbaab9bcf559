/- copiedItems of the program: items of several slices, one behind the other. -/
import Derived.Test.YtkajpidfiepkcaaIQ
namespace Go.Proofs.Ytkajpidfiepkcaa
open Go.RowKit
set_option linter.unusedSimpArgs false
set_option linter.unusedVariables false

/-- How many items the first i parts have, and these. -/
def catN (pn : Nat → Nat) : Nat → Nat
  | 0 => 0
  | i + 1 => catN pn i + pn i
def catL (pn : Nat → Nat) (PL : Nat → IL) : Nat → IL
  | 0 => fun _ => ⟨0, 0, []⟩
  | i + 1 => fun j => if j < catN pn i then catL pn PL i j else PL i (j - catN pn i)
theorem catN_mono {pn : Nat → Nat} {i j : Nat} (h : i ≤ j) : catN pn i ≤ catN pn j := by
  induction j with
  | zero => rw [show i = 0 by omega]; exact Nat.le_refl _
  | succ j ih =>
    by_cases e : i = j + 1
    · subst e; exact Nat.le_refl _
    · have := ih (by omega); show catN pn i ≤ catN pn j + _; omega
theorem GI.congr {w : World} {base g cap m : Nat} {M N : IL} {V : Nat → Nat} {sv : Nat → Value} (h : GI w base g cap m M V sv) (e : ∀ i, i < m → M i = N i) : GI w base g cap m N V sv :=
  ⟨by rw [← icl_congr e (fun _ _ => rfl)]; exact h.own, h.vecs.congr e (fun _ _ => rfl) (fun _ _ => rfl)⟩
/-- Items that grow, which are the first m of N. -/
def GIs (w : World) (base : Nat) (v : Value) (m : Nat) (N : IL) : Prop := ∃ g c V sv, v = .slice (some ⟨g, 0, none⟩) m c ∧ GI w base g c m N V sv

/-- The slices that lie in a block, one cell each. -/
structure Parts (w : World) (pb np : Nat) (pa : Nat → Option Addr) (pn pc : Nat → Nat) (PL : Nat → IL) : Prop where
  lt : pb < w.heap.size
  cell : ∀ i, i < np → w.cell? ⟨pb, i, none⟩ = some (.slice (pa i) (pn i) (pc i))
  row : ∀ i, i < np → IRow w (pa i) (pn i) (PL i)
theorem Parts.below {w w' : World} {pb np : Nat} {pa : Nat → Option Addr} {pn pc : Nat → Nat} {PL : Nat → IL} (h : Parts w pb np pa pn pc PL) (hb : Below w.heap.size w w') : Parts w' pb np pa pn pc PL :=
  ⟨Nat.lt_of_lt_of_le h.lt hb.size, fun i hi => (hb.cell (p := ⟨pb, i, none⟩) h.lt).trans (h.cell i hi), fun i hi => (h.row i hi).below hb⟩

/-- The answer of copiedItems. -/
def CatR (w : World) (m : Nat) (N : IL) (e : Ending) (w' : World) : Prop :=
  ∃ v, e = .returned v ∧ GIs w' w.heap.size v m N ∧ Below w.heap.size w w'

end Go.Proofs.Ytkajpidfiepkcaa