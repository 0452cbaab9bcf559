/- The walk of the law FnHeapSorted. -/
import Derived.Test.YtimkbnchbfkhnaaRE0
import Derived.Test.YtimkbnchbfkhnaaDP
import Derived.OpenShut
namespace Go.Proofs.Ytimkbnchbfkhnaa
open Go.RowKit
set_option maxRecDepth 8000
set_option linter.unusedSimpArgs false
set_option linter.unusedVariables false

theorem cnt_up (L : NL) (n : Nat) (x : Int × Int) : cnt L (n + 1) x = cnt L n x + if L n = x then 1 else 0 := rfl

theorem cnt_bound (L : NL) (x : Int × Int) : ∀ n, cnt L n x ≤ n
  | 0 => Nat.le_refl _
  | n + 1 => by rw [cnt_up]; have := cnt_bound L x n; split <;> omega

theorem eqP (p x : Int × Int) : (p.1 == x.1 && p.2 == x.2) = decide (p = x) := by
  obtain ⟨p1, p2⟩ := p
  obtain ⟨x1, x2⟩ := x
  by_cases h1 : p1 = x1 <;> by_cases h2 : p2 = x2 <;> simp [h1, h2]
/-- Of a row two that are read, and the box that leads to it. -/
structure Bz5 (w : World) (z : Nat) (s : Value) (b o b' o' : Nat) (x y : Int × Int) : Prop where
  lz : z < w.heap.size
  c : w.cell? ⟨z, 1, none⟩ = some s
  lb : b < w.heap.size
  c0 : w.cell? ⟨b, o, none⟩ = some (.int .i64 x.1)
  c1 : w.cell? ⟨b, o + 1, none⟩ = some (.int .i64 x.2)
  lb' : b' < w.heap.size
  d0 : w.cell? ⟨b', o', none⟩ = some (.int .i64 y.1)
  d1 : w.cell? ⟨b', o' + 1, none⟩ = some (.int .i64 y.2)

theorem Bz5.below {w w' : World} {z : Nat} {s : Value} {b o b' o' : Nat} {x y : Int × Int} (h : Bz5 w z s b o b' o' x y) (hb : Below w.heap.size w w') : Bz5 w' z s b o b' o' x y :=
  ⟨Nat.lt_of_lt_of_le h.lz hb.size, (hb.cell (p := ⟨z, 1, none⟩) h.lz).trans h.c, Nat.lt_of_lt_of_le h.lb hb.size, (hb.cell (p := ⟨b, o, none⟩) h.lb).trans h.c0, (hb.cell (p := ⟨b, o + 1, none⟩) h.lb).trans h.c1, Nat.lt_of_lt_of_le h.lb' hb.size, (hb.cell (p := ⟨b', o', none⟩) h.lb').trans h.d0, (hb.cell (p := ⟨b', o' + 1, none⟩) h.lb').trans h.d1⟩

theorem Bz5.drew {w : World} {z : Nat} {s : Value} {b o b' o' : Nat} {x y : Int × Int} (h : Bz5 w z s b o b' o' x y) : Bz5 w.drew z s b o b' o' x y := h.below (Below.drew (Below.refl _ _))

theorem PRow.twoH {w : World} {a : Option Addr} {n : Nat} {f g : Nat → Int} (h : PRow w a n f g) {i : Nat} (hi : i < n) : ∃ b off, a = some ⟨b, off, none⟩ ∧ b < w.heap.size ∧ ∀ j, j < n → w.cell? ⟨b, off + j * 2, none⟩ = some (.int .i64 (f j)) ∧ w.cell? ⟨b, off + j * 2 + 1, none⟩ = some (.int .i64 (g j)) := by
  rcases h.lies with h0 | ⟨b, off, e, lt, hc⟩
  · omega
  · exact ⟨b, off, e, lt, hc⟩

theorem nless_sorted {n : Nat} {A : NL} (h : SortedP n A) {i : Nat} (h0 : 0 < i) (hi : i < n) : nlessB (A i).1 (A i).2 (A (i - 1)).1 (A (i - 1)).2 = false := by
  have := h (i - 1) (by omega)
  rw [show i - 1 + 1 = i by omega] at this
  unfold nlessB
  rw [show lessB (A i).1 (A i).2 (A (i - 1)).1 (A (i - 1)).2 = false from this, Bool.and_false]

end Go.Proofs.Ytimkbnchbfkhnaa