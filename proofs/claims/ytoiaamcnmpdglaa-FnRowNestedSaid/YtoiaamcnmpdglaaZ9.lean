/- rangeAt of the program. -/
import Derived.Test.YtoiaamcnmpdglaaZ7
import Derived.Deep.RegionHeld3
namespace Go.Proofs.Ytoiaamcnmpdglaa
open Go.RowKit
set_option maxRecDepth 8000
set_option linter.unusedSimpArgs false
set_option linter.unusedVariables false



def loF (xss : List (List Int)) (p : Nat) : Nat → Int
  | 0 => nth (row xss 0) p
  | k + 1 => min (loF xss p k) (nth (row xss k) p)
def hiF (xss : List (List Int)) (p : Nat) : Nat → Int
  | 0 => nth (row xss 0) p
  | k + 1 => max (hiF xss p k) (nth (row xss k) p)

/-- A box of two cells that may be written. -/
structure Pr (w : World) (b : Nat) (x y : Value) : Prop where
  lt : b < w.heap.size
  c0 : w.cell? ⟨b, 0, none⟩ = some x
  c1 : w.cell? ⟨b, 1, none⟩ = some y
  f0 : w.frozen? ⟨b, 0, none⟩ = false
  f1 : w.frozen? ⟨b, 1, none⟩ = false

theorem Pr.below {w w' : World} {b : Nat} {x y : Value} (h : Pr w b x y) (hb : Below w.heap.size w w') : Pr w' b x y :=
  ⟨Nat.lt_of_lt_of_le h.lt hb.size, (hb.cell (p := ⟨b, 0, none⟩) h.lt).trans h.c0, (hb.cell (p := ⟨b, 1, none⟩) h.lt).trans h.c1, (hb.frozen (p := ⟨b, 0, none⟩) h.lt).trans h.f0, (hb.frozen (p := ⟨b, 1, none⟩) h.lt).trans h.f1⟩

theorem Pr.alloc {w : World} {b : Nat} {x y : Value} (h : Pr w b x y) (o : Obj) : Pr (w.alloc o) b x y := h.below (balloc (Below.refl _ _) o)

theorem Pr.new (w : World) (x y : Value) (T : TypeId) : Pr (w.alloc (.cells #[x, y] T)) w.heap.size x y := ⟨by simp, by simp, by simp, by simp, by simp⟩

theorem Pr.drew {w : World} {b : Nat} {x y : Value} (h : Pr w b x y) : Pr w.drew b x y := ⟨h.lt, h.c0, h.c1, h.f0, h.f1⟩

theorem Pr.set {w : World} {b : Nat} {x y : Value} (h : Pr w b x y) (x' y' : Value) : Pr ((w.setCell ⟨b, 0, none⟩ x').setCell ⟨b, 1, none⟩ y') b x' y' := by
  obtain ⟨lt, c0, c1, f0, f1⟩ := h
  have e1 : (w.setCell ⟨b, 0, none⟩ x').cell? ⟨b, 1, none⟩ = some y := (World.cell?_setCell_other _ _ _ _ (by simp)).trans c1
  refine ⟨by simpa [World.setCell] using lt, ?_, World.cell?_setCell_same _ _ _ e1, ?_, ?_⟩
  · rw [World.cell?_setCell_other _ _ _ _ (by simp)]
    exact World.cell?_setCell_same _ _ _ c0
  · simp [go_sem, f0]
  · simp [go_sem, f1]

theorem Pr.far {w : World} {b g : Nat} {x y : Value} (h : Pr w b x y) (hne : g ≠ b) (o : Nat) (v : Value) : Pr (w.setCell ⟨g, o, none⟩ v) b x y := by
  obtain ⟨lt, c0, c1, f0, f1⟩ := h
  refine ⟨by simpa [World.setCell] using lt, ?_, ?_, ?_, ?_⟩
  · rw [World.cell?_setCell_other _ _ _ _ (by simp [hne])]; exact c0
  · rw [World.cell?_setCell_other _ _ _ _ (by simp [hne])]; exact c1
  · simp [go_sem, f0]
  · simp [go_sem, f1]

end Go.Proofs.Ytoiaamcnmpdglaa