/- Three cells, by place. -/
import Derived.Test.YtfjhgagpmhedfaaDoorVA0
namespace Go.Proofs.YtfjhgagpmhedfaaDoor
open Go.RowKit
set_option maxRecDepth 8000
set_option linter.unusedSimpArgs false
set_option linter.unusedVariables false

/-- A list of three numbers, by place. -/
def f3 (a b c : Int) (j : Nat) : Value := .int .i64 (if j = 0 then a else if j = 1 then b else c)

theorem f3_new (w : World) (a b c : Int) (T : TypeId) : (w.alloc (.cells #[.int .i64 a, .int .i64 b, .int .i64 c] T)).rowIs w.heap.size T 3 (f3 a b c) :=
  World.rowIs_alloc w #[.int .i64 a, .int .i64 b, .int .i64 c] T (f3 a b c) (by intro i hi; rcases (show i = 0 ∨ i = 1 ∨ i = 2 from by simp at hi; omega) with rfl | rfl | rfl <;> rfl)

theorem f3_set0 {w : World} {q : Nat} {T : TypeId} {a b c : Int} (h : w.rowIs q T 3 (f3 a b c)) (x : Int) : (w.setCell ⟨q, 0, none⟩ (.int .i64 x)).rowIs q T 3 (f3 x b c) :=
  (World.rowIs.set h 0 _).congr fun j hj => by rcases (show j = 0 ∨ j = 1 ∨ j = 2 from by omega) with rfl | rfl | rfl <;> rfl

theorem f3_set1 {w : World} {q : Nat} {T : TypeId} {a b c : Int} (h : w.rowIs q T 3 (f3 a b c)) (x : Int) : (w.setCell ⟨q, 1, none⟩ (.int .i64 x)).rowIs q T 3 (f3 a x c) :=
  (World.rowIs.set h 1 _).congr fun j hj => by rcases (show j = 0 ∨ j = 1 ∨ j = 2 from by omega) with rfl | rfl | rfl <;> rfl

theorem f3_set2 {w : World} {q : Nat} {T : TypeId} {a b c : Int} (h : w.rowIs q T 3 (f3 a b c)) (x : Int) : (w.setCell ⟨q, 2, none⟩ (.int .i64 x)).rowIs q T 3 (f3 a b x) :=
  (World.rowIs.set h 2 _).congr fun j hj => by rcases (show j = 0 ∨ j = 1 ∨ j = 2 from by omega) with rfl | rfl | rfl <;> rfl

theorem three_set {w : World} {T : TypeId} {b : Nat} {F : Nat → Value} (h : w.rowIs b T 3 F) (v0 v1 v2 : Value) :
    (((w.setCell ⟨b, 0, none⟩ v0).setCell ⟨b, 1, none⟩ v1).setCell ⟨b, 2, none⟩ v2).cell? ⟨b, 0, none⟩ = some v0 ∧ (((w.setCell ⟨b, 0, none⟩ v0).setCell ⟨b, 1, none⟩ v1).setCell ⟨b, 2, none⟩ v2).cell? ⟨b, 1, none⟩ = some v1 ∧ (((w.setCell ⟨b, 0, none⟩ v0).setCell ⟨b, 1, none⟩ v1).setCell ⟨b, 2, none⟩ v2).cell? ⟨b, 2, none⟩ = some v2 := by
  have W3 := World.rowIs.set (World.rowIs.set (World.rowIs.set h 0 v0) 1 v1) 2 v2
  exact ⟨by simpa using World.rowIs.cell W3 (show 0 < 3 by omega), by simpa using World.rowIs.cell W3 (show 1 < 3 by omega), by simpa using World.rowIs.cell W3 (show 2 < 3 by omega)⟩
end Go.Proofs.YtfjhgagpmhedfaaDoor
