/- A box of two cells that a region lays for its answer. -/
import Derived.Test.YthiklcldbjmgfaaZ1
namespace Go.Proofs.Ythiklcldbjmgfaa
open Go.RowKit
set_option maxRecDepth 8000

/-- Block b of w is a box of two cells that hold x and y, and may be written. -/
structure Box (t : Nat) (w : World) (b : Nat) (x y : Value) : Prop where
  lt : b < w.heap.size
  c0 : w.cell? ⟨b, 0, none⟩ = some x
  c1 : w.cell? ⟨b, 1, none⟩ = some y
  f0 : w.frozen? ⟨b, 0, none⟩ = false
  f1 : w.frozen? ⟨b, 1, none⟩ = false

theorem Box.below {t : Nat} {w w' : World} {b : Nat} {x y : Value} (h : Box t w b x y) (hb : Below w.heap.size w w') : Box t w' b x y :=
  ⟨Nat.lt_of_lt_of_le h.lt hb.size, (hb.cell (p := ⟨b, 0, none⟩) h.lt).trans h.c0, (hb.cell (p := ⟨b, 1, none⟩) h.lt).trans h.c1, (hb.frozen (p := ⟨b, 0, none⟩) h.lt).trans h.f0, (hb.frozen (p := ⟨b, 1, none⟩) h.lt).trans h.f1⟩

theorem Box.new (t : Nat) (w : World) (x y : Value) (T : TypeId) : Box t (w.alloc (.cells #[x, y] T)) w.heap.size x y :=
  ⟨by simp, by simp, by simp, by simp, by simp⟩

theorem Box.drew {t : Nat} {w : World} {b : Nat} {x y : Value} (h : Box t w b x y) : Box t w.drew b x y := ⟨h.lt, h.c0, h.c1, h.f0, h.f1⟩

theorem Box.fresh (t : Nat) (T : TypeId) {w w' : World} {x y : Value} (hb : Below (w.alloc (.cells #[x, y] T)).heap.size (w.alloc (.cells #[x, y] T)) w') : Box t w' w.heap.size x y := (Box.new t w x y T).below hb

theorem Box.freshDrew (t : Nat) (T : TypeId) {w w' : World} {x y : Value} (hb : Below (w.alloc (.cells #[x, y] T)).drew.heap.size (w.alloc (.cells #[x, y] T)).drew w') : Box t w' w.heap.size x y := (Box.new t w x y T).drew.below hb
end Go.Proofs.Ythiklcldbjmgfaa

/- Contracts of ranges, more: RangeLeq. -/
namespace Go.Proofs.Ythiklcldbjmgfaa
open Go.RowKit
set_option maxRecDepth 8000
set_option linter.unusedSimpArgs false



end Go.Proofs.Ythiklcldbjmgfaa
/- Whether an id is right. -/
namespace Go.Proofs.Ythiklcldbjmgfaa
open Go.RowKit
set_option maxRecDepth 8000
set_option linter.unusedSimpArgs false

set_option maxHeartbeats 400000 in
theorem idOk_any (n : Int) (w : World) :
    Calls Try.prog 47 #[.int .i64 n] w fun e w' => e = .returned (.bool (inB n 1 9999)) ∧ w' = w := by
  by_cases h1 : 1 ≤ n <;> by_cases h2 : n ≤ 9999
  all_goals
    simp only [inB, h1, h2, and_true, and_false, decide_true, decide_false]
    go_enter Try.func47, Try.ntmps47
    go_wp2
    go_ret
    exact ⟨rfl, rfl⟩

set_option maxHeartbeats 400000 in
theorem l6Id_any (n : Int) (w : World) :
    Calls Try.prog 56 #[.int .i64 n] w fun e w' => e = .returned (.bool (inB n 1 9999)) ∧ w' = w := by
  go_enter Try.func56, Try.ntmps56
  go_wp2_with (go_at_call 39; refine (l1In_any _ _ _ _).mono ?_; rintro e w' ⟨rfl, rfl⟩)
  go_ret
  exact ⟨rfl, rfl⟩
end Go.Proofs.Ythiklcldbjmgfaa
