/- Vectors of the program: turned, plus. -/
import Derived.Test.YtgckhnnkphlciaaDoorVJ
namespace Go.Proofs.YtgckhnnkphlciaaDoor
open Go.RowKit
set_option maxRecDepth 8000
set_option linter.unusedSimpArgs false

theorem idx8 (xs : List Int) (k : Nat) (hk : k < 8) (w : World) : (Instr.index 71 (.agg #[.int .i64 (nth xs 0), .int .i64 (nth xs 1), .int .i64 (nth xs 2), .int .i64 (nth xs 3), .int .i64 (nth xs 4), .int .i64 (nth xs 5), .int .i64 (nth xs 6), .int .i64 (nth xs 7)]) (.int .i64 k)).run Tryd.prog w = .ok (.int .i64 (nth xs k)) w := by
  rcases (show k = 0 ∨ k = 1 ∨ k = 2 ∨ k = 3 ∨ k = 4 ∨ k = 5 ∨ k = 6 ∨ k = 7 by omega) with rfl | rfl | rfl | rfl | rfl | rfl | rfl | rfl <;> kernel_rfl

/-- A box of a vector whose first k numbers are made anew. -/
def turnF (f : Nat → Int) (xs : List Int) (n : Int) (k j : Nat) : Value := .int .i64 (if j < k then f j else if j < 8 then nth xs j else n)

theorem turnF_step {w : World} {g k : Nat} {n : Int} {f : Nat → Int} {xs : List Int} {t : TypeId} (h : w.rowIs g t 9 (turnF f xs n k)) :
    (w.setCell ⟨g, k, none⟩ (.int .i64 (f k))).rowIs g t 9 (turnF f xs n (k + 1)) := by
  refine (World.rowIs.set h k _).congr fun j hj => ?_
  unfold turnF
  by_cases e : j = k
  · subst e; simp
  · by_cases l : j < k
    · rw [if_neg e, if_pos l, if_pos (by omega)]
    · rw [if_neg e, if_neg l]
      simp [show ¬ j < k + 1 by omega]

theorem turnF_lt {f : Nat → Int} {xs : List Int} {n : Int} {k j : Nat} (h : j < k) : turnF f xs n k j = .int .i64 (f j) := by unfold turnF; rw [if_pos h]

theorem turnF_mid {f : Nat → Int} {xs : List Int} {n : Int} {k : Nat} (h : k < 8) : turnF f xs n k k = .int .i64 (nth xs k) := by unfold turnF; rw [if_neg (by omega), if_pos h]

theorem turnF_n {f : Nat → Int} {xs : List Int} {n : Int} : turnF f xs n 8 8 = .int .i64 n := by unfold turnF; rw [if_neg (by omega), if_neg (by omega)]

theorem turn_start (w : World) (f : Nat → Int) (xs : List Int) (n : Int) (t : TypeId) : (w.alloc (.cells #[.int .i64 (nth xs 0), .int .i64 (nth xs 1), .int .i64 (nth xs 2), .int .i64 (nth xs 3), .int .i64 (nth xs 4), .int .i64 (nth xs 5), .int .i64 (nth xs 6), .int .i64 (nth xs 7), .int .i64 n] t)).rowIs w.heap.size t 9 (turnF f xs n 0) := by
  refine World.rowIs_alloc w _ t _ ?_
  intro i hi
  have : i < 9 := hi
  rcases (show i = 0 ∨ i = 1 ∨ i = 2 ∨ i = 3 ∨ i = 4 ∨ i = 5 ∨ i = 6 ∨ i = 7 ∨ i = 8 by omega) with rfl | rfl | rfl | rfl | rfl | rfl | rfl | rfl | rfl <;> rfl

theorem zero_start (w : World) (t : TypeId) : (w.alloc (.cells #[.int .i64 0, .int .i64 0, .int .i64 0, .int .i64 0, .int .i64 0, .int .i64 0, .int .i64 0, .int .i64 0, .int .i64 0] t)).rowIs w.heap.size t 9 (fun _ => .int .i64 0) := by
  refine World.rowIs_alloc w _ t _ ?_
  intro i hi
  have : i < 9 := hi
  rcases (show i = 0 ∨ i = 1 ∨ i = 2 ∨ i = 3 ∨ i = 4 ∨ i = 5 ∨ i = 6 ∨ i = 7 ∨ i = 8 by omega) with rfl | rfl | rfl | rfl | rfl | rfl | rfl | rfl | rfl <;> rfl



end Go.Proofs.YtgckhnnkphlciaaDoor