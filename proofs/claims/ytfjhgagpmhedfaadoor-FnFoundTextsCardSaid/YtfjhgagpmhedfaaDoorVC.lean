/- Vectors of the program: vectorOf, VecOk. -/
import Derived.Test.YtfjhgagpmhedfaaDoorVB
namespace Go.Proofs.YtfjhgagpmhedfaaDoor
open Go.RowKit
set_option maxRecDepth 8000
set_option linter.unusedSimpArgs false

/-- A vector as the program has it: eight numbers, noughts behind, and how many. -/
def vecV (xs : List Int) (n : Int) : Value := .agg #[.int .i64 (nth xs 0), .int .i64 (nth xs 1), .int .i64 (nth xs 2), .int .i64 (nth xs 3), .int .i64 (nth xs 4), .int .i64 (nth xs 5), .int .i64 (nth xs 6), .int .i64 (nth xs 7), .int .i64 n]
def cellF (xs : List Int) (n : Nat) (k j : Nat) : Value := if j < k then .int .i64 (nth xs j) else if j = 8 then .int .i64 n else .int .i64 0



theorem cellF_step {w : World} {g n k : Nat} {xs : List Int} {t : TypeId} (h : w.rowIs g t 9 (cellF xs n k)) (hk : k < 8) :
    (w.setCell ⟨g, k, none⟩ (.int .i64 (nth xs k))).rowIs g t 9 (cellF xs n (k + 1)) := by
  refine (World.rowIs.set h k _).congr fun j hj => ?_
  unfold cellF
  by_cases e : j = k
  · subst e; simp
  · by_cases l : j < k
    · rw [if_neg e, if_pos l, if_pos (by omega)]
    · simp [e, l, show ¬ j < k + 1 by omega]

theorem start0 (w : World) (n : Int) (t : TypeId) : ((w.alloc (.cells #[.int .i64 0, .int .i64 0, .int .i64 0, .int .i64 0, .int .i64 0, .int .i64 0, .int .i64 0, .int .i64 0, .int .i64 0] t)).alloc (.cells #[.int .i64 0, .int .i64 0, .int .i64 0, .int .i64 0, .int .i64 0, .int .i64 0, .int .i64 0, .int .i64 0, .int .i64 n] t)).rowIs w.heap.size t 9 (fun _ => .int .i64 0) := by
  refine World.rowIs.alloc (World.rowIs_alloc w _ t _ ?_) _
  intro i hi
  have : i < 9 := hi
  rcases (show i = 0 ∨ i = 1 ∨ i = 2 ∨ i = 3 ∨ i = 4 ∨ i = 5 ∨ i = 6 ∨ i = 7 ∨ i = 8 by omega) with rfl | rfl | rfl | rfl | rfl | rfl | rfl | rfl | rfl <;> rfl

theorem start1 (w : World) (n : Nat) (o : Obj) (xs : List Int) (t : TypeId) : ((w.alloc o).alloc (.cells #[.int .i64 0, .int .i64 0, .int .i64 0, .int .i64 0, .int .i64 0, .int .i64 0, .int .i64 0, .int .i64 0, .int .i64 n] t)).rowIs (w.heap.size + 1) t 9 (cellF xs n 0) := by
  have := World.rowIs_alloc (w.alloc o) #[.int .i64 0, .int .i64 0, .int .i64 0, .int .i64 0, .int .i64 0, .int .i64 0, .int .i64 0, .int .i64 0, .int .i64 n] t (cellF xs n 0) ?_
  · rw [World.size_alloc] at this
    exact this
  · intro i hi
    have : i < 9 := hi
    rcases (show i = 0 ∨ i = 1 ∨ i = 2 ∨ i = 3 ∨ i = 4 ∨ i = 5 ∨ i = 6 ∨ i = 7 ∨ i = 8 by omega) with rfl | rfl | rfl | rfl | rfl | rfl | rfl | rfl | rfl <;> rfl

theorem nth_past {xs : List Int} {j : Nat} (h : xs.length ≤ j) : nth xs j = 0 := by simp [nth, h]

theorem cellF_end {xs : List Int} {n j : Nat} (hl : xs.length = n) (hj : j < 8) : cellF xs n n j = .int .i64 (nth xs j) := by
  unfold cellF
  by_cases h : j < n
  · rw [if_pos h]
  · rw [if_neg h, if_neg (by omega), nth_past (by omega)]

theorem cellF_n {xs : List Int} {n : Nat} (h : n ≤ 8) : cellF xs n n 8 = .int .i64 n := by
  unfold cellF
  rw [if_neg (by omega), if_pos rfl]







end Go.Proofs.YtfjhgagpmhedfaaDoor