/- A vector of the program as a list. -/
import Derived.Test.YtggjcccdeaadbaaGreatDoorZ4
import Derived.Laws.CopyOwn
namespace Go.Proofs.YtggjcccdeaadbaaGreatDoor
open Go.RowKit
set_option maxRecDepth 8000
set_option linter.unusedSimpArgs false

theorem Tryz.arr8 : Tryz.prog.arrayLen 93 = 8 := by kernel_rfl

theorem Tryz.arr8e : Tryz.prog.elem 93 = 2 := by kernel_rfl

theorem sliceArr (a : Addr) (n : Nat) (h8 : n ≤ 8) (w : World) : (Instr.sliceAt 93 (.pointer (some a)) none (some (.int .i64 n)) none).run Tryz.prog w = .ok (.slice (some a) n 8) w := by
  rw [run_sliceAt_array_h (P := Tryz.prog) w 93 a (by kernel_rfl) .i64 n (by omega) (by rw [Tryz.arr8]; omega), Tryz.arr8e, Tryz.sizeOf2, Tryz.arr8]
  simp [slicedAt, Addr.add, Result.andThen]

/-- The first n cells of the box. -/
theorem box_cells (xs : List Int) (m : Int) (n : Nat) (h8 : n ≤ 8) : ∀ (j : Nat) (v : Value), (vals (nth xs) n)[j]? = some v → ([.int .i64 (nth xs 0), .int .i64 (nth xs 1), .int .i64 (nth xs 2), .int .i64 (nth xs 3), .int .i64 (nth xs 4), .int .i64 (nth xs 5), .int .i64 (nth xs 6), .int .i64 (nth xs 7), .int .i64 m] : List Value)[j]? = some v := by
  intro j v hj
  have hjn : j < n := by
    have := (List.getElem?_eq_some_iff.1 hj).1
    rwa [vals_len] at this
  have hv : v = .int .i64 (nth xs j) := by simpa [vals, hjn] using hj.symm
  subst hv
  rcases (show j = 0 ∨ j = 1 ∨ j = 2 ∨ j = 3 ∨ j = 4 ∨ j = 5 ∨ j = 6 ∨ j = 7 by omega) with rfl | rfl | rfl | rfl | rfl | rfl | rfl | rfl <;> rfl

theorem own_of_splice {w : World} {g n : Nat} {f : Nat → Int} {cur : List Value} (hlen : cur.length = n) (h : w.heap[g]? = some (.cells (splice cur 0 (vals f n)).toArray 2 (0, 0))) : Own w g (ints f n) := by
  have e : splice cur 0 (vals f n) = vals f n := by simp [splice, vals_len, hlen]
  rw [e] at h
  refine ⟨_, h, ?_, fun i hi => ?_⟩
  · simp [vals_len, ints_len]
  · rw [ints_len] at hi
    simp [vals, hi, nth_ints f n i hi]

end Go.Proofs.YtggjcccdeaadbaaGreatDoor
/- Vectors of the program: turned, plus. -/
namespace Go.Proofs.YtggjcccdeaadbaaGreatDoor
open Go.RowKit
set_option maxRecDepth 8000
set_option linter.unusedSimpArgs false

theorem idx8 (xs : List Int) (k : Nat) (hk : k < 8) (w : World) : (Instr.index 93 (.agg #[.int .i64 (nth xs 0), .int .i64 (nth xs 1), .int .i64 (nth xs 2), .int .i64 (nth xs 3), .int .i64 (nth xs 4), .int .i64 (nth xs 5), .int .i64 (nth xs 6), .int .i64 (nth xs 7)]) (.int .i64 k)).run Tryz.prog w = .ok (.int .i64 (nth xs k)) w := by
  rcases (show k = 0 ∨ k = 1 ∨ k = 2 ∨ k = 3 ∨ k = 4 ∨ k = 5 ∨ k = 6 ∨ k = 7 by omega) with rfl | rfl | rfl | rfl | rfl | rfl | rfl | rfl <;> kernel_rfl

/-- A box of a vector whose first k numbers are made anew. -/
def turnF (f : Nat → Int) (xs : List Int) (n : Int) (k j : Nat) : Value := .int .i64 (if j < k then f j else if j < 8 then nth xs j else n)

theorem turnF_step {w : World} {g k : Nat} {n : Int} {f : Nat → Int} {xs : List Int} {t : TypeId} (h : w.rowIs g t 9 (turnF f xs n k)) :
    (w.setCell ⟨g, k, none⟩ (.int .i64 (f k))).rowIs g t 9 (turnF f xs n (k + 1)) := by
  refine (World.rowIs.set h k _).congr fun j hj => ?_
  unfold turnF
  by_cases e : j = k
  · subst e; simp
  · by_cases l : j < k
    · rw [if_neg e, if_pos l, if_pos (by omega)]
    · rw [if_neg e, if_neg l]
      simp [show ¬ j < k + 1 by omega]

theorem turnF_lt {f : Nat → Int} {xs : List Int} {n : Int} {k j : Nat} (h : j < k) : turnF f xs n k j = .int .i64 (f j) := by unfold turnF; rw [if_pos h]

theorem turnF_mid {f : Nat → Int} {xs : List Int} {n : Int} {k : Nat} (h : k < 8) : turnF f xs n k k = .int .i64 (nth xs k) := by unfold turnF; rw [if_neg (by omega), if_pos h]

theorem turnF_n {f : Nat → Int} {xs : List Int} {n : Int} : turnF f xs n 8 8 = .int .i64 n := by unfold turnF; rw [if_neg (by omega), if_neg (by omega)]

theorem turn_start (w : World) (f : Nat → Int) (xs : List Int) (n : Int) (t : TypeId) : (w.alloc (.cells #[.int .i64 (nth xs 0), .int .i64 (nth xs 1), .int .i64 (nth xs 2), .int .i64 (nth xs 3), .int .i64 (nth xs 4), .int .i64 (nth xs 5), .int .i64 (nth xs 6), .int .i64 (nth xs 7), .int .i64 n] t)).rowIs w.heap.size t 9 (turnF f xs n 0) := by
  refine World.rowIs_alloc w _ t _ ?_
  intro i hi
  have : i < 9 := hi
  rcases (show i = 0 ∨ i = 1 ∨ i = 2 ∨ i = 3 ∨ i = 4 ∨ i = 5 ∨ i = 6 ∨ i = 7 ∨ i = 8 by omega) with rfl | rfl | rfl | rfl | rfl | rfl | rfl | rfl | rfl <;> rfl

theorem zero_start (w : World) (t : TypeId) : (w.alloc (.cells #[.int .i64 0, .int .i64 0, .int .i64 0, .int .i64 0, .int .i64 0, .int .i64 0, .int .i64 0, .int .i64 0, .int .i64 0] t)).rowIs w.heap.size t 9 (fun _ => .int .i64 0) := by
  refine World.rowIs_alloc w _ t _ ?_
  intro i hi
  have : i < 9 := hi
  rcases (show i = 0 ∨ i = 1 ∨ i = 2 ∨ i = 3 ∨ i = 4 ∨ i = 5 ∨ i = 6 ∨ i = 7 ∨ i = 8 by omega) with rfl | rfl | rfl | rfl | rfl | rfl | rfl | rfl | rfl <;> rfl



end Go.Proofs.YtggjcccdeaadbaaGreatDoor
/- VecNeg, VecAdd of the program. -/
namespace Go.Proofs.YtggjcccdeaadbaaGreatDoor
open Go.RowKit
set_option maxRecDepth 8000
set_option linter.unusedSimpArgs false

theorem bd8 {xs : List Int} {n : Nat} (h : vecOkB xs = true) (hl : xs.length = n) : ∀ j, j < 8 → -1048576 ≤ nth xs j ∧ nth xs j ≤ 1048576 := by
  intro j hj
  obtain ⟨_, _, hc⟩ := vecOk_bd h hl
  by_cases hjn : j < n
  · exact hc j hjn
  · rw [nth_past (by omega)]; omega

/-- A list of numbers made by f, read again by its places. -/
theorem ints_nth (f : Nat → Int) (n : Nat) : ints (nth (ints f n)) n = ints f n := by
  unfold ints
  exact List.map_congr_left fun j hj => nth_ints f n j (List.mem_range.1 hj)

/-- An answer of the program: nil, or a row of its own. -/
def Fresh (base : Nat) (w : World) (v : Value) (xs : List Int) : Prop :=
  (v = .slice none 0 0 ∧ xs = []) ∨ ∃ g, v = .slice (some ⟨g, 0, none⟩) xs.length xs.length ∧ base ≤ g ∧ Own w g xs

end Go.Proofs.YtggjcccdeaadbaaGreatDoor