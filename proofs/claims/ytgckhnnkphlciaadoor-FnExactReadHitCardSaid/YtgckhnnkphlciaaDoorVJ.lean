/- A vector of the program as a list. -/
import Derived.Test.YtgckhnnkphlciaaDoorVI
import Derived.Laws.CopyOwn
namespace Go.Proofs.YtgckhnnkphlciaaDoor
open Go.RowKit
set_option maxRecDepth 8000
set_option linter.unusedSimpArgs false

theorem Tryd.arr8 : Tryd.prog.arrayLen 71 = 8 := by kernel_rfl

theorem Tryd.arr8e : Tryd.prog.elem 71 = 2 := by kernel_rfl

theorem sliceArr (a : Addr) (n : Nat) (h8 : n ≤ 8) (w : World) : (Instr.sliceAt 71 (.pointer (some a)) none (some (.int .i64 n)) none).run Tryd.prog w = .ok (.slice (some a) n 8) w := by
  rw [run_sliceAt_array_h (P := Tryd.prog) w 71 a (by kernel_rfl) .i64 n (by omega) (by rw [Tryd.arr8]; omega), Tryd.arr8e, Tryd.sizeOf2, Tryd.arr8]
  simp [slicedAt, Addr.add, Result.andThen]

/-- The first n cells of the box. -/
theorem box_cells (xs : List Int) (m : Int) (n : Nat) (h8 : n ≤ 8) : ∀ (j : Nat) (v : Value), (vals (nth xs) n)[j]? = some v → ([.int .i64 (nth xs 0), .int .i64 (nth xs 1), .int .i64 (nth xs 2), .int .i64 (nth xs 3), .int .i64 (nth xs 4), .int .i64 (nth xs 5), .int .i64 (nth xs 6), .int .i64 (nth xs 7), .int .i64 m] : List Value)[j]? = some v := by
  intro j v hj
  have hjn : j < n := by
    have := (List.getElem?_eq_some_iff.1 hj).1
    rwa [vals_len] at this
  have hv : v = .int .i64 (nth xs j) := by simpa [vals, hjn] using hj.symm
  subst hv
  rcases (show j = 0 ∨ j = 1 ∨ j = 2 ∨ j = 3 ∨ j = 4 ∨ j = 5 ∨ j = 6 ∨ j = 7 by omega) with rfl | rfl | rfl | rfl | rfl | rfl | rfl | rfl <;> rfl

theorem own_of_splice {w : World} {g n : Nat} {f : Nat → Int} {cur : List Value} (hlen : cur.length = n) (h : w.heap[g]? = some (.cells (splice cur 0 (vals f n)).toArray 2 (0, 0))) : Own w g (ints f n) := by
  have e : splice cur 0 (vals f n) = vals f n := by simp [splice, vals_len, hlen]
  rw [e] at h
  refine ⟨_, h, ?_, fun i hi => ?_⟩
  · simp [vals_len, ints_len]
  · rw [ints_len] at hi
    simp [vals, hi, nth_ints f n i hi]

end Go.Proofs.YtgckhnnkphlciaaDoor