/- A vector of the program as a list. -/
import Derived.Test.YtpbehhanccodeaaVI
import Derived.Laws.CopyOwn
namespace Go.Proofs.Ytpbehhanccodeaa
open Go.RowKit
set_option maxRecDepth 8000
set_option linter.unusedSimpArgs false

theorem Try.arr8 : Try.prog.arrayLen 49 = 8 := by kernel_rfl

theorem Try.arr8e : Try.prog.elem 49 = 2 := by kernel_rfl

theorem sliceArr (a : Addr) (n : Nat) (h8 : n ≤ 8) (w : World) : (Instr.sliceAt 49 (.pointer (some a)) none (some (.int .i64 n)) none).run Try.prog w = .ok (.slice (some a) n 8) w := by
  rw [run_sliceAt_array_h (P := Try.prog) w 49 a (by kernel_rfl) .i64 n (by omega) (by rw [Try.arr8]; omega), Try.arr8e, Try.sizeOf2, Try.arr8]
  simp [slicedAt, Addr.add, Result.andThen]

/-- The first n cells of the box. -/
theorem box_cells (xs : List Int) (m : Int) (n : Nat) (h8 : n ≤ 8) : ∀ (j : Nat) (v : Value), (vals (nth xs) n)[j]? = some v → ([.int .i64 (nth xs 0), .int .i64 (nth xs 1), .int .i64 (nth xs 2), .int .i64 (nth xs 3), .int .i64 (nth xs 4), .int .i64 (nth xs 5), .int .i64 (nth xs 6), .int .i64 (nth xs 7), .int .i64 m] : List Value)[j]? = some v := by
  intro j v hj
  have hjn : j < n := by
    have := (List.getElem?_eq_some_iff.1 hj).1
    rwa [vals_len] at this
  have hv : v = .int .i64 (nth xs j) := by simpa [vals, hjn] using hj.symm
  subst hv
  rcases (show j = 0 ∨ j = 1 ∨ j = 2 ∨ j = 3 ∨ j = 4 ∨ j = 5 ∨ j = 6 ∨ j = 7 by omega) with rfl | rfl | rfl | rfl | rfl | rfl | rfl | rfl <;> rfl

theorem own_of_splice {w : World} {g n : Nat} {f : Nat → Int} {cur : List Value} (hlen : cur.length = n) (h : w.heap[g]? = some (.cells (splice cur 0 (vals f n)).toArray 2 (0, 0))) : Own w g (ints f n) := by
  have e : splice cur 0 (vals f n) = vals f n := by simp [splice, vals_len, hlen]
  rw [e] at h
  refine ⟨_, h, ?_, fun i hi => ?_⟩
  · simp [vals_len, ints_len]
  · rw [ints_len] at hi
    simp [vals, hi, nth_ints f n i hi]

set_option maxRecDepth 100000 in
set_option maxHeartbeats 1000000 in
theorem list_any (xs : List Int) (n : Nat) (w : World) (h1 : 1 ≤ n) (h8 : n ≤ 8) :
    Calls Try.prog 26 #[.agg #[.int .i64 (nth xs 0), .int .i64 (nth xs 1), .int .i64 (nth xs 2), .int .i64 (nth xs 3), .int .i64 (nth xs 4), .int .i64 (nth xs 5), .int .i64 (nth xs 6), .int .i64 (nth xs 7), .int .i64 n]] w fun e w' => ∃ g, e = .returned (.slice (some ⟨g, 0, none⟩) n n) ∧ w.heap.size ≤ g ∧ Own w' g (ints (nth xs) n) ∧ Below w.heap.size w w' := by
  have hmk := run_make_row' (P := Try.prog) 30 2 (.int .i64 0) 8 Try.underlying30 Try.infoI64 rfl .i64 .i64 n (by omega) (by omega)
  have hsl := fun a w => sliceArr a n h8 w
  obtain ⟨c, hc0, hcs, _⟩ := World.rowIs_made (w.alloc (.cells #[.int .i64 (nth xs 0), .int .i64 (nth xs 1), .int .i64 (nth xs 2), .int .i64 (nth xs 3), .int .i64 (nth xs 4), .int .i64 (nth xs 5), .int .i64 (nth xs 6), .int .i64 (nth xs 7), .int .i64 n] 51)) (.int .i64 0) n 2
  rw [World.size_alloc] at hc0
  have HC := hide hc0
  have HS := hide hcs
  clear hc0 hcs
  go_enter Try.func26, Try.ntmps26
  go_wp2_with (refine wpList_copy_splice rfl _ _ 30 30 rfl 2 Try.underlying30 (by kernel_rfl) _ _ n n n 8 rfl rfl (w.heap.size + 1) 0 c.toList 2 ?c1 (vals (nth xs) n) ?c2 ?c3 ?c4 ?c5 w.heap.size w ?c6 ?c7 ?_)
  case c1 => simpa using HC.out
  case c2 => rw [vals_len]
  case c3 => intro _; exact box_cells xs n n h8
  case c4 => rw [vals_len]; simp [HS.out]
  case c5 => intro v hv; simp [vals] at hv; obtain ⟨j, _, rfl⟩ := hv; rfl
  case c6 => exact (by repeat' first | with_reducible exact Below.refl _ _ | with_reducible assumption | with_reducible refine below_drewN ?_ _ | with_reducible refine balloc ?_ _ | with_reducible refine Below.drew ?_ | with_reducible refine Below.setCell ?_ (by first | (simp; done) | (simp; omega) | omega) _ | with_reducible refine bstep ?_ (by assumption))
  intro w2 hg hb
  go_wp2_with fail
  go_ret
  exact ⟨_, rfl, by omega, own_of_splice (by simp [HS.out]) hg.out, hb⟩
end Go.Proofs.Ytpbehhanccodeaa
