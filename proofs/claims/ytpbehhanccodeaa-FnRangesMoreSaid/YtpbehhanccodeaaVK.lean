/- Vectors of the program: turned, plus. -/
import Derived.Test.YtpbehhanccodeaaVJ
namespace Go.Proofs.Ytpbehhanccodeaa
open Go.RowKit
set_option maxRecDepth 8000
set_option linter.unusedSimpArgs false

theorem idx8 (xs : List Int) (k : Nat) (hk : k < 8) (w : World) : (Instr.index 49 (.agg #[.int .i64 (nth xs 0), .int .i64 (nth xs 1), .int .i64 (nth xs 2), .int .i64 (nth xs 3), .int .i64 (nth xs 4), .int .i64 (nth xs 5), .int .i64 (nth xs 6), .int .i64 (nth xs 7)]) (.int .i64 k)).run Try.prog w = .ok (.int .i64 (nth xs k)) w := by
  rcases (show k = 0 ∨ k = 1 ∨ k = 2 ∨ k = 3 ∨ k = 4 ∨ k = 5 ∨ k = 6 ∨ k = 7 by omega) with rfl | rfl | rfl | rfl | rfl | rfl | rfl | rfl <;> kernel_rfl

/-- A box of a vector whose first k numbers are made anew. -/
def turnF (f : Nat → Int) (xs : List Int) (n : Int) (k j : Nat) : Value := .int .i64 (if j < k then f j else if j < 8 then nth xs j else n)

theorem turnF_step {w : World} {g k : Nat} {n : Int} {f : Nat → Int} {xs : List Int} {t : TypeId} (h : w.rowIs g t 9 (turnF f xs n k)) :
    (w.setCell ⟨g, k, none⟩ (.int .i64 (f k))).rowIs g t 9 (turnF f xs n (k + 1)) := by
  refine (World.rowIs.set h k _).congr fun j hj => ?_
  unfold turnF
  by_cases e : j = k
  · subst e; simp
  · by_cases l : j < k
    · rw [if_neg e, if_pos l, if_pos (by omega)]
    · rw [if_neg e, if_neg l]
      simp [show ¬ j < k + 1 by omega]

theorem turnF_lt {f : Nat → Int} {xs : List Int} {n : Int} {k j : Nat} (h : j < k) : turnF f xs n k j = .int .i64 (f j) := by unfold turnF; rw [if_pos h]

theorem turnF_mid {f : Nat → Int} {xs : List Int} {n : Int} {k : Nat} (h : k < 8) : turnF f xs n k k = .int .i64 (nth xs k) := by unfold turnF; rw [if_neg (by omega), if_pos h]

theorem turnF_n {f : Nat → Int} {xs : List Int} {n : Int} : turnF f xs n 8 8 = .int .i64 n := by unfold turnF; rw [if_neg (by omega), if_neg (by omega)]

theorem turn_start (w : World) (f : Nat → Int) (xs : List Int) (n : Int) (t : TypeId) : (w.alloc (.cells #[.int .i64 (nth xs 0), .int .i64 (nth xs 1), .int .i64 (nth xs 2), .int .i64 (nth xs 3), .int .i64 (nth xs 4), .int .i64 (nth xs 5), .int .i64 (nth xs 6), .int .i64 (nth xs 7), .int .i64 n] t)).rowIs w.heap.size t 9 (turnF f xs n 0) := by
  refine World.rowIs_alloc w _ t _ ?_
  intro i hi
  have : i < 9 := hi
  rcases (show i = 0 ∨ i = 1 ∨ i = 2 ∨ i = 3 ∨ i = 4 ∨ i = 5 ∨ i = 6 ∨ i = 7 ∨ i = 8 by omega) with rfl | rfl | rfl | rfl | rfl | rfl | rfl | rfl | rfl <;> rfl

theorem zero_start (w : World) (t : TypeId) : (w.alloc (.cells #[.int .i64 0, .int .i64 0, .int .i64 0, .int .i64 0, .int .i64 0, .int .i64 0, .int .i64 0, .int .i64 0, .int .i64 0] t)).rowIs w.heap.size t 9 (fun _ => .int .i64 0) := by
  refine World.rowIs_alloc w _ t _ ?_
  intro i hi
  have : i < 9 := hi
  rcases (show i = 0 ∨ i = 1 ∨ i = 2 ∨ i = 3 ∨ i = 4 ∨ i = 5 ∨ i = 6 ∨ i = 7 ∨ i = 8 by omega) with rfl | rfl | rfl | rfl | rfl | rfl | rfl | rfl | rfl <;> rfl

set_option maxHeartbeats 1000000 in
theorem turned_any (xs : List Int) (n : Int) (w : World) (hx : ∀ j, j < 8 → -1048576 ≤ nth xs j ∧ nth xs j ≤ 1048576) :
    Calls Try.prog 25 #[.agg #[.int .i64 (nth xs 0), .int .i64 (nth xs 1), .int .i64 (nth xs 2), .int .i64 (nth xs 3), .int .i64 (nth xs 4), .int .i64 (nth xs 5), .int .i64 (nth xs 6), .int .i64 (nth xs 7), .int .i64 n]] w fun e w' => e = .returned (.agg #[.int .i64 (-(nth xs 0)), .int .i64 (-(nth xs 1)), .int .i64 (-(nth xs 2)), .int .i64 (-(nth xs 3)), .int .i64 (-(nth xs 4)), .int .i64 (-(nth xs 5)), .int .i64 (-(nth xs 6)), .int .i64 (-(nth xs 7)), .int .i64 n]) ∧ Below w.heap.size w w' := by
  have HX := hide hx
  clear hx
  go_enter Try.func25, Try.ntmps25
  go_wp2
  go_loopw [3, 4, 7] (fun _ _ i wr => ∃ k : Nat, k ≤ 8 ∧ i = .int .i64 k ∧ wr.rowIs w.heap.size 51 9 (turnF (fun j => -(nth xs j)) xs n k) ∧ wr.rowIs (w.heap.size + 1) 51 9 (fun _ => .int .i64 0) ∧ Below w.heap.size w wr) (fun _ _ i _ => 8 - (intOf i).toNat)
  case atStart =>
    refine ⟨0, Nat.zero_le _, rfl, World.rowIs.alloc (turn_start w _ xs n _) _, ?_, (by repeat' first | with_reducible exact Below.refl _ _ | with_reducible assumption | with_reducible refine below_drewN ?_ _ | with_reducible refine balloc ?_ _ | with_reducible refine Below.drew ?_ | with_reducible refine Below.setCell ?_ (by first | (simp; done) | (simp; omega) | omega) _ | with_reducible refine bstep ?_ (by assumption))⟩
    have := zero_start (w.alloc (.cells #[.int .i64 (nth xs 0), .int .i64 (nth xs 1), .int .i64 (nth xs 2), .int .i64 (nth xs 3), .int .i64 (nth xs 4), .int .i64 (nth xs 5), .int .i64 (nth xs 6), .int .i64 (nth xs 7), .int .i64 n] 51)) 51
    rw [World.size_alloc] at this
    exact this
  case round =>
    obtain ⟨k, hk, rfl, hr1, hr0, hbel⟩ := hrel
    have HB := hide hbel
    by_cases hlt : k < 8
    · have hi := fun w => idx8 xs k hlt w
      have q2 := World.rowIs.cell hr1 (i := k) (by omega)
      rw [turnF_mid hlt] at q2
      have q3 := World.rowIs.frozen hr1 k
      have HS := hide (turnF_step hr1)
      have H0 := hide hr0
      obtain ⟨x0, x1⟩ := HX.out k hlt
      clear hr1 hr0 hbel
      go_wp2
      go_roundw
      case rel => exact ⟨k + 1, by omega, by go_num, HS.out, World.rowIs.setOther H0.out (by simp; try omega) _, HB.out.setCell (by simp) _⟩
      case measure => simp [intOf]; omega
    · have hkn : k = 8 := by omega
      subst hkn
      have z0 := World.rowIs.cell hr0 (i := 0) (by omega)
      have y0 := World.rowIs.frozen hr0 0
      have z1 := World.rowIs.cell hr0 (i := 1) (by omega)
      have y1 := World.rowIs.frozen hr0 1
      have z2 := World.rowIs.cell hr0 (i := 2) (by omega)
      have y2 := World.rowIs.frozen hr0 2
      have z3 := World.rowIs.cell hr0 (i := 3) (by omega)
      have y3 := World.rowIs.frozen hr0 3
      have z4 := World.rowIs.cell hr0 (i := 4) (by omega)
      have y4 := World.rowIs.frozen hr0 4
      have z5 := World.rowIs.cell hr0 (i := 5) (by omega)
      have y5 := World.rowIs.frozen hr0 5
      have z6 := World.rowIs.cell hr0 (i := 6) (by omega)
      have y6 := World.rowIs.frozen hr0 6
      have z7 := World.rowIs.cell hr0 (i := 7) (by omega)
      have y7 := World.rowIs.frozen hr0 7
      have z8 := World.rowIs.cell hr0 (i := 8) (by omega)
      have y8 := World.rowIs.frozen hr0 8
      have v0 := World.rowIs.cell hr1 (i := 0) (by omega)
      have v1 := World.rowIs.cell hr1 (i := 1) (by omega)
      have v2 := World.rowIs.cell hr1 (i := 2) (by omega)
      have v3 := World.rowIs.cell hr1 (i := 3) (by omega)
      have v4 := World.rowIs.cell hr1 (i := 4) (by omega)
      have v5 := World.rowIs.cell hr1 (i := 5) (by omega)
      have v6 := World.rowIs.cell hr1 (i := 6) (by omega)
      have v7 := World.rowIs.cell hr1 (i := 7) (by omega)
      have v8 := World.rowIs.cell hr1 (i := 8) (by omega)
      rw [turnF_lt (by omega)] at v0 v1 v2 v3 v4 v5 v6 v7
      rw [turnF_n] at v8
      clear hr1 hr0 hbel
      go_wp2
      have hB := HB.out
      refine bodyPost_ret (v := .agg #[.int .i64 (-(nth xs 0)), .int .i64 (-(nth xs 1)), .int .i64 (-(nth xs 2)), .int .i64 (-(nth xs 3)), .int .i64 (-(nth xs 4)), .int .i64 (-(nth xs 5)), .int .i64 (-(nth xs 6)), .int .i64 (-(nth xs 7)), .int .i64 n]) ?_ rfl ⟨rfl, ?_⟩
      · simp [results, Try.results25, go_sem, z0, z1, z2, z3, z4, z5, z6, z7, z8]
      · exact (by repeat' first | with_reducible exact Below.refl _ _ | with_reducible assumption | with_reducible refine below_drewN ?_ _ | with_reducible refine balloc ?_ _ | with_reducible refine Below.drew ?_ | with_reducible refine Below.setCell ?_ (by first | (simp; done) | (simp; omega) | omega) _ | with_reducible refine bstep ?_ (by assumption))

end Go.Proofs.Ytpbehhanccodeaa