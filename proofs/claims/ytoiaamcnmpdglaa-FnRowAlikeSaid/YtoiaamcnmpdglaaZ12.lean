/- Drawn ranges: span. -/
import Derived.Test.YtoiaamcnmpdglaaZ11
namespace Go.Proofs.Ytoiaamcnmpdglaa
open Go.RowKit
set_option maxRecDepth 8000
set_option linter.unusedSimpArgs false
set_option linter.unusedVariables false

def SpanPost (B : Nat) (w : World) (rb : Nat) (a : Option Addr) (n c : Nat) (e : Ending) (w' : World) : Prop :=
  ∃ lo hi : Int, e = .returned (.agg #[.int .i64 lo, .int .i64 hi]) ∧ -4000000 ≤ lo ∧ lo ≤ 4000000 ∧ -4000000 ≤ hi ∧ hi ≤ 4000000 ∧ Rd B w' rb a n c ∧ But rb w w'

set_option maxHeartbeats 2000000 in
theorem span_any (B rb n c : Nat) (a : Option Addr) (w : World) (h : Rd B w rb a n c) :
    Calls Try.prog 81 #[.pointer (some ⟨rb, 0, none⟩)] w fun e w' => SpanPost B w rb a n c e w' := by
  have C := hide (fun w (h : Rd B w rb a n c) => comp_any B rb n c a w h)
  have O2 := hide (fun w (h : Rd B w rb a n c) => once_any B rb n c a 2 w h (by omega) (by omega))
  have O12 := hide (fun w (h : Rd B w rb a n c) => once_any B rb n c a 12 w h (by omega) (by omega))
  have B40 := hide (fun w (h : Rd B w rb a n c) => below_any B rb n c a 40 w h (by omega) (by omega))
  have H := hide h
  have hlt := h.lt
  clear h
  go_enter Try.func81, Try.ntmps81
  go_wp2_with fail
  refine (C.out _ (H.out.alloc _)).mono ?_
  rintro e w1 ⟨x, rfl, x0, x1, hr1, hb1⟩
  go_wp2_with fail
  refine (C.out _ hr1).mono ?_
  rintro e w2 ⟨y, rfl, y0, y1, hr2, hb2⟩
  go_wp2_with fail
  refine (O2.out _ hr2).mono ?_
  rintro e w3 ⟨v, rfl, hr3, hb3⟩
  have bb := hb1.trans (hb2.trans hb3)
  have z0 : w3.cell? ⟨w.heap.size, 0, none⟩ = some (.int .i64 0) := (bb.cell (p := ⟨w.heap.size, 0, none⟩) (by simp) (by simp; omega)).trans (by simp [go_sem])
  have z1 : w3.cell? ⟨w.heap.size, 1, none⟩ = some (.int .i64 0) := (bb.cell (p := ⟨w.heap.size, 1, none⟩) (by simp) (by simp; omega)).trans (by simp [go_sem])
  have f0 : w3.frozen? ⟨w.heap.size, 0, none⟩ = false := (bb.frozen (p := ⟨w.heap.size, 0, none⟩) (by simp) (by simp; omega)).trans (by simp [go_sem])
  have f1 : w3.frozen? ⟨w.heap.size, 1, none⟩ = false := (bb.frozen (p := ⟨w.heap.size, 1, none⟩) (by simp) (by simp; omega)).trans (by simp [go_sem])
  have s3 : w.heap.size < w3.heap.size := by have := bb.size; simp at this; omega
  have B3 := hide (((But.refl rb w).alloc (.cells #[.int .i64 0, .int .i64 0] 64)).trans bb)
  have R3 := hide hr3
  clear hr1 hr2 hr3 hb1 hb2 hb3 bb C O2 H
  have rne : rb ≠ w.heap.size := by omega
  have hBw : B ≤ w.heap.size := by have := R3.out.from_; omega
  cases v
  · skip
    by_cases hxy : y < x
    · go_wp2_with fail
      refine (O12.out _ (R3.out)).mono ?_
      rintro e w9 ⟨v9, rfl, hr9, hb9⟩
      have q0 : w9.cell? ⟨w.heap.size, 0, none⟩ = some (.int .i64 0) := (hb9.cell (p := ⟨w.heap.size, 0, none⟩) (by first | assumption | (simp; omega)) (by simp; omega)).trans z0
      have q1 : w9.cell? ⟨w.heap.size, 1, none⟩ = some (.int .i64 0) := (hb9.cell (p := ⟨w.heap.size, 1, none⟩) (by first | assumption | (simp; omega)) (by simp; omega)).trans z1
      have p0 : w9.frozen? ⟨w.heap.size, 0, none⟩ = false := (hb9.frozen (p := ⟨w.heap.size, 0, none⟩) (by first | assumption | (simp; omega)) (by simp; omega)).trans f0
      have p1 : w9.frozen? ⟨w.heap.size, 1, none⟩ = false := (hb9.frozen (p := ⟨w.heap.size, 1, none⟩) (by first | assumption | (simp; omega)) (by simp; omega)).trans f1
      have B9 := hide ((B3.out).trans hb9)
      have R9 := hide hr9
      clear hr9 hb9
      cases v9
      · skip
        go_wp2_with fail
        have hR := (R9.out).but (((But.refl w.heap.size w9).setCell 0 (.int .i64 (y))).setCell 1 (.int .i64 (x))) (by omega) (by omega)
        have hB := but_far (but_far (B9.out) (Nat.le_refl w.heap.size) 0 (.int .i64 (y))) (Nat.le_refl w.heap.size) 1 (.int .i64 (x))
        refine bodyPost_ret (v := .agg #[.int .i64 (y), .int .i64 (x)]) ?_ rfl ⟨y, x, rfl, by omega, by omega, by omega, by omega, hR, hB⟩
        simp [results, Try.results81, go_sem, q0, q1]
      · skip
        go_wp2_with fail
        have hR := (R9.out).but (((But.refl w.heap.size w9).setCell 0 (.int .i64 (x))).setCell 1 (.int .i64 (y))) (by omega) (by omega)
        have hB := but_far (but_far (B9.out) (Nat.le_refl w.heap.size) 0 (.int .i64 (x))) (Nat.le_refl w.heap.size) 1 (.int .i64 (y))
        refine bodyPost_ret (v := .agg #[.int .i64 (x), .int .i64 (y)]) ?_ rfl ⟨x, y, rfl, by omega, by omega, by omega, by omega, hR, hB⟩
        simp [results, Try.results81, go_sem, q0, q1]
    · skip
      go_wp2_with fail
      have hR := (R3.out).but (((But.refl w.heap.size w3).setCell 0 (.int .i64 (x))).setCell 1 (.int .i64 (y))) (by omega) (by omega)
      have hB := but_far (but_far (B3.out) (Nat.le_refl w.heap.size) 0 (.int .i64 (x))) (Nat.le_refl w.heap.size) 1 (.int .i64 (y))
      refine bodyPost_ret (v := .agg #[.int .i64 (x), .int .i64 (y)]) ?_ rfl ⟨x, y, rfl, by omega, by omega, by omega, by omega, hR, hB⟩
      simp [results, Try.results81, go_sem, z0, z1]
  · go_wp2_with fail
    refine (B40.out _ R3.out).mono ?_
    rintro e w4 ⟨u, rfl, u0, u1, hr4, hb4⟩
    have k0 : w4.cell? ⟨w.heap.size, 0, none⟩ = some (.int .i64 0) := (hb4.cell (p := ⟨w.heap.size, 0, none⟩) s3 (by simp; omega)).trans z0
    have k1 : w4.cell? ⟨w.heap.size, 1, none⟩ = some (.int .i64 0) := (hb4.cell (p := ⟨w.heap.size, 1, none⟩) s3 (by simp; omega)).trans z1
    have l0 : w4.frozen? ⟨w.heap.size, 0, none⟩ = false := (hb4.frozen (p := ⟨w.heap.size, 0, none⟩) s3 (by simp; omega)).trans f0
    have l1 : w4.frozen? ⟨w.heap.size, 1, none⟩ = false := (hb4.frozen (p := ⟨w.heap.size, 1, none⟩) s3 (by simp; omega)).trans f1
    have s4 : w.heap.size < w4.heap.size := by have := hb4.size; omega
    have B4 := hide (B3.out.trans hb4)
    have R4 := hide hr4
    clear hr4 hb4 z0 z1 f0 f1 B3 R3 s3
    by_cases hmin : x + u ≤ 1048576
    · have hge : ¬ x + u < x := by omega
      go_wp2_with fail
      have hR := (R4.out).but (((But.refl w.heap.size w4).setCell 0 (.int .i64 (x))).setCell 1 (.int .i64 (x + u))) (by omega) (by omega)
      have hB := but_far (but_far (B4.out) (Nat.le_refl w.heap.size) 0 (.int .i64 (x))) (Nat.le_refl w.heap.size) 1 (.int .i64 (x + u))
      refine bodyPost_ret (v := .agg #[.int .i64 (x), .int .i64 (x + u)]) ?_ rfl ⟨x, x + u, rfl, by omega, by omega, by omega, by omega, hR, hB⟩
      simp [results, Try.results81, go_sem, k0, k1]
    · have hm' : 1048576 < x + u := by omega
      have hge : ¬ 1048576 < x := by omega
      go_wp2_with fail
      have hR := (R4.out).but (((But.refl w.heap.size w4).setCell 0 (.int .i64 (x))).setCell 1 (.int .i64 (1048576))) (by omega) (by omega)
      have hB := but_far (but_far (B4.out) (Nat.le_refl w.heap.size) 0 (.int .i64 (x))) (Nat.le_refl w.heap.size) 1 (.int .i64 (1048576))
      refine bodyPost_ret (v := .agg #[.int .i64 (x), .int .i64 (1048576)]) ?_ rfl ⟨x, 1048576, rfl, by omega, by omega, by omega, by omega, hR, hB⟩
      simp [results, Try.results81, go_sem, k0, k1]
end Go.Proofs.Ytoiaamcnmpdglaa
