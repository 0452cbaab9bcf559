/- The reader of drawn bytes: comp, near, off. -/
import Derived.Test.YtlabfbkeckjbmaaDoorDB
namespace Go.Proofs.YtlabfbkeckjbmaaDoor
open Go.RowKit
set_option maxRecDepth 8000
set_option linter.unusedSimpArgs false

theorem Rd.alloc {B : Nat} {w : World} {rb : Nat} {a : Option Addr} {n c : Nat} (h : Rd B w rb a n c) (o : Obj) : Rd B (w.alloc o) rb a n c := h.stays (balloc (Below.refl _ _) o)

set_option maxHeartbeats 1000000 in
theorem comp_any (B rb n c : Nat) (a : Option Addr) (w : World) (h : Rd B w rb a n c) :
    Calls Tryd.prog 40 #[.pointer (some ⟨rb, 0, none⟩)] w fun e w' => RdPost B w rb a n c .i64 (-1048576) 1048576 e w' := by
  have N := hide (below_any B rb n c a 12 w h (by omega) (by omega))
  clear h
  go_enter Tryd.func40, Tryd.ntmps40
  go_wp2_with fail
  refine N.out.mono ?_
  rintro e w1 ⟨v, rfl, v0, v1, hr, hb⟩
  have B3 := hide (fun w (h : Rd B w rb a n c) => below_any B rb n c a 3 w h (by omega) (by omega))
  have B200 := hide (fun w (h : Rd B w rb a n c) => below_any B rb n c a 200 w h (by omega) (by omega))
  have W := hide (fun w (h : Rd B w rb a n c) => word_any B rb n c a w h)
  have HR := hide hr
  have HBB := hide hb
  have hlt := hr.lt
  clear hr hb
  by_cases e0 : v = 0
  · have b0 : (v == 0) = true := by simp [e0]
    go_wp2_with fail
    refine (B3.out _ (HR.out.alloc _)).mono ?_
    rintro e w2 ⟨u, rfl, u0, u1, hr2, hb2⟩
    have hlt2 : w1.heap.size < w2.heap.size := by have := hb2.size; simp at this; omega
    have k0 : w2.cell? ⟨w1.heap.size, 0, none⟩ = some (.int .i64 1048576) := (hb2.cell (p := ⟨w1.heap.size, 0, none⟩) (by simp) (by simp; omega)).trans (by simp [go_sem])
    have k1 : w2.cell? ⟨w1.heap.size, 1, none⟩ = some (.int .i64 (-1048576)) := (hb2.cell (p := ⟨w1.heap.size, 1, none⟩) (by simp) (by simp; omega)).trans (by simp [go_sem])
    have k2 : w2.cell? ⟨w1.heap.size, 2, none⟩ = some (.int .i64 1048575) := (hb2.cell (p := ⟨w1.heap.size, 2, none⟩) (by simp) (by simp; omega)).trans (by simp [go_sem])
    have HB2 := hide (HBB.out.alloc (.cells #[.int .i64 1048576, .int .i64 (-1048576), .int .i64 1048575] 2) |>.trans hb2)
    clear hb2
    rcases (show u = 0 ∨ u = 1 ∨ u = 2 by omega) with rfl | rfl | rfl
    · go_wp2
      go_ret
      exact ⟨_, rfl, by omega, by omega, hr2, HB2.out⟩
    · go_wp2
      go_ret
      exact ⟨_, rfl, by omega, by omega, hr2, HB2.out⟩
    · go_wp2
      go_ret
      exact ⟨_, rfl, by omega, by omega, hr2, HB2.out⟩
  · have b0 : (v == 0) = false := by simp [e0]
    by_cases e1 : v = 1
    · have b1 : (v == 1) = true := by simp [e1]
      go_wp2_with fail
      refine (W.out _ HR.out).mono ?_
      rintro e w2 ⟨u, rfl, u0, u1, hr2, hb2⟩
      have m0 := Int.emod_nonneg u (show (2097152 : Int) ≠ 0 by omega)
      have m1 := Int.emod_lt_of_pos u (show (0 : Int) < 2097152 by omega)
      go_wp2
      go_ret
      exact ⟨u % 2097152 - 1048576, rfl, by omega, by omega, hr2, HBB.out.trans hb2⟩
    · have b1 : (v == 1) = false := by simp [e1]
      go_wp2_with fail
      refine (B200.out _ HR.out).mono ?_
      rintro e w2 ⟨u, rfl, u0, u1, hr2, hb2⟩
      go_wp2
      go_ret
      exact ⟨u - 100, rfl, by omega, by omega, hr2, HBB.out.trans hb2⟩
end Go.Proofs.YtlabfbkeckjbmaaDoor
