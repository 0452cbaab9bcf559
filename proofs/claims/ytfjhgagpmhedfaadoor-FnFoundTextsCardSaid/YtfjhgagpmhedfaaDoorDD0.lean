/- The reader of drawn bytes: near, off. -/
import Derived.Test.YtfjhgagpmhedfaaDoorDC
namespace Go.Proofs.YtfjhgagpmhedfaaDoor
open Go.RowKit
set_option maxRecDepth 8000
set_option linter.unusedSimpArgs false

def RdPostA (B : Nat) (w : World) (rb : Nat) (a : Option Addr) (n c : Nat) (e : Ending) (w' : World) : Prop :=
  ∃ v : Int, e = .returned (.int .i64 v) ∧ Rd B w' rb a n c ∧ But rb w w'

set_option maxHeartbeats 1000000 in
theorem near_any (B rb n c : Nat) (a : Option Addr) (lo hi : Int) (w : World) (h : Rd B w rb a n c) (l0 : -2251799813685248 ≤ lo) (l1 : lo ≤ 2251799813685248) (g0 : -2251799813685248 ≤ hi) (g1 : hi ≤ 2251799813685248) :
    Calls Tryd.prog 42 #[.pointer (some ⟨rb, 0, none⟩), .int .i64 lo, .int .i64 hi] w fun e w' => RdPostA B w rb a n c e w' := by
  have N := hide (below_any B rb n c a 8 w h (by omega) (by omega))
  clear h
  go_enter Tryd.func42, Tryd.ntmps42
  go_wp2_with fail
  refine N.out.mono ?_
  rintro e w1 ⟨v, rfl, v0, v1, hr, hb⟩
  by_cases e0 : v = 0
  · have b0 : (v == 0) = true := by simp [e0]
    go_wp2
    go_ret
    exact ⟨_, rfl, hr, hb⟩
  · have b0 : (v == 0) = false := by simp [e0]
    by_cases e1 : v = 1
    · have b1 : (v == 1) = true := by simp [e1]
      go_wp2
      go_ret
      exact ⟨_, rfl, hr, hb⟩
    · have b1 : (v == 1) = false := by simp [e1]
      by_cases e2 : hi < lo
      · go_wp2
        go_ret
        exact ⟨_, rfl, hr, hb⟩
      · have W := hide (word_any B rb n c a w1 hr)
        have HBB := hide hb
        clear hr hb N
        go_wp2_with fail
        refine W.out.mono ?_
        rintro e w2 ⟨u, rfl, u0, u1, hr2, hb2⟩
        go_wp2
        go_ret
        exact ⟨_, rfl, hr2, HBB.out.trans hb2⟩

set_option maxHeartbeats 1000000 in
theorem off_any (B rb n c : Nat) (a : Option Addr) (lo hi : Int) (w : World) (h : Rd B w rb a n c) (l0 : -2251799813685248 ≤ lo) (l1 : lo ≤ 2251799813685248) (g0 : -2251799813685248 ≤ hi) (g1 : hi ≤ 2251799813685248) :
    Calls Tryd.prog 38 #[.pointer (some ⟨rb, 0, none⟩), .int .i64 lo, .int .i64 hi] w fun e w' => RdPostA B w rb a n c e w' := by
  have N := hide (once_any B rb n c a 24 w h (by omega) (by omega))
  clear h
  go_enter Tryd.func38, Tryd.ntmps38
  go_wp2_with fail
  refine N.out.mono ?_
  rintro e w1 ⟨v, rfl, hr, hb⟩
  have B4 := hide (fun w (h : Rd B w rb a n c) => below_any B rb n c a 4 w h (by omega) (by omega))
  have NE := hide (near_any B rb n c a lo hi w1 hr l0 l1 g0 g1)
  have HR := hide hr
  have HBB := hide hb
  have hlt := hr.lt
  clear hr hb N
  cases v
  · go_wp2_with fail
    refine NE.out.mono ?_
    rintro e w2 ⟨u, rfl, hr2, hb2⟩
    go_wp2
    go_ret
    exact ⟨_, rfl, hr2, HBB.out.trans hb2⟩
  · go_wp2_with fail
    refine (B4.out _ (HR.out.alloc _)).mono ?_
    rintro e w2 ⟨u, rfl, u0, u1, hr2, hb2⟩
    have hlt2 : w1.heap.size < w2.heap.size := by have := hb2.size; simp at this; omega
    have k0 : w2.cell? ⟨w1.heap.size, 0, none⟩ = some (.int .i64 (lo - 1)) := (hb2.cell (p := ⟨w1.heap.size, 0, none⟩) (by simp) (by simp; omega)).trans (by simp [go_sem])
    have k1 : w2.cell? ⟨w1.heap.size, 1, none⟩ = some (.int .i64 (hi + 1)) := (hb2.cell (p := ⟨w1.heap.size, 1, none⟩) (by simp) (by simp; omega)).trans (by simp [go_sem])
    obtain ⟨q2, k2⟩ : ∃ q, w2.cell? ⟨w1.heap.size, 2, none⟩ = some (.int .i64 q) := ⟨_, (hb2.cell (p := ⟨w1.heap.size, 2, none⟩) (by simp) (by simp; omega)).trans (by simp [go_sem]; rfl)⟩
    obtain ⟨q3, k3⟩ : ∃ q, w2.cell? ⟨w1.heap.size, 3, none⟩ = some (.int .i64 q) := ⟨_, (hb2.cell (p := ⟨w1.heap.size, 3, none⟩) (by simp) (by simp; omega)).trans (by simp [go_sem]; rfl)⟩
    have HB2 := hide ((HBB.out.alloc _).trans hb2)
    clear hb2
    rcases (show u = 0 ∨ u = 1 ∨ u = 2 ∨ u = 3 by omega) with rfl | rfl | rfl | rfl
    all_goals
      go_wp2
      go_ret
      exact ⟨_, rfl, hr2, HB2.out⟩

end Go.Proofs.YtfjhgagpmhedfaaDoor
