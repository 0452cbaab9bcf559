/- DrawNearLess. -/
import Derived.Test.YtfcejcfoflikkaaHU
import Derived.BigRegion
namespace Go.Proofs.Ytfcejcfoflikkaa
open Go.RowKit
set_option linter.unusedSimpArgs false
set_option linter.unusedVariables false

set_option maxHeartbeats 2000000 in
theorem drawNearLess_any (a : Option Addr) (n c : Nat) (w : World) (h : Code w a n) :
    Calls Try.prog 5 #[.slice a n c] w fun e w' => DrawNL w e w' := by
  have OP := hide (fun w1 (hb : Below w.heap.size w w1) => open_any a n c w1 (h.below hb))
  clear h
  go_enter Try.func5, Try.ntmps5
  go_wp2_with fail
  refine (OP.out _ (by repeat' first | with_reducible exact Below.refl _ _ | with_reducible assumption | with_reducible refine below_drewN ?_ _ | with_reducible refine balloc ?_ _ | with_reducible refine Below.drew ?_ | with_reducible refine Below.setCell ?_ (by first | (simp; done) | (simp; omega) | omega) _ | with_reducible refine bstep ?_ (by assumption))).mono ?_
  rintro e w1 ⟨rfl, hr1, hb1, hs1⟩
  simp only [World.size_alloc] at hr1 hs1
  have NB := hide (fun w2 (h : Rd (w.heap.size + 1 + 1) w2 (w.heap.size + 1 + 1) a n c) => nearby_any (w.heap.size + 1 + 1) (w.heap.size + 1 + 1) n c a w2 h)
  have ON := hide (fun w2 (h : Rd (w.heap.size + 1 + 1) w2 (w.heap.size + 1 + 1) a n c) => once_any (w.heap.size + 1 + 1) (w.heap.size + 1 + 1) n c a 3 w2 h (by omega) (by omega))
  have R1 := ((Bx.new w (.int .i64 0) (.int .i64 0) 25).alloc (.cells #[.int .i64 0, .int .i64 0] 25)).below hb1
  have Q1 : Bx w1 (w.heap.size + 1) (.int .i64 0) (.int .i64 0) := by
    have := (Bx.new (w.alloc (.cells #[.int .i64 0, .int .i64 0] 25)) (.int .i64 0) (.int .i64 0) 25).below hb1
    rwa [World.size_alloc] at this
  have B1 : Below w.heap.size w w1 := (by repeat' first | with_reducible exact Below.refl _ _ | with_reducible assumption | with_reducible refine below_drewN ?_ _ | with_reducible refine balloc ?_ _ | with_reducible refine Below.drew ?_ | with_reducible refine Below.setCell ?_ (by first | (simp; done) | (simp; omega) | omega) _ | with_reducible refine bstep ?_ (by assumption))
  clear hb1
  go_wp2_with fail
  refine (NB.out _ hr1).mono ?_
  rintro e w2 ⟨x, y, rfl, hr2, hb2⟩
  have R2 := R1.but hb2 (by omega)
  have Q2 := Q1.but hb2 (by omega)
  have B2 : Below w.heap.size w w2 := B1.trans (hb2.below (by omega) (by omega))
  have s2 := hb2.size
  clear hr1 hb2 R1 Q1 B1
  have A2 := Bx.new w2 (.int .i64 x) (.int .i64 y) 25
  go_wp2_with fail
  refine (NB.out _ (hr2.alloc _)).mono ?_
  rintro e w3 ⟨u, v, rfl, hr3, hb3⟩
  have s3 := hb3.size
  simp only [World.size_alloc] at s3
  have R3 := (R2.alloc (.cells #[.int .i64 x, .int .i64 y] 25)).but hb3 (by omega)
  have Q3 := (Q2.alloc (.cells #[.int .i64 x, .int .i64 y] 25)).but hb3 (by omega)
  have A3 := A2.but hb3 (by omega)
  have B3 : Below w.heap.size w w3 := (balloc B2 (.cells #[.int .i64 x, .int .i64 y] 25)).trans (hb3.below (by omega) (by simp; omega))
  clear hr2 hb3 R2 Q2 A2 B2
  have D3 := Bx.new w3 (.int .i64 u) (.int .i64 v) 25
  go_wp2_with fail
  refine (ON.out _ (hr3.alloc _)).mono ?_
  rintro e w4 ⟨t, rfl, hr4, hb4⟩
  have s4 := hb4.size
  simp only [World.size_alloc] at s4
  have R4 := (R3.alloc (.cells #[.int .i64 u, .int .i64 v] 25)).but hb4 (by omega)
  have Q4 := (Q3.alloc (.cells #[.int .i64 u, .int .i64 v] 25)).but hb4 (by omega)
  have A4 := (A3.alloc (.cells #[.int .i64 u, .int .i64 v] 25)).but hb4 (by omega)
  have D4 := D3.but hb4 (by omega)
  have B4 : Below w.heap.size w w4 := (balloc B3 (.cells #[.int .i64 u, .int .i64 v] 25)).trans (hb4.below (by omega) (by simp; omega))
  clear hr3 hb4 R3 Q3 A3 D3 B3 NB ON OP hr4
  have ne1 : ¬ w.heap.size = w2.heap.size := by omega
  have ne2 : ¬ w.heap.size = w3.heap.size := by omega
  have ne3 : ¬ w.heap.size + 1 = w2.heap.size := by omega
  have ne4 : ¬ w.heap.size + 1 = w3.heap.size := by omega
  have ne5 : ¬ w2.heap.size = w3.heap.size := by omega
  obtain ⟨_, r0, r1, rf0, rf1⟩ := R4
  obtain ⟨_, q0, q1, qf0, qf1⟩ := Q4
  obtain ⟨_, a0, a1, af0, af1⟩ := A4
  obtain ⟨dl, d0, d1, df0, df1⟩ := D4
  cases t
  · go_wp2_with fail
    go_big_region
    all_goals
      go_wp2_with fail
      refine bodyPost_ret (v := .tuple #[.agg #[.int .i64 x, .int .i64 y], .agg #[.int .i64 u, .int .i64 v]]) ?_ rfl ⟨x, y, u, v, rfl, ?_⟩
      · simp [results, Try.results5, go_sem, *]
      · exact (by repeat' first | with_reducible exact Below.refl _ _ | with_reducible assumption | with_reducible refine below_drewN ?_ _ | with_reducible refine balloc ?_ _ | with_reducible refine Below.drew ?_ | with_reducible refine Below.setCell ?_ (by first | (simp; done) | (simp; omega) | omega) _ | with_reducible refine bstep ?_ (by assumption))
  · go_upto_region 6 with fail
    go_big_region
    all_goals
      go_wp2_with fail
      refine bodyPost_ret (v := .tuple #[.agg #[.int .i64 x, .int .i64 y], .agg #[.int .i64 u, .int .i64 y]]) ?_ rfl ⟨x, y, u, y, rfl, ?_⟩
      · simp [results, Try.results5, go_sem, *]
      · exact (by repeat' first | with_reducible exact Below.refl _ _ | with_reducible assumption | with_reducible refine below_drewN ?_ _ | with_reducible refine balloc ?_ _ | with_reducible refine Below.drew ?_ | with_reducible refine Below.setCell ?_ (by first | (simp; done) | (simp; omega) | omega) _ | with_reducible refine bstep ?_ (by assumption))
end Go.Proofs.Ytfcejcfoflikkaa
