/- The walk of the law FnExactReadHit. -/
import Derived.Test.YtgckhnnkphlciaaDoorSH6
namespace Go.Proofs.YtgckhnnkphlciaaDoor
open Go.RowKit
set_option maxRecDepth 8000
set_option linter.unusedSimpArgs false
set_option linter.unusedVariables false

set_option maxHeartbeats 1000000 in
theorem eqHit_any (x y z : Int) (w : World) :
    Calls Tryd.prog 21 #[.agg #[.int .i64 x, .int .i64 y, .int .i64 z], .agg #[.int .i64 x, .int .i64 y, .int .i64 z]] w fun e w' => e = .returned (.bool true) ∧ Below w.heap.size w w' := by
  have t0 : (x != x) = false := by simp
  have t1 : (y != y) = false := by simp
  have t2 : (z != z) = false := by simp
  go_enter Tryd.func21, Tryd.ntmps21
  go_wp2_with fail
  go_ret
  exact ⟨rfl, (by repeat' first | with_reducible exact Below.refl _ _ | with_reducible assumption | with_reducible refine below_drewN ?_ _ | with_reducible refine balloc ?_ _ | with_reducible refine Below.drew ?_ | with_reducible refine Below.setCell ?_ (by first | (simp; done) | (simp; omega) | omega) _ | with_reducible refine bstep ?_ (by assumption))⟩

set_option maxHeartbeats 2000000 in
theorem exactReadHit_walk (s : ByteArray) (w : World) (V : Vars w) :
    Calls Tryd.prog 6 #[.string s] w fun e w' => e = .returned (.bool true) ∧ Below w.heap.size w w' := by
  by_cases hs : s.size ≤ 1048576
  · have SR := hide (sReadHit_any s w hs)
    have IR := hide (fun w1 V => iReadHit_any s w1 hs V)
    have HV := hide V
    clear V
    generalize rdX s.data.toList = x at SR IR
    generalize rdY s.data.toList = y at SR IR
    generalize rdZ s.data.toList = z at SR IR
    generalize rdHitB s.data.toList = b at SR IR
    have EQ := hide (eqHit_any x y z)
    have t1 : (b != b) = false := by cases b <;> rfl
    go_enter Tryd.func6, Tryd.ntmps6
    go_wp2_with fail
    refine SR.out.mono ?_
    rintro e w2 ⟨rfl, hb2⟩
    have X2 := hide (Box3.new w2 x y z 38)
    have B2 := hide (bstep hb2 (balloc (Below.refl w2.heap.size w2) (.cells #[.int .i64 x, .int .i64 y, .int .i64 z] 38)))
    clear hb2
    go_wp2_with fail
    refine (IR.out _ (HV.out.below B2.out)).mono ?_
    rintro e w3 ⟨rfl, hb3⟩
    have X3 := hide ((X2.out.below hb3).below (balloc (Below.refl w3.heap.size w3) (.cells #[.int .i64 x, .int .i64 y, .int .i64 z] 38)))
    have Y3 := hide (Box3.new w3 x y z 38)
    have B3 := hide (bstep (bstep B2.out hb3) (balloc (Below.refl w3.heap.size w3) (.cells #[.int .i64 x, .int .i64 y, .int .i64 z] 38)))
    obtain ⟨_, c0, c1, c2⟩ := X3.out
    obtain ⟨_, d0, d1, d2⟩ := Y3.out
    clear hb3
    go_wp2_with fail
    refine (EQ.out _).mono ?_
    rintro e w4 ⟨rfl, hb4⟩
    have B4 := hide (bstep B3.out hb4)
    clear hb4
    go_wp2_with fail
    go_ret
    exact ⟨rfl, B4.out⟩
  · have hn' : (1048576 : Int) < s.size := by omega
    go_enter Tryd.func6, Tryd.ntmps6
    go_wp2
    go_ret
    exact ⟨rfl, (by repeat' first | with_reducible exact Below.refl _ _ | with_reducible assumption | with_reducible refine below_drewN ?_ _ | with_reducible refine balloc ?_ _ | with_reducible refine Below.drew ?_ | with_reducible refine Below.setCell ?_ (by first | (simp; done) | (simp; omega) | omega) _ | with_reducible refine bstep ?_ (by assumption))⟩
end Go.Proofs.YtgckhnnkphlciaaDoor
