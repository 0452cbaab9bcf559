/- The walk of the law FnExactDistOf. -/
import Derived.Test.YtbplgenlmegoeaaVD
import Derived.Test.YtbplgenlmegoeaaVG
namespace Go.Proofs.Ytbplgenlmegoeaa
open Go.RowKit
set_option linter.unusedVariables false
set_option linter.unusedSimpArgs false

set_option maxHeartbeats 1000000 in
theorem exactDistOf_walk (a : Option Addr) (n cap : Nat) (zs : List Int) (a' : Option Addr) (n' cap' : Nat) (zs' : List Int) (w : World) (h : IsRow .i64 w a n cap zs) (h' : IsRow .i64 w a' n' cap' zs') :
    Calls Try.prog 4 #[.slice a n cap, .slice a' n' cap'] w fun e w' => e = .returned (.bool true) ∧ Below w.heap.size w w' := by
  by_cases hn : n ≤ 1048576
  · by_cases hn' : n' ≤ 1048576
    · have hr := h.row
      have hr' := h'.row
      generalize zs.take n = xs at hr
      generalize zs'.take n' = ys at hr'
      clear h h'
      have hl := hr.len
      have hl' := hr'.len
      subst hl hl'
      have HR := hide hr
      have HR' := hide hr'
      clear hr hr'
      go_enter Try.func4, Try.ntmps4
      go_wp2_with fail
      refine (toInts_any a xs.length cap xs _ HR.out hn).mono ?_
      rintro e w1 ⟨g1, rfl, hg1, ho1, hb1⟩
      go_wp2_with fail
      refine (toInts_any a' ys.length cap' ys _ (HR'.out.below hb1) hn').mono ?_
      rintro e w2 ⟨g2, rfl, hg2, ho2, hb2⟩
      have ho1 := ho1.below hb2
      go_wp2_with fail
      refine (sDistOf_any _ _ _ _ _ _ xs ys _ ho1.row ho2.row hn hn').mono ?_
      rintro e w3 ⟨rfl, hb3⟩
      have HA := hide ((HR.out.below hb1).below hb2 |>.below hb3)
      have HA' := hide ((HR'.out.below hb1).below hb2 |>.below hb3)
      go_wp2_with fail
      refine (toInts_any a xs.length cap xs _ HA.out hn).mono ?_
      rintro e w4 ⟨g4, rfl, hg4, ho4, hb4⟩
      go_wp2_with fail
      refine (toInts_any a' ys.length cap' ys _ (HA'.out.below hb4) hn').mono ?_
      rintro e w5 ⟨g5, rfl, hg5, ho5, hb5⟩
      have ho4 := ho4.below hb5
      go_wp2_with fail
      refine (iDistOf_any _ _ _ _ _ _ xs ys _ ho4.row ho5.row hn hn').mono ?_
      rintro e w6 ⟨rfl, hb6⟩
      have hne : (distL xs ys != distL xs ys) = false := by simp
      have ho4 := ho4.below hb6
      have ho5 := ho5.below hb6
      have HB := hide (((HA.out.below hb4).below hb5).below hb6)
      have HB' := hide (((HA'.out.below hb4).below hb5).below hb6)
      go_wp2_with fail
      refine (toInts_any a xs.length cap xs _ HB.out hn).mono ?_
      rintro e w7 ⟨g7, rfl, hg7, ho7, hb7⟩
      have ho4 := ho4.below hb7
      have ho5 := ho5.below hb7
      go_wp2_with fail
      refine (eqInts_any _ _ _ _ _ _ xs xs _ ho4.row ho7.row hn).mono ?_
      rintro e w8 ⟨rfl, hb8⟩
      rw [decide_eq_true rfl]
      have ho5 := ho5.below hb8
      go_wp2_with fail
      refine (toInts_any a' ys.length cap' ys _ ((HB'.out.below hb7).below hb8) hn').mono ?_
      rintro e w9 ⟨g9, rfl, hg9, ho9, hb9⟩
      have ho5 := ho5.below hb9
      go_wp2_with fail
      refine (eqInts_any _ _ _ _ _ _ ys ys _ ho5.row ho9.row hn').mono ?_
      rintro e w10 ⟨rfl, hb10⟩
      rw [decide_eq_true rfl]
      go_wp2
      go_ret
      exact ⟨rfl, (by repeat' first | with_reducible exact Below.refl _ _ | with_reducible assumption | with_reducible refine below_drewN ?_ _ | with_reducible refine balloc ?_ _ | with_reducible refine Below.drew ?_ | with_reducible refine Below.setCell ?_ (by first | (simp; done) | (simp; omega) | omega) _ | with_reducible refine bstep ?_ (by assumption))⟩
    · have k1 : (n : Int) ≤ 1048576 := by omega
      have k2 : (1048576 : Int) < n' := by omega
      go_enter Try.func4, Try.ntmps4
      go_wp2
      go_ret
      exact ⟨rfl, (by repeat' first | with_reducible exact Below.refl _ _ | with_reducible assumption | with_reducible refine below_drewN ?_ _ | with_reducible refine balloc ?_ _ | with_reducible refine Below.drew ?_ | with_reducible refine Below.setCell ?_ (by first | (simp; done) | (simp; omega) | omega) _ | with_reducible refine bstep ?_ (by assumption))⟩
  · have k1 : (1048576 : Int) < n := by omega
    go_enter Try.func4, Try.ntmps4
    go_wp2
    go_ret
    exact ⟨rfl, (by repeat' first | with_reducible exact Below.refl _ _ | with_reducible assumption | with_reducible refine below_drewN ?_ _ | with_reducible refine balloc ?_ _ | with_reducible refine Below.drew ?_ | with_reducible refine Below.setCell ?_ (by first | (simp; done) | (simp; omega) | omega) _ | with_reducible refine bstep ?_ (by assumption))⟩
end Go.Proofs.Ytbplgenlmegoeaa
