/- The walk of the law FnExactVecText. -/
import Derived.Test.YtlabfbkeckjbmaaDoorSD2
import Derived.Test.YtlabfbkeckjbmaaDoorVA
import Derived.Test.YtlabfbkeckjbmaaDoorVD0
namespace Go.Proofs.YtlabfbkeckjbmaaDoor
open Go.RowKit
set_option maxRecDepth 8000
set_option linter.unusedSimpArgs false
set_option linter.unusedVariables false

set_option maxHeartbeats 1000000 in
theorem exactVecText_walk (a : Option Addr) (n cap : Nat) (zs : List Int) (w : World) (T : Tab w) (h : IsRow .i64 w a n cap zs) :
    Calls Tryd.prog 4 #[.slice a n cap] w fun e w' => e = .returned (.bool true) ∧ Below w.heap.size w w' := by
  by_cases hn : n ≤ 1048576
  · have hr := h.row
    generalize zs.take n = xs at hr
    clear h
    have HR := hide hr
    have HT := hide T
    clear hr T
    go_enter Tryd.func4, Tryd.ntmps4
    go_wp2_with fail
    refine (toInts_any a n cap xs _ HR.out hn).mono ?_
    rintro e w1 ⟨g1, rfl, hg1, ho1, hb1⟩
    have R1 := hide ho1.row
    have hl := HR.out.len
    subst hl
    have B1 := hide hb1
    clear ho1 hb1
    go_wp2_with fail
    refine (sVecText_any _ _ _ _ _ R1.out hn).mono ?_
    rintro e w2 ⟨rfl, hb2⟩
    have B2 := hide (bstep B1.out hb2)
    clear hb2
    go_wp2_with fail
    refine (toInts_any a xs.length cap xs _ (HR.out.below B2.out) hn).mono ?_
    rintro e w3 ⟨g3, rfl, hg3, ho3, hb3⟩
    have R3 := hide ho3.row
    have B3 := hide (bstep B2.out hb3)
    clear ho3 hb3
    go_wp2_with fail
    refine (iVecText_any _ _ _ _ _ R3.out hn (HT.out.below B3.out)).mono ?_
    rintro e w4 ⟨rfl, hb4⟩
    have R4 := hide (R3.out.below hb4)
    have B4 := hide (bstep B3.out hb4)
    clear hb4
    go_wp2_with fail
    refine (toInts_any a xs.length cap xs _ (HR.out.below B4.out) hn).mono ?_
    rintro e w5 ⟨g5, rfl, hg5, ho5, hb5⟩
    have R5 := hide ho5.row
    have B5 := hide (bstep B4.out hb5)
    have R5a := hide (R4.out.below hb5)
    clear ho5 hb5
    go_wp2_with fail
    refine (eqInts_any _ _ _ _ _ _ _ _ _ R5a.out R5.out hn).mono ?_
    rintro e w6 ⟨rfl, hb6⟩
    have B6 := hide (bstep B5.out hb6)
    rw [decide_eq_true rfl]
    go_wp2
    go_ret
    exact ⟨rfl, B6.out⟩
  · have hn' : (1048576 : Int) < n := by omega
    go_enter Tryd.func4, Tryd.ntmps4
    go_wp2
    go_ret
    exact ⟨rfl, (by repeat' first | with_reducible exact Below.refl _ _ | with_reducible assumption | with_reducible refine below_drewN ?_ _ | with_reducible refine balloc ?_ _ | with_reducible refine Below.drew ?_ | with_reducible refine Below.setCell ?_ (by first | (simp; done) | (simp; omega) | omega) _ | with_reducible refine bstep ?_ (by assumption))⟩
end Go.Proofs.YtlabfbkeckjbmaaDoor
