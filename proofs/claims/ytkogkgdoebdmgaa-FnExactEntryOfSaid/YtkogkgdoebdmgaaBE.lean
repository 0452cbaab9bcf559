/- BoxLeq of the program and of the model. -/
import Derived.Test.YtkogkgdoebdmgaaBA
import Derived.Test.YtkogkgdoebdmgaaWC
import Derived.Deep.RegionHeld3
namespace Go.Proofs.Ytkogkgdoebdmgaa
open Go.RowKit
set_option linter.unusedSimpArgs false
set_option linter.unusedVariables false

def alikeB (n : Nat) (f g : Nat → Int) (n' : Nat) (f' g' : Nat → Int) : Bool := boxB n f g && boxB n' f' g' && decide (n = n')
def leqN (n : Nat) (f g f' g' : Nat → Int) : Bool := allN n (fun i => leqB (f i) (g i) (f' i) (g' i))
theorem boxB_num {n : Nat} {f g : Nat → Int} (h : boxB n f g = true) : 1 ≤ n ∧ n ≤ 8 := by
  simp only [boxB, Bool.and_eq_true, decide_eq_true_eq] at h; exact h.1
theorem boxB_at {n k : Nat} {f g : Nat → Int} (h : boxB n f g = true) (hk : k < n) : rightB (f k) (g k) = true := by
  simp only [boxB, Bool.and_eq_true] at h; exact allN_at h.2 hk

set_option maxHeartbeats 800000 in
theorem boxesAlike_any (a a' : Option Addr) (n cap n' cap' : Nat) (f g f' g' : Nat → Int) (w : World) (h : PRow w a n f g) (h' : PRow w a' n' f' g') :
    Calls Try.prog 25 #[.slice a n cap, .slice a' n' cap'] w fun e w' => e = .returned (.bool (alikeB n f g n' f' g')) ∧ Below w.heap.size w w' := by
  have A := hide (iBoxOk_any a n cap f g w h)
  have B := hide (fun w1 (hb : Below w.heap.size w w1) => iBoxOk_any a' n' cap' f' g' w1 (h'.below hb))
  clear h h'
  unfold alikeB
  cases h1 : boxB n f g
  · rw [h1] at A
    simp only [Bool.and_true, Bool.and_false, Bool.true_and, Bool.false_and]
    go_enter Try.func25, Try.ntmps25
    go_wp2_with fail
    refine A.out.mono ?_
    rintro e w1 ⟨rfl, hb1⟩
    go_wp2_with fail
    go_ret
    exact ⟨rfl, (by repeat' first | with_reducible exact Below.refl _ _ | with_reducible assumption | with_reducible refine below_drewN ?_ _ | with_reducible refine balloc ?_ _ | with_reducible refine Below.drew ?_ | with_reducible refine Below.setCell ?_ (by first | (simp; done) | (simp; omega) | omega) _ | with_reducible refine bstep ?_ (by assumption))⟩
  · rw [h1] at A
    cases h2 : boxB n' f' g'
    · rw [h2] at B
      simp only [Bool.and_true, Bool.and_false, Bool.true_and, Bool.false_and]
      go_enter Try.func25, Try.ntmps25
      go_wp2_with fail
      refine A.out.mono ?_
      rintro e w1 ⟨rfl, hb1⟩
      go_wp2_with fail
      refine (B.out _ hb1).mono ?_
      rintro e w2 ⟨rfl, hb2⟩
      go_wp2_with fail
      go_ret
      exact ⟨rfl, (by repeat' first | with_reducible exact Below.refl _ _ | with_reducible assumption | with_reducible refine below_drewN ?_ _ | with_reducible refine balloc ?_ _ | with_reducible refine Below.drew ?_ | with_reducible refine Below.setCell ?_ (by first | (simp; done) | (simp; omega) | omega) _ | with_reducible refine bstep ?_ (by assumption))⟩
    · rw [h2] at B
      by_cases he : n = n'
      · subst he
        have he' : ((n : Int) == (n : Int)) = true := by simp
        rw [decide_eq_true rfl]
        simp only [Bool.and_true, Bool.and_false, Bool.true_and, Bool.false_and]
        go_enter Try.func25, Try.ntmps25
        go_wp2_with fail
        refine A.out.mono ?_
        rintro e w1 ⟨rfl, hb1⟩
        go_wp2_with fail
        refine (B.out _ hb1).mono ?_
        rintro e w2 ⟨rfl, hb2⟩
        go_wp2_with fail
        go_ret
        exact ⟨rfl, (by repeat' first | with_reducible exact Below.refl _ _ | with_reducible assumption | with_reducible refine below_drewN ?_ _ | with_reducible refine balloc ?_ _ | with_reducible refine Below.drew ?_ | with_reducible refine Below.setCell ?_ (by first | (simp; done) | (simp; omega) | omega) _ | with_reducible refine bstep ?_ (by assumption))⟩
      · have he' : ((n : Int) == (n' : Int)) = false := by simp; omega
        rw [decide_eq_false he]
        simp only [Bool.and_true, Bool.and_false, Bool.true_and, Bool.false_and]
        go_enter Try.func25, Try.ntmps25
        go_wp2_with fail
        refine A.out.mono ?_
        rintro e w1 ⟨rfl, hb1⟩
        go_wp2_with fail
        refine (B.out _ hb1).mono ?_
        rintro e w2 ⟨rfl, hb2⟩
        go_wp2_with fail
        go_ret
        exact ⟨rfl, (by repeat' first | with_reducible exact Below.refl _ _ | with_reducible assumption | with_reducible refine below_drewN ?_ _ | with_reducible refine balloc ?_ _ | with_reducible refine Below.drew ?_ | with_reducible refine Below.setCell ?_ (by first | (simp; done) | (simp; omega) | omega) _ | with_reducible refine bstep ?_ (by assumption))⟩



def boxLeqB (n : Nat) (f g : Nat → Int) (n' : Nat) (f' g' : Nat → Int) : Bool := alikeB n f g n' f' g' && leqN n f g f' g'

end Go.Proofs.Ytkogkgdoebdmgaa