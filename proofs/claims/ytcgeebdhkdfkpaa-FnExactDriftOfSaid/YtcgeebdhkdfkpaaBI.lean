/- Bounds of the program: the sums; LowOf, HighOf, BoxHas. -/
import Derived.Test.YtcgeebdhkdfkpaaBH
namespace Go.Proofs.Ytcgeebdhkdfkpaa
open Go.RowKit
set_option maxRecDepth 8000
set_option linter.unusedSimpArgs false
set_option linter.unusedVariables false

/-- Whether it is a box, and a vector of as many numbers. -/
def formB (n : Nat) (f g : Nat → Int) (m : Nat) (xs : List Int) : Bool := boxB n f g && vecOkB xs && decide (n = m)

theorem vecOkB_at {xs : List Int} (h : vecOkB xs = true) {k : Nat} (hk : k < xs.length) : compB (nth xs k) = true := by
  simp only [vecOkB, Bool.and_eq_true, List.all_eq_true] at h
  have := h.2 (nth xs k) (by unfold nth; simp [hk])
  exact this

theorem boxB_num' {n : Nat} {f g : Nat → Int} (h : boxB n f g = true) : 1 ≤ n ∧ n ≤ 8 := by
  simp only [boxB, Bool.and_eq_true, decide_eq_true_eq] at h; exact h.1

theorem boxB_at' {n k : Nat} {f g : Nat → Int} (h : boxB n f g = true) (hk : k < n) : rightB (f k) (g k) = true := by
  simp only [boxB, Bool.and_eq_true] at h; exact allN_at h.2 hk

def leastN (n : Nat) (f g : Nat → Int) (xs : List Int) : Int := sumSq (fun i => leastV (f i) (g i) (nth xs i)) n
def mostN (n : Nat) (f g : Nat → Int) (xs : List Int) : Int := sumSq (fun i => mostV (f i) (g i) (nth xs i)) n

set_option maxHeartbeats 800000 in
theorem boxFits_any (a a' : Option Addr) (n cap n' cap' : Nat) (f g : Nat → Int) (xs : List Int) (w : World) (h : PRow w a n f g) (h' : Row w a' n' xs) (hn' : n' ≤ 1048576) :
    Calls Try.prog 28 #[.slice a n cap, .slice a' n' cap'] w fun e w' => e = .returned (.bool (formB n f g n' xs)) ∧ Below w.heap.size w w' := by
  have A := hide (fun w1 (hb : Below w.heap.size w w1) => iBoxOk_any a n cap f g w1 (h.below hb))
  have B := hide (fun w1 (hb : Below w.heap.size w w1) => iVecOk_any a' n' cap' xs w1 (h'.below hb) hn')
  clear h h'
  unfold formB
  cases h1 : boxB n f g
  · rw [h1] at A
    simp only [Bool.and_true, Bool.and_false, Bool.true_and, Bool.false_and]
    go_enter Try.func28, Try.ntmps28
    go_wp2_with fail
    refine (A.out _ (by repeat' first | with_reducible exact Below.refl _ _ | with_reducible assumption | with_reducible refine below_drewN ?_ _ | with_reducible refine balloc ?_ _ | with_reducible refine Below.drew ?_ | with_reducible refine Below.setCell ?_ (by first | (simp; done) | (simp; omega) | omega) _ | with_reducible refine bstep ?_ (by assumption))).mono ?_
    rintro e w1 ⟨rfl, hb1⟩
    go_wp2_with fail
    go_ret
    exact ⟨rfl, (by repeat' first | with_reducible exact Below.refl _ _ | with_reducible assumption | with_reducible refine below_drewN ?_ _ | with_reducible refine balloc ?_ _ | with_reducible refine Below.drew ?_ | with_reducible refine Below.setCell ?_ (by first | (simp; done) | (simp; omega) | omega) _ | with_reducible refine bstep ?_ (by assumption))⟩
  · rw [h1] at A
    cases h2 : vecOkB xs
    · rw [h2] at B
      simp only [Bool.and_true, Bool.and_false, Bool.true_and, Bool.false_and]
      go_enter Try.func28, Try.ntmps28
      go_wp2_with fail
      refine (A.out _ (by repeat' first | with_reducible exact Below.refl _ _ | with_reducible assumption | with_reducible refine below_drewN ?_ _ | with_reducible refine balloc ?_ _ | with_reducible refine Below.drew ?_ | with_reducible refine Below.setCell ?_ (by first | (simp; done) | (simp; omega) | omega) _ | with_reducible refine bstep ?_ (by assumption))).mono ?_
      rintro e w1 ⟨rfl, hb1⟩
      go_wp2_with fail
      refine (B.out _ hb1).mono ?_
      rintro e w2 ⟨rfl, hb2⟩
      go_wp2_with fail
      go_ret
      exact ⟨rfl, (by repeat' first | with_reducible exact Below.refl _ _ | with_reducible assumption | with_reducible refine below_drewN ?_ _ | with_reducible refine balloc ?_ _ | with_reducible refine Below.drew ?_ | with_reducible refine Below.setCell ?_ (by first | (simp; done) | (simp; omega) | omega) _ | with_reducible refine bstep ?_ (by assumption))⟩
    · rw [h2] at B
      have hd : ((n : Int) == (n' : Int)) = decide (n = n') := by
        by_cases he : n = n'
        · subst he; simp
        · rw [decide_eq_false he]; simp; omega
      simp only [Bool.and_true, Bool.and_false, Bool.true_and, Bool.false_and]
      generalize decide (n = n') = u at hd
      go_enter Try.func28, Try.ntmps28
      go_wp2_with fail
      refine (A.out _ (by repeat' first | with_reducible exact Below.refl _ _ | with_reducible assumption | with_reducible refine below_drewN ?_ _ | with_reducible refine balloc ?_ _ | with_reducible refine Below.drew ?_ | with_reducible refine Below.setCell ?_ (by first | (simp; done) | (simp; omega) | omega) _ | with_reducible refine bstep ?_ (by assumption))).mono ?_
      rintro e w1 ⟨rfl, hb1⟩
      go_wp2_with fail
      refine (B.out _ hb1).mono ?_
      rintro e w2 ⟨rfl, hb2⟩
      go_wp2_with fail
      go_ret
      exact ⟨by first | rfl | (rw [hd]; done) | (simp [hd]; done), (by repeat' first | with_reducible exact Below.refl _ _ | with_reducible assumption | with_reducible refine below_drewN ?_ _ | with_reducible refine balloc ?_ _ | with_reducible refine Below.drew ?_ | with_reducible refine Below.setCell ?_ (by first | (simp; done) | (simp; omega) | omega) _ | with_reducible refine bstep ?_ (by assumption))⟩











end Go.Proofs.Ytcgeebdhkdfkpaa