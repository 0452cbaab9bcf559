/- Bounds of the model: LowOf, HighOf, BoxHas. -/
import Derived.Test.YtcgeebdhkdfkpaaBJ
namespace Go.Proofs.Ytcgeebdhkdfkpaa
open Go.RowKit
set_option maxRecDepth 8000
set_option linter.unusedSimpArgs false
set_option linter.unusedVariables false

set_option maxHeartbeats 800000 in
theorem l4Form_any (a a' : Option Addr) (n cap n' cap' : Nat) (f g : Nat → Int) (xs : List Int) (w : World) (h : PRow w a n f g) (h' : Row w a' n' xs) (hn : n ≤ 1048576) (hn' : n' ≤ 1048576) :
    Calls Try.prog 14 #[.slice a n cap, .slice a' n' cap'] w fun e w' => e = .returned (.bool (formB n f g n' xs)) ∧ Below w.heap.size w w' := by
  have A := hide (sBoxOk_any a n cap f g w h hn)
  have B := hide (fun w1 (hb : Below w.heap.size w w1) => sVecOk_any a' n' cap' xs w1 (h'.below hb) hn')
  clear h h'
  unfold formB
  cases h1 : boxB n f g
  · rw [h1] at A
    simp only [Bool.and_true, Bool.and_false, Bool.true_and, Bool.false_and]
    go_enter Try.func14, Try.ntmps14
    go_wp2_with fail
    refine A.out.mono ?_
    rintro e w1 ⟨rfl, hb1⟩
    go_wp2_with fail
    go_ret
    exact ⟨rfl, (by repeat' first | with_reducible exact Below.refl _ _ | with_reducible assumption | with_reducible refine below_drewN ?_ _ | with_reducible refine balloc ?_ _ | with_reducible refine Below.drew ?_ | with_reducible refine Below.setCell ?_ (by first | (simp; done) | (simp; omega) | omega) _ | with_reducible refine bstep ?_ (by assumption))⟩
  · rw [h1] at A
    cases h2 : vecOkB xs
    · rw [h2] at B
      simp only [Bool.and_true, Bool.and_false, Bool.true_and, Bool.false_and]
      go_enter Try.func14, Try.ntmps14
      go_wp2_with fail
      refine A.out.mono ?_
      rintro e w1 ⟨rfl, hb1⟩
      go_wp2_with fail
      refine (B.out _ hb1).mono ?_
      rintro e w2 ⟨rfl, rfl⟩
      go_wp2_with fail
      go_ret
      exact ⟨rfl, (by repeat' first | with_reducible exact Below.refl _ _ | with_reducible assumption | with_reducible refine below_drewN ?_ _ | with_reducible refine balloc ?_ _ | with_reducible refine Below.drew ?_ | with_reducible refine Below.setCell ?_ (by first | (simp; done) | (simp; omega) | omega) _ | with_reducible refine bstep ?_ (by assumption))⟩
    · rw [h2] at B
      simp only [Bool.and_true, Bool.and_false, Bool.true_and, Bool.false_and]
      obtain ⟨v, hv⟩ : ∃ v, decide (n = n') = v := ⟨_, rfl⟩
      have he : ((n : Int) == (n' : Int)) = v := by
        by_cases q : n = n'
        · subst q; rw [← hv]; simp
        · rw [← hv, decide_eq_false q]; simp; omega
      rw [hv]
      clear hv
      go_enter Try.func14, Try.ntmps14
      go_wp2_with fail
      refine A.out.mono ?_
      rintro e w1 ⟨rfl, hb1⟩
      go_wp2_with fail
      refine (B.out _ hb1).mono ?_
      rintro e w2 ⟨rfl, rfl⟩
      cases v
      all_goals
        go_wp2_with fail
        go_ret
        exact ⟨rfl, (by repeat' first | with_reducible exact Below.refl _ _ | with_reducible assumption | with_reducible refine below_drewN ?_ _ | with_reducible refine balloc ?_ _ | with_reducible refine Below.drew ?_ | with_reducible refine Below.setCell ?_ (by first | (simp; done) | (simp; omega) | omega) _ | with_reducible refine bstep ?_ (by assumption))⟩





def hasN (n : Nat) (f g : Nat → Int) (xs : List Int) : Bool := allN n (fun i => hasB (f i) (g i) (nth xs i))

theorem sumSq_zero (d : Nat → Int) (n : Nat) (h0 : ∀ i, i < n → 0 ≤ d i ∧ d i ≤ 4194304) : sumSq d n = 0 ↔ ∀ i, i < n → d i = 0 := by
  induction n with
  | zero => simp [sumSq]
  | succ n ih =>
    have ih := ih (fun i hi => h0 i (by omega))
    have b := (sumSq_bounds d n (fun i hi => h0 i (by omega)) n (Nat.le_refl _)).1
    have q := (sq_bounds (h0 n (by omega)).1 (h0 n (by omega)).2).1
    simp only [sumSq]
    constructor
    · intro hs
      have e1 : sumSq d n = 0 := by omega
      have e2 : d n * d n = 0 := by omega
      intro i hi
      rcases Nat.lt_succ_iff_lt_or_eq.1 hi with h | h
      · exact ih.1 e1 i h
      · subst h; exact (Int.mul_eq_zero.1 e2).elim id id
    · intro hs
      rw [ih.2 (fun i hi => hs i (by omega)), hs n (by omega)]; rfl

theorem allN_congr {n : Nat} {p q : Nat → Bool} (h : ∀ i, i < n → p i = q i) : allN n p = allN n q := by
  unfold allN
  rw [Bool.eq_iff_iff]
  simp only [List.all_eq_true, List.mem_range]
  exact ⟨fun k i hi => by rw [← h i hi]; exact k i hi, fun k i hi => by rw [h i hi]; exact k i hi⟩

/-- What is at no distance from a box is what it has. -/
theorem least_zero {n : Nat} {f g : Nat → Int} {m : Nat} {xs : List Int} (hm : xs.length = m) (h : formB n f g m xs = true) : (leastN n f g xs == 0) = hasN n f g xs := by
  simp only [formB, Bool.and_eq_true, decide_eq_true_eq] at h
  obtain ⟨⟨h1, h2⟩, rfl⟩ := h
  have hb : ∀ i, i < n → 0 ≤ leastV (f i) (g i) (nth xs i) ∧ leastV (f i) (g i) (nth xs i) ≤ 4194304 := fun i hi => least_bounds (boxB_at' h1 hi) (vecOkB_at h2 (by omega))
  have key := sumSq_zero (fun i => leastV (f i) (g i) (nth xs i)) n hb
  rw [Bool.eq_iff_iff, beq_iff_eq]
  unfold leastN
  rw [key]
  constructor
  · intro q
    refine allN_yes fun i hi => ?_
    have := q i hi
    simp only [hasB, boxB_at' h1 hi, Bool.true_and, inB, decide_eq_true_eq]
    unfold leastV at this
    omega
  · intro q i hi
    have := allN_at q hi
    simp only [hasB, boxB_at' h1 hi, Bool.true_and, inB, decide_eq_true_eq] at this
    unfold leastV
    omega

def boxHasB (n : Nat) (f g : Nat → Int) (m : Nat) (xs : List Int) : Bool := formB n f g m xs && hasN n f g xs





end Go.Proofs.Ytcgeebdhkdfkpaa