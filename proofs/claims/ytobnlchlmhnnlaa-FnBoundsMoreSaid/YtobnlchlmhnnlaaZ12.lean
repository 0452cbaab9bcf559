/- Bounds of the model: the ends. -/
import Derived.Test.YtobnlchlmhnnlaaZ11
import Derived.Deep.DeepCutAuto
namespace Go.Proofs.Ytobnlchlmhnnlaa
open Go.RowKit
set_option maxRecDepth 8000
set_option linter.unusedSimpArgs false
set_option linter.unusedVariables false

end Go.Proofs.Ytobnlchlmhnnlaa
/- Bounds of the model: LowOf, HighOf, BoxHas. -/
namespace Go.Proofs.Ytobnlchlmhnnlaa
open Go.RowKit
set_option maxRecDepth 8000
set_option linter.unusedSimpArgs false
set_option linter.unusedVariables false







def hasN (n : Nat) (f g : Nat → Int) (xs : List Int) : Bool := allN n (fun i => hasB (f i) (g i) (nth xs i))

theorem sumSq_zero (d : Nat → Int) (n : Nat) (h0 : ∀ i, i < n → 0 ≤ d i ∧ d i ≤ 4194304) : sumSq d n = 0 ↔ ∀ i, i < n → d i = 0 := by
  induction n with
  | zero => simp [sumSq]
  | succ n ih =>
    have ih := ih (fun i hi => h0 i (by omega))
    have b := (sumSq_bounds d n (fun i hi => h0 i (by omega)) n (Nat.le_refl _)).1
    have q := (sq_bounds (h0 n (by omega)).1 (h0 n (by omega)).2).1
    simp only [sumSq]
    constructor
    · intro hs
      have e1 : sumSq d n = 0 := by omega
      have e2 : d n * d n = 0 := by omega
      intro i hi
      rcases Nat.lt_succ_iff_lt_or_eq.1 hi with h | h
      · exact ih.1 e1 i h
      · subst h; exact (Int.mul_eq_zero.1 e2).elim id id
    · intro hs
      rw [ih.2 (fun i hi => hs i (by omega)), hs n (by omega)]; rfl

theorem allN_congr {n : Nat} {p q : Nat → Bool} (h : ∀ i, i < n → p i = q i) : allN n p = allN n q := by
  unfold allN
  rw [Bool.eq_iff_iff]
  simp only [List.all_eq_true, List.mem_range]
  exact ⟨fun k i hi => by rw [← h i hi]; exact k i hi, fun k i hi => by rw [h i hi]; exact k i hi⟩

/-- What is at no distance from a box is what it has. -/
theorem least_zero {n : Nat} {f g : Nat → Int} {m : Nat} {xs : List Int} (hm : xs.length = m) (h : formB n f g m xs = true) : (leastN n f g xs == 0) = hasN n f g xs := by
  simp only [formB, Bool.and_eq_true, decide_eq_true_eq] at h
  obtain ⟨⟨h1, h2⟩, rfl⟩ := h
  have hb : ∀ i, i < n → 0 ≤ leastV (f i) (g i) (nth xs i) ∧ leastV (f i) (g i) (nth xs i) ≤ 4194304 := fun i hi => least_bounds (boxB_at' h1 hi) (vecOkB_at h2 (by omega))
  have key := sumSq_zero (fun i => leastV (f i) (g i) (nth xs i)) n hb
  rw [Bool.eq_iff_iff, beq_iff_eq]
  unfold leastN
  rw [key]
  constructor
  · intro q
    refine allN_yes fun i hi => ?_
    have := q i hi
    simp only [hasB, boxB_at' h1 hi, Bool.true_and, inB, decide_eq_true_eq]
    unfold leastV at this
    omega
  · intro q i hi
    have := allN_at q hi
    simp only [hasB, boxB_at' h1 hi, Bool.true_and, inB, decide_eq_true_eq] at this
    unfold leastV
    omega

def boxHasB (n : Nat) (f g : Nat → Int) (m : Nat) (xs : List Int) : Bool := formB n f g m xs && hasN n f g xs





end Go.Proofs.Ytobnlchlmhnnlaa
/- eqRangeS of the laws. -/
namespace Go.Proofs.Ytobnlchlmhnnlaa
open Go.RowKit
set_option maxRecDepth 8000
set_option linter.unusedSimpArgs false
set_option linter.unusedVariables false









end Go.Proofs.Ytobnlchlmhnnlaa
/- BoxLeq of the model; the walk of FnExactBoxLeq. -/
namespace Go.Proofs.Ytobnlchlmhnnlaa
open Go.RowKit
set_option maxRecDepth 8000
set_option linter.unusedSimpArgs false
set_option linter.unusedVariables false

set_option maxHeartbeats 1600000 in
theorem sBoxLeq_some (b off n cap b' off' cap' : Nat) (f g f' g' : Nat → Int) (w : World) (h8 : n ≤ 8) (hb : b < w.heap.size) (hb' : b' < w.heap.size)
    (hc : ∀ i, i < n → w.cell? ⟨b, off + i * 2, none⟩ = some (.int .i64 (f i)) ∧ w.cell? ⟨b, off + i * 2 + 1, none⟩ = some (.int .i64 (g i)))
    (hc' : ∀ i, i < n → w.cell? ⟨b', off' + i * 2, none⟩ = some (.int .i64 (f' i)) ∧ w.cell? ⟨b', off' + i * 2 + 1, none⟩ = some (.int .i64 (g' i)))
    (A : Hid (Calls Try.prog 17 #[.slice (some ⟨b, off, none⟩) n cap] w fun e w' => e = .returned (.bool true) ∧ Below w.heap.size w w'))
    (B : Hid (∀ w1, Below w.heap.size w w1 → Calls Try.prog 17 #[.slice (some ⟨b', off', none⟩) n cap'] w1 fun e w' => e = .returned (.bool true) ∧ Below w1.heap.size w1 w')) :
    Calls Try.prog 10 #[.slice (some ⟨b, off, none⟩) n cap, .slice (some ⟨b', off', none⟩) n cap'] w fun e w' => e = .returned (.bool (leqN n f g f' g')) ∧ Below w.heap.size w w' := by
  have hnn : ((n : Int) != (n : Int)) = false := by simp
  go_enter Try.func10, Try.ntmps10
  go_wp2_with fail
  refine A.out.mono ?_
  rintro e w1 ⟨rfl, hb1⟩
  go_wp2_with fail
  refine (B.out _ hb1).mono ?_
  rintro e w2 ⟨rfl, hb2⟩
  go_wp2_with fail
  go_loopw [5] (fun i wr => ∃ k : Nat, k ≤ n ∧ i = .int .i64 k ∧ (∀ j, j < k → leqB (f j) (g j) (f' j) (g' j) = true) ∧ Below w.heap.size w wr) (fun i _ => n - (intOf i).toNat)
  case atStart => exact ⟨0, Nat.zero_le _, rfl, fun j h => absurd h (by omega), (by repeat' first | with_reducible exact Below.refl _ _ | with_reducible assumption | with_reducible refine below_drewN ?_ _ | with_reducible refine balloc ?_ _ | with_reducible refine Below.drew ?_ | with_reducible refine Below.setCell ?_ (by first | (simp; done) | (simp; omega) | omega) _ | with_reducible refine bstep ?_ (by assumption))⟩
  case round =>
    obtain ⟨k, hk, rfl, hpre, hbel⟩ := hrel
    have HP := hide hpre
    have HC := hide hc
    have HC' := hide hc'
    have HB := hide hbel
    by_cases hlt : k < n
    · have z1 : wr.cell? ⟨b, off + k * 2, none⟩ = some (.int .i64 (f k)) := (hbel.cell (p := ⟨b, off + k * 2, none⟩) hb).trans (hc k hlt).1
      have z2 : wr.cell? ⟨b, off + k * 2 + 1, none⟩ = some (.int .i64 (g k)) := (hbel.cell (p := ⟨b, off + k * 2 + 1, none⟩) hb).trans (hc k hlt).2
      have z3 : wr.cell? ⟨b', off' + k * 2, none⟩ = some (.int .i64 (f' k)) := (hbel.cell (p := ⟨b', off' + k * 2, none⟩) hb').trans (hc' k hlt).1
      have z4 : wr.cell? ⟨b', off' + k * 2 + 1, none⟩ = some (.int .i64 (g' k)) := (hbel.cell (p := ⟨b', off' + k * 2 + 1, none⟩) hb').trans (hc' k hlt).2
      have hlt' : (k : Int) < (n : Int) := by omega
      have l1 : b < wr.heap.size := Nat.lt_of_lt_of_le hb hbel.size
      have l2 : b' < wr.heap.size := Nat.lt_of_lt_of_le hb' hbel.size
      have R := hide (sRangeLeq_any (f k) (g k) (f' k) (g' k))
      clear hpre hbel hc hc'
      obtain ⟨v, hv⟩ : ∃ v, leqB (f k) (g k) (f' k) (g' k) = v := ⟨_, rfl⟩
      have HE := hide hv
      rw [hv] at R
      clear hv
      go_upto_region 6 with fail
      go_region_held3 (fun w' => w'.cell? ⟨b, off + k * 2, none⟩ = some (.int .i64 (f k)) ∧ w'.cell? ⟨b, off + k * 2 + 1, none⟩ = some (.int .i64 (g k)) ∧ w'.cell? ⟨b', off' + k * 2, none⟩ = some (.int .i64 (f' k)) ∧ w'.cell? ⟨b', off' + k * 2 + 1, none⟩ = some (.int .i64 (g' k))) (refine ⟨?_, ?_, ?_, ?_⟩ <;> first | assumption | (simp [go_sem]; done)) ((go_at_call 20; refine (R.out _).mono ?_; rintro e wn ⟨rfl, hbn⟩; have s1 := (hbn.cell (p := ⟨b, off + k * 2, none⟩) l1).trans z1; have s2 := (hbn.cell (p := ⟨b, off + k * 2 + 1, none⟩) l1).trans z2; have s3 := (hbn.cell (p := ⟨b', off' + k * 2, none⟩) l2).trans z3; have s4 := (hbn.cell (p := ⟨b', off' + k * 2 + 1, none⟩) l2).trans z4))
      all_goals
        cases v
        · go_wp2_with fail
          go_ret
          refine ⟨by rw [show leqN n f g f' g' = false from allN_no hlt HE.out]; rfl, ?_⟩
          have hbel := HB.out
          exact (by repeat' first | with_reducible exact Below.refl _ _ | with_reducible assumption | with_reducible refine below_drewN ?_ _ | with_reducible refine balloc ?_ _ | with_reducible refine Below.drew ?_ | with_reducible refine Below.setCell ?_ (by first | (simp; done) | (simp; omega) | omega) _ | with_reducible refine bstep ?_ (by assumption))
        · go_wp2_with fail
          go_roundw
          case rel =>
            have hbel := HB.out
            exact ⟨k + 1, by omega, by go_num, fun j hj => (by rcases Nat.lt_succ_iff_lt_or_eq.1 hj with h | h; exact HP.out j h; rw [h]; exact HE.out), (by repeat' first | with_reducible exact Below.refl _ _ | with_reducible assumption | with_reducible refine below_drewN ?_ _ | with_reducible refine balloc ?_ _ | with_reducible refine Below.drew ?_ | with_reducible refine Below.setCell ?_ (by first | (simp; done) | (simp; omega) | omega) _ | with_reducible refine bstep ?_ (by assumption))⟩
          case measure => simp [intOf]; omega
    · clear hpre hbel hc hc'
      go_wp2_with fail
      go_ret
      exact ⟨by rw [show leqN n f g f' g' = true from allN_yes fun j hj => HP.out j (by omega)]; rfl, HB.out⟩

set_option maxHeartbeats 800000 in
theorem sBoxLeq_any (a a' : Option Addr) (n cap n' cap' : Nat) (f g f' g' : Nat → Int) (w : World) (h : PRow w a n f g) (h' : PRow w a' n' f' g') (hn : n ≤ 1048576) (hn' : n' ≤ 1048576) :
    Calls Try.prog 10 #[.slice a n cap, .slice a' n' cap'] w fun e w' => e = .returned (.bool (boxLeqB n f g n' f' g')) ∧ Below w.heap.size w w' := by
  have A := hide (sBoxOk_any a n cap f g w h hn)
  have B := hide (fun w1 (hb : Below w.heap.size w w1) => sBoxOk_any a' n' cap' f' g' w1 (h'.below hb) hn')
  unfold boxLeqB alikeB
  cases h1 : boxB n f g
  · rw [h1] at A
    simp only [Bool.and_true, Bool.and_false, Bool.true_and, Bool.false_and]
    clear h h'
    go_enter Try.func10, Try.ntmps10
    go_wp2_with fail
    refine A.out.mono ?_
    rintro e w1 ⟨rfl, hb1⟩
    go_wp2_with fail
    go_ret
    exact ⟨rfl, (by repeat' first | with_reducible exact Below.refl _ _ | with_reducible assumption | with_reducible refine below_drewN ?_ _ | with_reducible refine balloc ?_ _ | with_reducible refine Below.drew ?_ | with_reducible refine Below.setCell ?_ (by first | (simp; done) | (simp; omega) | omega) _ | with_reducible refine bstep ?_ (by assumption))⟩
  · rw [h1] at A
    cases h2 : boxB n' f' g'
    · rw [h2] at B
      simp only [Bool.and_true, Bool.and_false, Bool.true_and, Bool.false_and]
      clear h h'
      go_enter Try.func10, Try.ntmps10
      go_wp2_with fail
      refine A.out.mono ?_
      rintro e w1 ⟨rfl, hb1⟩
      go_wp2_with fail
      refine (B.out _ hb1).mono ?_
      rintro e w2 ⟨rfl, hb2⟩
      go_wp2_with fail
      go_ret
      exact ⟨rfl, (by repeat' first | with_reducible exact Below.refl _ _ | with_reducible assumption | with_reducible refine below_drewN ?_ _ | with_reducible refine balloc ?_ _ | with_reducible refine Below.drew ?_ | with_reducible refine Below.setCell ?_ (by first | (simp; done) | (simp; omega) | omega) _ | with_reducible refine bstep ?_ (by assumption))⟩
    · rw [h2] at B
      by_cases he : n = n'
      · subst he
        rw [decide_eq_true rfl]
        simp only [Bool.and_true, Bool.and_false, Bool.true_and, Bool.false_and]
        have hnn := boxB_num h1
        rcases h.lies with q | ⟨b, off, rfl, lt, hc⟩
        · omega
        · rcases h'.lies with q | ⟨b', off', rfl, lt', hc'⟩
          · omega
          · exact sBoxLeq_some b off n cap b' off' cap' f g f' g' w hnn.2 lt lt' hc hc' A B
      · have he' : ((n : Int) != (n' : Int)) = true := by rw [bne_iff_ne]; omega
        rw [decide_eq_false he]
        simp only [Bool.and_true, Bool.and_false, Bool.true_and, Bool.false_and]
        clear h h'
        go_enter Try.func10, Try.ntmps10
        go_wp2_with fail
        refine A.out.mono ?_
        rintro e w1 ⟨rfl, hb1⟩
        go_wp2_with fail
        refine (B.out _ hb1).mono ?_
        rintro e w2 ⟨rfl, hb2⟩
        go_wp2_with fail
        go_ret
        exact ⟨rfl, (by repeat' first | with_reducible exact Below.refl _ _ | with_reducible assumption | with_reducible refine below_drewN ?_ _ | with_reducible refine balloc ?_ _ | with_reducible refine Below.drew ?_ | with_reducible refine Below.setCell ?_ (by first | (simp; done) | (simp; omega) | omega) _ | with_reducible refine bstep ?_ (by assumption))⟩

end Go.Proofs.Ytobnlchlmhnnlaa