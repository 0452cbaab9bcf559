/- Bounds of the program: the sums; LowOf, HighOf, BoxHas. -/
import Derived.Test.YtkjkdafbfcfhfaaBH
namespace Go.Proofs.Ytkjkdafbfcfhfaa
open Go.RowKit
set_option linter.unusedSimpArgs false
set_option linter.unusedVariables false

/-- Whether it is a box, and a vector of as many numbers. -/
def formB (n : Nat) (f g : Nat → Int) (m : Nat) (xs : List Int) : Bool := boxB n f g && vecOkB xs && decide (n = m)
theorem vecOkB_at {xs : List Int} (h : vecOkB xs = true) {k : Nat} (hk : k < xs.length) : compB (nth xs k) = true := by
  simp only [vecOkB, Bool.and_eq_true, List.all_eq_true] at h
  have := h.2 (nth xs k) (by unfold nth; simp [hk])
  exact this
theorem boxB_num' {n : Nat} {f g : Nat → Int} (h : boxB n f g = true) : 1 ≤ n ∧ n ≤ 8 := by
  simp only [boxB, Bool.and_eq_true, decide_eq_true_eq] at h; exact h.1
theorem boxB_at' {n k : Nat} {f g : Nat → Int} (h : boxB n f g = true) (hk : k < n) : rightB (f k) (g k) = true := by
  simp only [boxB, Bool.and_eq_true] at h; exact allN_at h.2 hk

def leastN (n : Nat) (f g : Nat → Int) (xs : List Int) : Int := sumSq (fun i => leastV (f i) (g i) (nth xs i)) n
def mostN (n : Nat) (f g : Nat → Int) (xs : List Int) : Int := sumSq (fun i => mostV (f i) (g i) (nth xs i)) n

set_option maxHeartbeats 800000 in
theorem boxFits_any (a a' : Option Addr) (n cap n' cap' : Nat) (f g : Nat → Int) (xs : List Int) (w : World) (h : PRow w a n f g) (h' : Row w a' n' xs) (hn' : n' ≤ 1048576) :
    Calls Try.prog 36 #[.slice a n cap, .slice a' n' cap'] w fun e w' => e = .returned (.bool (formB n f g n' xs)) ∧ Below w.heap.size w w' := by
  have A := hide (fun w1 (hb : Below w.heap.size w w1) => iBoxOk_any a n cap f g w1 (h.below hb))
  have B := hide (fun w1 (hb : Below w.heap.size w w1) => iVecOk_any a' n' cap' xs w1 (h'.below hb) hn')
  clear h h'
  unfold formB
  cases h1 : boxB n f g
  · rw [h1] at A
    simp only [Bool.and_true, Bool.and_false, Bool.true_and, Bool.false_and]
    go_enter Try.func36, Try.ntmps36
    go_wp2_with fail
    refine (A.out _ (by repeat' first | with_reducible exact Below.refl _ _ | with_reducible assumption | with_reducible refine below_drewN ?_ _ | with_reducible refine balloc ?_ _ | with_reducible refine Below.drew ?_ | with_reducible refine Below.setCell ?_ (by first | (simp; done) | (simp; omega) | omega) _ | with_reducible refine bstep ?_ (by assumption))).mono ?_
    rintro e w1 ⟨rfl, hb1⟩
    go_wp2_with fail
    go_ret
    exact ⟨rfl, (by repeat' first | with_reducible exact Below.refl _ _ | with_reducible assumption | with_reducible refine below_drewN ?_ _ | with_reducible refine balloc ?_ _ | with_reducible refine Below.drew ?_ | with_reducible refine Below.setCell ?_ (by first | (simp; done) | (simp; omega) | omega) _ | with_reducible refine bstep ?_ (by assumption))⟩
  · rw [h1] at A
    cases h2 : vecOkB xs
    · rw [h2] at B
      simp only [Bool.and_true, Bool.and_false, Bool.true_and, Bool.false_and]
      go_enter Try.func36, Try.ntmps36
      go_wp2_with fail
      refine (A.out _ (by repeat' first | with_reducible exact Below.refl _ _ | with_reducible assumption | with_reducible refine below_drewN ?_ _ | with_reducible refine balloc ?_ _ | with_reducible refine Below.drew ?_ | with_reducible refine Below.setCell ?_ (by first | (simp; done) | (simp; omega) | omega) _ | with_reducible refine bstep ?_ (by assumption))).mono ?_
      rintro e w1 ⟨rfl, hb1⟩
      go_wp2_with fail
      refine (B.out _ hb1).mono ?_
      rintro e w2 ⟨rfl, hb2⟩
      go_wp2_with fail
      go_ret
      exact ⟨rfl, (by repeat' first | with_reducible exact Below.refl _ _ | with_reducible assumption | with_reducible refine below_drewN ?_ _ | with_reducible refine balloc ?_ _ | with_reducible refine Below.drew ?_ | with_reducible refine Below.setCell ?_ (by first | (simp; done) | (simp; omega) | omega) _ | with_reducible refine bstep ?_ (by assumption))⟩
    · rw [h2] at B
      have hd : ((n : Int) == (n' : Int)) = decide (n = n') := by
        by_cases he : n = n'
        · subst he; simp
        · rw [decide_eq_false he]; simp; omega
      simp only [Bool.and_true, Bool.and_false, Bool.true_and, Bool.false_and]
      generalize decide (n = n') = u at hd
      go_enter Try.func36, Try.ntmps36
      go_wp2_with fail
      refine (A.out _ (by repeat' first | with_reducible exact Below.refl _ _ | with_reducible assumption | with_reducible refine below_drewN ?_ _ | with_reducible refine balloc ?_ _ | with_reducible refine Below.drew ?_ | with_reducible refine Below.setCell ?_ (by first | (simp; done) | (simp; omega) | omega) _ | with_reducible refine bstep ?_ (by assumption))).mono ?_
      rintro e w1 ⟨rfl, hb1⟩
      go_wp2_with fail
      refine (B.out _ hb1).mono ?_
      rintro e w2 ⟨rfl, hb2⟩
      go_wp2_with fail
      go_ret
      exact ⟨by first | rfl | (rw [hd]; done) | (simp [hd]; done), (by repeat' first | with_reducible exact Below.refl _ _ | with_reducible assumption | with_reducible refine below_drewN ?_ _ | with_reducible refine balloc ?_ _ | with_reducible refine Below.drew ?_ | with_reducible refine Below.setCell ?_ (by first | (simp; done) | (simp; omega) | omega) _ | with_reducible refine bstep ?_ (by assumption))⟩

set_option maxHeartbeats 800000 in
theorem sightOf_any (a a' : Option Addr) (n cap n' cap' : Nat) (f g : Nat → Int) (xs : List Int) (w : World) (h : PRow w a n f g) (h' : Row w a' n' xs) (hn' : n' ≤ 1048576) :
    Calls Try.prog 31 #[.slice a n cap, .slice a' n' cap'] w fun e w' =>
      e = .returned (.tuple #[if formB n f g n' xs then .agg #[.slice a n cap, .slice a' n' cap'] else .agg #[.slice none 0 0, .slice none 0 0], .bool (formB n f g n' xs)]) ∧ Below w.heap.size w w' := by
  have A := hide (fun w1 (hb : Below w.heap.size w w1) => boxFits_any a a' n cap n' cap' f g xs w1 (h.below hb) (h'.below hb) hn')
  clear h h'
  cases h1 : formB n f g n' xs
  · rw [h1] at A
    simp only [Bool.false_eq_true, if_false]
    go_enter Try.func31, Try.ntmps31
    go_wp2_with fail
    refine (A.out _ (by repeat' first | with_reducible exact Below.refl _ _ | with_reducible assumption | with_reducible refine below_drewN ?_ _ | with_reducible refine balloc ?_ _ | with_reducible refine Below.drew ?_ | with_reducible refine Below.setCell ?_ (by first | (simp; done) | (simp; omega) | omega) _ | with_reducible refine bstep ?_ (by assumption))).mono ?_
    rintro e w1 ⟨rfl, hb1⟩
    have g0 : w.heap.size < w1.heap.size := by have := hb1.size; simp at this; omega
    have c0 : w1.cell? ⟨w.heap.size, 0, none⟩ = some (.slice none 0 0) := (hb1.cell (p := ⟨w.heap.size, 0, none⟩) (by simp)).trans (by simp [go_sem])
    have c1 : w1.cell? ⟨w.heap.size, 1, none⟩ = some (.slice none 0 0) := (hb1.cell (p := ⟨w.heap.size, 1, none⟩) (by simp)).trans (by simp [go_sem])
    have d0 : w1.frozen? ⟨w.heap.size, 0, none⟩ = false := (hb1.frozen (p := ⟨w.heap.size, 0, none⟩) (by simp)).trans (by simp [go_sem])
    have d1 : w1.frozen? ⟨w.heap.size, 1, none⟩ = false := (hb1.frozen (p := ⟨w.heap.size, 1, none⟩) (by simp)).trans (by simp [go_sem])
    go_wp2_with fail
    refine bodyPost_ret (v := .tuple #[.agg #[.slice none 0 0, .slice none 0 0], .bool false]) ?_ rfl ⟨rfl, (by repeat' first | with_reducible exact Below.refl _ _ | with_reducible assumption | with_reducible refine below_drewN ?_ _ | with_reducible refine balloc ?_ _ | with_reducible refine Below.drew ?_ | with_reducible refine Below.setCell ?_ (by first | (simp; done) | (simp; omega) | omega) _ | with_reducible refine bstep ?_ (by assumption))⟩
    simp [results, Try.results31, go_sem, *]
  · rw [h1] at A
    simp only [if_true]
    go_enter Try.func31, Try.ntmps31
    go_wp2_with fail
    refine (A.out _ (by repeat' first | with_reducible exact Below.refl _ _ | with_reducible assumption | with_reducible refine below_drewN ?_ _ | with_reducible refine balloc ?_ _ | with_reducible refine Below.drew ?_ | with_reducible refine Below.setCell ?_ (by first | (simp; done) | (simp; omega) | omega) _ | with_reducible refine bstep ?_ (by assumption))).mono ?_
    rintro e w1 ⟨rfl, hb1⟩
    have g0 : w.heap.size < w1.heap.size := by have := hb1.size; simp at this; omega
    have c0 : w1.cell? ⟨w.heap.size, 0, none⟩ = some (.slice none 0 0) := (hb1.cell (p := ⟨w.heap.size, 0, none⟩) (by simp)).trans (by simp [go_sem])
    have c1 : w1.cell? ⟨w.heap.size, 1, none⟩ = some (.slice none 0 0) := (hb1.cell (p := ⟨w.heap.size, 1, none⟩) (by simp)).trans (by simp [go_sem])
    have d0 : w1.frozen? ⟨w.heap.size, 0, none⟩ = false := (hb1.frozen (p := ⟨w.heap.size, 0, none⟩) (by simp)).trans (by simp [go_sem])
    have d1 : w1.frozen? ⟨w.heap.size, 1, none⟩ = false := (hb1.frozen (p := ⟨w.heap.size, 1, none⟩) (by simp)).trans (by simp [go_sem])
    go_wp2_with fail
    refine bodyPost_ret (v := .tuple #[.agg #[.slice a n cap, .slice a' n' cap'], .bool true]) ?_ rfl ⟨rfl, (by repeat' first | with_reducible exact Below.refl _ _ | with_reducible assumption | with_reducible refine below_drewN ?_ _ | with_reducible refine balloc ?_ _ | with_reducible refine Below.drew ?_ | with_reducible refine Below.setCell ?_ (by first | (simp; done) | (simp; omega) | omega) _ | with_reducible refine bstep ?_ (by assumption))⟩
    simp [results, Try.results31, go_sem, *]

set_option maxHeartbeats 1600000 in
theorem squares_least (b off n cap b' off' cap' : Nat) (f g : Nat → Int) (xs : List Int) (w : World) (h8 : n ≤ 8) (hb : b < w.heap.size) (hb' : b' < w.heap.size)
    (hr : ∀ i, i < n → rightB (f i) (g i) = true) (hx : ∀ i, i < n → compB (nth xs i) = true)
    (hc : ∀ i, i < n → w.cell? ⟨b, off + i * 2, none⟩ = some (.int .i64 (f i)) ∧ w.cell? ⟨b, off + i * 2 + 1, none⟩ = some (.int .i64 (g i)))
    (hc' : ∀ i, i < n → w.cell? ⟨b', off' + i, none⟩ = some (.int .i64 (nth xs i))) :
    Calls Try.prog 32 #[.int .i64 (n : Int), .func (.func 33) #[.agg #[.slice (some ⟨b, off, none⟩) n cap, .slice (some ⟨b', off', none⟩) n cap']] #[]] w fun e w' => e = .returned (.int .i64 (leastN n f g xs)) ∧ Below w.heap.size w w' := by
  have SB := hide (sumSq_bounds (fun i => leastV (f i) (g i) (nth xs i)) n (fun i hi => least_bounds (hr i hi) (hx i hi)))
  have HM := hide (fun (k : Nat) (hk : k < n) (w1 : World) (hB : Below w.heap.size w w1) => least_any b off n cap b' off' cap' k (f k) (g k) (nth xs k) w1 hk h8 (Nat.lt_of_lt_of_le hb hB.size) (Nat.lt_of_lt_of_le hb' hB.size) (hr k hk) (hx k hk)
    ((hB.cell (p := ⟨b, off + k * 2, none⟩) hb).trans (hc k hk).1) ((hB.cell (p := ⟨b, off + k * 2 + 1, none⟩) hb).trans (hc k hk).2) ((hB.cell (p := ⟨b', off' + k, none⟩) hb').trans (hc' k hk)))
  have HD := hide (fun (k : Nat) (hk : k < n) => least_bounds (hr k hk) (hx k hk))
  clear hc hc' hr hx
  go_enter Try.func32, Try.ntmps32
  go_wp2_with fail
  go_loopw [5, 9] (fun s i wr => ∃ k : Nat, k ≤ n ∧ i = .int .i64 k ∧ s = .int .i64 (sumSq (fun i => leastV (f i) (g i) (nth xs i)) k) ∧ Below w.heap.size w wr) (fun _ i _ => n - (intOf i).toNat)
  case atStart => exact ⟨0, Nat.zero_le _, rfl, rfl, (by repeat' first | with_reducible exact Below.refl _ _ | with_reducible assumption | with_reducible refine below_drewN ?_ _ | with_reducible refine balloc ?_ _ | with_reducible refine Below.drew ?_ | with_reducible refine Below.setCell ?_ (by first | (simp; done) | (simp; omega) | omega) _ | with_reducible refine bstep ?_ (by assumption))⟩
  case round =>
    obtain ⟨k, hk, rfl, rfl, hbel⟩ := hrel
    by_cases hlt : k < n
    · have b1 := SB.out k hk
      have b2 := sq_bounds (HD.out k hlt).1 (HD.out k hlt).2
      have b3 : ((k : Nat) : Int) * 17592186044416 ≤ 8 * 17592186044416 := by omega
      have hs : sumSq (fun i => leastV (f i) (g i) (nth xs i)) (k + 1) = sumSq (fun i => leastV (f i) (g i) (nth xs i)) k + leastV (f k) (g k) (nth xs k) * leastV (f k) (g k) (nth xs k) := rfl
      have HM' := hide (HM.out k hlt wr hbel)
      have HB := hide hbel
      generalize sumSq (fun i => leastV (f i) (g i) (nth xs i)) k = s0 at b1 hs ⊢
      generalize leastV (f k) (g k) (nth xs k) = d at b2 HM' hs
      clear hbel
      go_wp2_with fail
      refine HM'.out.mono ?_
      rintro e wn ⟨rfl, hbn⟩
      go_wp2_with fail
      go_roundw
      case rel =>
        have hbel := HB.out
        exact ⟨k + 1, by omega, by go_num, by rw [hs], (by repeat' first | with_reducible exact Below.refl _ _ | with_reducible assumption | with_reducible refine below_drewN ?_ _ | with_reducible refine balloc ?_ _ | with_reducible refine Below.drew ?_ | with_reducible refine Below.setCell ?_ (by first | (simp; done) | (simp; omega) | omega) _ | with_reducible refine bstep ?_ (by assumption))⟩
      case measure => simp [intOf]; omega
    · obtain rfl : k = n := by omega
      have HB := hide hbel
      clear hbel
      go_wp2_with fail
      go_ret
      exact ⟨rfl, HB.out⟩

set_option maxHeartbeats 800000 in
theorem iLowOf_any (a a' : Option Addr) (n cap n' cap' : Nat) (f g : Nat → Int) (xs : List Int) (w : World) (h : PRow w a n f g) (h' : Row w a' n' xs) (hn' : n' ≤ 1048576) :
    Calls Try.prog 19 #[.slice a n cap, .slice a' n' cap'] w fun e w' => e = .returned (.int .i64 (if formB n f g n' xs then leastN n f g xs else -1)) ∧ Below w.heap.size w w' := by
  have SG := hide (sightOf_any a a' n cap n' cap' f g xs w h h' hn')
  cases hF : formB n f g n' xs
  · rw [hF] at SG
    simp only [Bool.false_eq_true, if_false] at SG ⊢
    clear h h'
    go_enter Try.func19, Try.ntmps19
    go_wp2_with fail
    refine SG.out.mono ?_
    rintro e w1 ⟨rfl, hb1⟩
    go_wp2_with fail
    go_ret
    exact ⟨rfl, (by repeat' first | with_reducible exact Below.refl _ _ | with_reducible assumption | with_reducible refine below_drewN ?_ _ | with_reducible refine balloc ?_ _ | with_reducible refine Below.drew ?_ | with_reducible refine Below.setCell ?_ (by first | (simp; done) | (simp; omega) | omega) _ | with_reducible refine bstep ?_ (by assumption))⟩
  · rw [hF] at SG
    simp only [if_true] at SG ⊢
    simp only [formB, Bool.and_eq_true, decide_eq_true_eq] at hF
    obtain ⟨⟨h1, h2⟩, rfl⟩ := hF
    have hn := boxB_num' h1
    rcases h.lies with q | ⟨b, off, rfl, lt, hc⟩
    · omega
    · rcases h'.lies with q | ⟨b', off', rfl, lt', hc'⟩
      · omega
      · have hl := h'.len
        have SQ := hide (fun (w1 : World) (hB : Below w.heap.size w w1) => squares_least b off n cap b' off' cap' f g xs w1 hn.2 (Nat.lt_of_lt_of_le lt hB.size) (Nat.lt_of_lt_of_le lt' hB.size) (fun i hi => boxB_at' h1 hi) (fun i hi => vecOkB_at h2 (by omega))
          (fun i hi => ⟨(hB.cell (p := ⟨b, off + i * 2, none⟩) lt).trans (hc i hi).1, (hB.cell (p := ⟨b, off + i * 2 + 1, none⟩) lt).trans (hc i hi).2⟩) (fun i hi => (hB.cell (p := ⟨b', off' + i, none⟩) lt').trans (hc' i hi)))
        generalize leastN n f g xs = v at SQ ⊢
        clear h h' hc hc' h1 h2
        go_enter Try.func19, Try.ntmps19
        go_wp2_with fail
        refine SG.out.mono ?_
        rintro e w1 ⟨rfl, hb1⟩
        go_wp2_with fail
        refine (SQ.out _ (by repeat' first | with_reducible exact Below.refl _ _ | with_reducible assumption | with_reducible refine below_drewN ?_ _ | with_reducible refine balloc ?_ _ | with_reducible refine Below.drew ?_ | with_reducible refine Below.setCell ?_ (by first | (simp; done) | (simp; omega) | omega) _ | with_reducible refine bstep ?_ (by assumption))).mono ?_
        rintro e w2 ⟨rfl, hb2⟩
        go_wp2_with fail
        go_ret
        exact ⟨rfl, (by repeat' first | with_reducible exact Below.refl _ _ | with_reducible assumption | with_reducible refine below_drewN ?_ _ | with_reducible refine balloc ?_ _ | with_reducible refine Below.drew ?_ | with_reducible refine Below.setCell ?_ (by first | (simp; done) | (simp; omega) | omega) _ | with_reducible refine bstep ?_ (by assumption))⟩





set_option maxHeartbeats 800000 in
theorem iBoxHas_raw (a a' : Option Addr) (n cap n' cap' : Nat) (f g : Nat → Int) (xs : List Int) (w : World) (h : PRow w a n f g) (h' : Row w a' n' xs) (hn' : n' ≤ 1048576) :
    Calls Try.prog 6 #[.slice a n cap, .slice a' n' cap'] w fun e w' => e = .returned (.bool ((if formB n f g n' xs then leastN n f g xs else -1) == 0)) ∧ Below w.heap.size w w' := by
  have LO := hide (iLowOf_any a a' n cap n' cap' f g xs w h h' hn')
  generalize (if formB n f g n' xs then leastN n f g xs else -1) = v at LO ⊢
  clear h h'
  go_enter Try.func6, Try.ntmps6
  go_wp2_with fail
  refine LO.out.mono ?_
  rintro e w1 ⟨rfl, hb1⟩
  go_wp2_with fail
  go_ret
  exact ⟨rfl, (by repeat' first | with_reducible exact Below.refl _ _ | with_reducible assumption | with_reducible refine below_drewN ?_ _ | with_reducible refine balloc ?_ _ | with_reducible refine Below.drew ?_ | with_reducible refine Below.setCell ?_ (by first | (simp; done) | (simp; omega) | omega) _ | with_reducible refine bstep ?_ (by assumption))⟩
end Go.Proofs.Ytkjkdafbfcfhfaa
