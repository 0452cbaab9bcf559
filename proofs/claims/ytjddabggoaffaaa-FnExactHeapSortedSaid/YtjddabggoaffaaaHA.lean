/- Contracts of Nears: idOk, less, NearOk, NearLess of the program and of the model; toNear, eqNear of the laws. -/
import Derived.Test.YtjddabggoaffaaaIDK
namespace Go.Proofs.Ytjddabggoaffaaa
open Go.RowKit
set_option linter.unusedSimpArgs false

def nearB (i d : Int) : Bool := inB i 1 9999 && inB d 0 1125899906842624
def lessB (ai ad bi bd : Int) : Bool := decide (ad < bd ∨ ad = bd ∧ ai < bi)
def nlessB (ai ad bi bd : Int) : Bool := nearB ai ad && nearB bi bd && lessB ai ad bi bd

set_option maxHeartbeats 800000 in
theorem iNearOk_any (i d : Int) (w : World) :
    Calls Try.prog 26 #[.agg #[.int .i64 i, .int .i64 d]] w fun e w' => e = .returned (.bool (nearB i d)) ∧ Below w.heap.size w w' := by
  unfold nearB
  cases h0 : inB i 1 9999 <;> by_cases h1 : 0 ≤ d <;> by_cases h2 : d ≤ 1125899906842624
  all_goals try (exfalso; omega)
  all_goals
    rw [show inB d 0 1125899906842624 = decide (0 ≤ d ∧ d ≤ 1125899906842624) from rfl]
    simp only [h1, h2, and_true, and_false, decide_true, decide_false, Bool.and_true, Bool.and_false, Bool.true_and, Bool.false_and]
    go_enter Try.func26, Try.ntmps26
    go_wp2_with (go_at_call 36; refine (idOk_any _ _).mono ?_; rintro e w' ⟨rfl, rfl⟩)
    go_ret
    exact ⟨by first | rfl | (simp [h2]; done), (by repeat' first | with_reducible exact Below.refl _ _ | with_reducible assumption | with_reducible refine below_drewN ?_ _ | with_reducible refine balloc ?_ _ | with_reducible refine Below.drew ?_ | with_reducible refine Below.setCell ?_ (by first | (simp; done) | (simp; omega) | omega) _ | with_reducible refine bstep ?_ (by assumption))⟩

set_option maxHeartbeats 800000 in
theorem sNearOk_any (i d : Int) (w : World) :
    Calls Try.prog 20 #[.agg #[.int .i64 i, .int .i64 d]] w fun e w' => e = .returned (.bool (nearB i d)) ∧ Below w.heap.size w w' := by
  unfold nearB
  cases h0 : inB i 1 9999
  all_goals
    simp only [Bool.and_true, Bool.and_false, Bool.true_and, Bool.false_and]
    go_enter Try.func20, Try.ntmps20
    go_wp2_with (first | (go_at_call 33; refine (l6Id_any _ _).mono ?_; rintro e w' ⟨rfl, rfl⟩) | (go_at_call 32; refine (l1In_any _ _ _ _).mono ?_; rintro e w' ⟨rfl, rfl⟩))
    go_ret
    exact ⟨rfl, (by repeat' first | with_reducible exact Below.refl _ _ | with_reducible assumption | with_reducible refine below_drewN ?_ _ | with_reducible refine balloc ?_ _ | with_reducible refine Below.drew ?_ | with_reducible refine Below.setCell ?_ (by first | (simp; done) | (simp; omega) | omega) _ | with_reducible refine bstep ?_ (by assumption))⟩

set_option maxHeartbeats 800000 in
theorem less_any (ai ad bi bd : Int) (w : World) :
    Calls Try.prog 35 #[.agg #[.int .i64 ai, .int .i64 ad], .agg #[.int .i64 bi, .int .i64 bd]] w fun e w' => e = .returned (.bool (lessB ai ad bi bd)) ∧ Below w.heap.size w w' := by
  unfold lessB
  by_cases h0 : ad = bd
  · subst h0
    have g0 : (ad != ad) = false := by simp
    by_cases h1 : ai < bi
    all_goals
      simp only [h1, Int.lt_irrefl, and_true, and_false, or_false, false_or, decide_true, decide_false]
      go_enter Try.func35, Try.ntmps35
      go_wp2
      go_ret
      exact ⟨by first | rfl | (simp [h1]; done), (by repeat' first | with_reducible exact Below.refl _ _ | with_reducible assumption | with_reducible refine below_drewN ?_ _ | with_reducible refine balloc ?_ _ | with_reducible refine Below.drew ?_ | with_reducible refine Below.setCell ?_ (by first | (simp; done) | (simp; omega) | omega) _ | with_reducible refine bstep ?_ (by assumption))⟩
  · have g0 : (ad != bd) = true := by simp [h0]
    by_cases h1 : ad < bd
    all_goals
      simp only [h1, h0, false_and, or_false, true_or, decide_true, decide_false]
      go_enter Try.func35, Try.ntmps35
      go_wp2
      go_ret
      exact ⟨by first | rfl | (simp [h1]; done), (by repeat' first | with_reducible exact Below.refl _ _ | with_reducible assumption | with_reducible refine below_drewN ?_ _ | with_reducible refine balloc ?_ _ | with_reducible refine Below.drew ?_ | with_reducible refine Below.setCell ?_ (by first | (simp; done) | (simp; omega) | omega) _ | with_reducible refine bstep ?_ (by assumption))⟩

set_option maxHeartbeats 800000 in
theorem l6Less_any (ai ad bi bd : Int) (w : World) :
    Calls Try.prog 21 #[.agg #[.int .i64 ai, .int .i64 ad], .agg #[.int .i64 bi, .int .i64 bd]] w fun e w' => e = .returned (.bool (lessB ai ad bi bd)) ∧ Below w.heap.size w w' := by
  unfold lessB
  by_cases h1 : ad < bd
  · simp only [h1, true_or, decide_true]
    go_enter Try.func21, Try.ntmps21
    go_wp2
    go_ret
    exact ⟨rfl, (by repeat' first | with_reducible exact Below.refl _ _ | with_reducible assumption | with_reducible refine below_drewN ?_ _ | with_reducible refine balloc ?_ _ | with_reducible refine Below.drew ?_ | with_reducible refine Below.setCell ?_ (by first | (simp; done) | (simp; omega) | omega) _ | with_reducible refine bstep ?_ (by assumption))⟩
  · by_cases h0 : ad = bd
    · subst h0
      have g0 : (ad == ad) = true := by simp
      by_cases h2 : ai < bi
      all_goals
        simp only [h1, h2, and_true, and_false, or_false, false_or, decide_true, decide_false]
        go_enter Try.func21, Try.ntmps21
        go_wp2
        go_ret
        exact ⟨by first | rfl | (simp [h2]; done), (by repeat' first | with_reducible exact Below.refl _ _ | with_reducible assumption | with_reducible refine below_drewN ?_ _ | with_reducible refine balloc ?_ _ | with_reducible refine Below.drew ?_ | with_reducible refine Below.setCell ?_ (by first | (simp; done) | (simp; omega) | omega) _ | with_reducible refine bstep ?_ (by assumption))⟩
    · have g0 : (ad == bd) = false := by simp [h0]
      simp only [h1, h0, false_and, or_false, decide_false]
      go_enter Try.func21, Try.ntmps21
      go_wp2
      go_ret
      exact ⟨rfl, (by repeat' first | with_reducible exact Below.refl _ _ | with_reducible assumption | with_reducible refine below_drewN ?_ _ | with_reducible refine balloc ?_ _ | with_reducible refine Below.drew ?_ | with_reducible refine Below.setCell ?_ (by first | (simp; done) | (simp; omega) | omega) _ | with_reducible refine bstep ?_ (by assumption))⟩





set_option maxHeartbeats 400000 in
theorem toNear_any (lo hi : Int) (w : World) :
    Calls Try.prog 8 #[.agg #[.int .i64 lo, .int .i64 hi]] w fun e w' => e = .returned (.agg #[.int .i64 lo, .int .i64 hi]) ∧ Below w.heap.size w w' := by
  go_enter Try.func8, Try.ntmps8
  go_wp2
  exact bodyPost_ret (v := .agg #[.int .i64 lo, .int .i64 hi]) (by simp [results, Try.results8, go_sem]) rfl ⟨rfl, (by repeat' first | with_reducible exact Below.refl _ _ | with_reducible assumption | with_reducible refine below_drewN ?_ _ | with_reducible refine balloc ?_ _ | with_reducible refine Below.drew ?_ | with_reducible refine Below.setCell ?_ (by first | (simp; done) | (simp; omega) | omega) _ | with_reducible refine bstep ?_ (by assumption))⟩

set_option maxHeartbeats 400000 in
theorem eqNear_any (al ah bl bh : Int) (w : World) :
    Calls Try.prog 31 #[.agg #[.int .i64 al, .int .i64 ah], .agg #[.int .i64 bl, .int .i64 bh]] w fun e w' => e = .returned (.bool (decide (al = bl) && decide (ah = bh))) ∧ Below w.heap.size w w' := by
  by_cases h1 : al = bl <;> by_cases h2 : ah = bh
  all_goals
    have g1 : (al != bl) = !(decide (al = bl)) := rfl
    have g2 : (ah != bh) = !(decide (ah = bh)) := rfl
    simp only [h1, h2, decide_true, decide_false, Bool.and_true, Bool.and_false, Bool.true_and, Bool.false_and, Bool.not_true, Bool.not_false] at g1 g2 ⊢
    go_enter Try.func31, Try.ntmps31
    go_wp2
    go_ret
    exact ⟨rfl, (by repeat' first | with_reducible exact Below.refl _ _ | with_reducible assumption | with_reducible refine below_drewN ?_ _ | with_reducible refine balloc ?_ _ | with_reducible refine Below.drew ?_ | with_reducible refine Below.setCell ?_ (by first | (simp; done) | (simp; omega) | omega) _ | with_reducible refine bstep ?_ (by assumption))⟩

end Go.Proofs.Ytjddabggoaffaaa
