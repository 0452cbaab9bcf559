/- Contracts of the small number functions: compOk, l1In, l1Comp, and of ranges. -/
import Derived.Test.YtjliecggfncelaaProg
import Derived.WalkKit
import Derived.WalkSpells
import Derived.WalkLawsBesides
import Derived.BigQuiet
import Derived.Deep.QuietTactic
namespace Go.Proofs.Ytjliecggfncelaa
open Go.RowKit
set_option maxRecDepth 8000

def compB (x : Int) : Bool := decide (-1048576 ≤ x ∧ x ≤ 1048576)
def inB (n lo hi : Int) : Bool := decide (lo ≤ n ∧ n ≤ hi)

theorem bcell {W w1 : World} (hb : Below W.heap.size W w1) : (∀ b o, b < W.heap.size → w1.cell? ⟨b, o, none⟩ = W.cell? ⟨b, o, none⟩) ∧ (∀ b o, b < W.heap.size → w1.frozen? ⟨b, o, none⟩ = W.frozen? ⟨b, o, none⟩) :=
  ⟨fun b o h => hb.cell (p := ⟨b, o, none⟩) h, fun b o h => hb.frozen (p := ⟨b, o, none⟩) h⟩

theorem wrapIn (x : Int) (h1 : -9223372036854775808 ≤ x) (h2 : x ≤ 9223372036854775807) : IntKind.i64.wrap x = x := by rw [IntKind.wrap_i64]; omega

theorem hide {p : Prop} (h : p) : Hid p := h

theorem balloc {w a : World} (h : Below w.heap.size w a) (o : Obj) : Below w.heap.size w (a.alloc o) := h.alloc h.size o

theorem bstep {w a b : World} (h : Below w.heap.size w a) (k : Below a.heap.size a b) : Below w.heap.size w b := h.trans (k.mono h.size)

set_option maxHeartbeats 400000 in
theorem compOk_any (x : Int) (w : World) :
    Calls Try.prog 72 #[.int .i64 x] w fun e w' => e = .returned (.bool (compB x)) ∧ w' = w := by
  by_cases h1 : -1048576 ≤ x
  · by_cases h2 : x ≤ 1048576
    · have hb : compB x = true := by simp [compB, h1, h2]
      rw [hb]; clear hb
      go_enter Try.func72, Try.ntmps72
      go_wp2
      go_ret
      exact ⟨rfl, rfl⟩
    · have hb : compB x = false := by simp [compB, h2]
      rw [hb]; clear hb
      go_enter Try.func72, Try.ntmps72
      go_wp2
      go_ret
      exact ⟨rfl, rfl⟩
  · have hb : compB x = false := by simp [compB, h1]
    rw [hb]; clear hb
    go_enter Try.func72, Try.ntmps72
    go_wp2
    go_ret
    exact ⟨rfl, rfl⟩
end Go.Proofs.Ytjliecggfncelaa

/- Contracts of the model's small number functions. -/
namespace Go.Proofs.Ytjliecggfncelaa
open Go.RowKit
set_option maxRecDepth 8000
set_option linter.unusedSimpArgs false

set_option maxHeartbeats 400000 in
theorem l1In_any (n lo hi : Int) (w : World) :
    Calls Try.prog 27 #[.int .i64 n, .int .i64 lo, .int .i64 hi] w fun e w' => e = .returned (.bool (inB n lo hi)) ∧ w' = w := by
  by_cases h1 : lo ≤ n <;> by_cases h2 : n ≤ hi
  all_goals
    simp only [inB, h1, h2, and_true, and_false, decide_true, decide_false]
    go_enter Try.func27, Try.ntmps27
    go_wp2
    go_ret
    exact ⟨rfl, rfl⟩

set_option maxHeartbeats 400000 in
theorem l1Comp_any (n : Int) (w : World) :
    Calls Try.prog 64 #[.int .i64 n] w fun e w' => e = .returned (.bool (compB n)) ∧ w' = w := by
  go_enter Try.func64, Try.ntmps64
  go_wp2_with (go_at_call 27; refine (l1In_any _ _ _ _).mono ?_; rintro e w' ⟨rfl, rfl⟩)
  go_ret
  exact ⟨rfl, rfl⟩

end Go.Proofs.Ytjliecggfncelaa

/- Whether an id is right. -/
namespace Go.Proofs.Ytjliecggfncelaa
open Go.RowKit
set_option maxRecDepth 8000
set_option linter.unusedSimpArgs false

set_option maxHeartbeats 400000 in
theorem idOk_any (n : Int) (w : World) :
    Calls Try.prog 59 #[.int .i64 n] w fun e w' => e = .returned (.bool (inB n 1 9999)) ∧ w' = w := by
  by_cases h1 : 1 ≤ n <;> by_cases h2 : n ≤ 9999
  all_goals
    simp only [inB, h1, h2, and_true, and_false, decide_true, decide_false]
    go_enter Try.func59, Try.ntmps59
    go_wp2
    go_ret
    exact ⟨rfl, rfl⟩

set_option maxHeartbeats 400000 in
theorem l6Id_any (n : Int) (w : World) :
    Calls Try.prog 48 #[.int .i64 n] w fun e w' => e = .returned (.bool (inB n 1 9999)) ∧ w' = w := by
  go_enter Try.func48, Try.ntmps48
  go_wp2_with (go_at_call 27; refine (l1In_any _ _ _ _).mono ?_; rintro e w' ⟨rfl, rfl⟩)
  go_ret
  exact ⟨rfl, rfl⟩
end Go.Proofs.Ytjliecggfncelaa

/- Contracts of Nears: idOk, less, NearOk, NearLess of the program and of the model; toNear, eqNear of the laws. -/
namespace Go.Proofs.Ytjliecggfncelaa
open Go.RowKit
set_option maxRecDepth 8000
set_option linter.unusedSimpArgs false

def nearB (i d : Int) : Bool := inB i 1 9999 && inB d 0 1125899906842624
def lessB (ai ad bi bd : Int) : Bool := decide (ad < bd ∨ ad = bd ∧ ai < bi)
def nlessB (ai ad bi bd : Int) : Bool := nearB ai ad && nearB bi bd && lessB ai ad bi bd

set_option maxHeartbeats 800000 in
theorem iNearOk_any (i d : Int) (w : World) :
    Calls Try.prog 45 #[.agg #[.int .i64 i, .int .i64 d]] w fun e w' => e = .returned (.bool (nearB i d)) ∧ Below w.heap.size w w' := by
  unfold nearB
  cases h0 : inB i 1 9999 <;> by_cases h1 : 0 ≤ d <;> by_cases h2 : d ≤ 1125899906842624
  all_goals try (exfalso; omega)
  all_goals
    rw [show inB d 0 1125899906842624 = decide (0 ≤ d ∧ d ≤ 1125899906842624) from rfl]
    simp only [h1, h2, and_true, and_false, decide_true, decide_false, Bool.and_true, Bool.and_false, Bool.true_and, Bool.false_and]
    go_enter Try.func45, Try.ntmps45
    go_wp2_with (go_at_call 59; refine (idOk_any _ _).mono ?_; rintro e w' ⟨rfl, rfl⟩)
    go_ret
    exact ⟨by first | rfl | (simp [h2]; done), (by repeat' first | with_reducible exact Below.refl _ _ | with_reducible assumption | with_reducible refine below_drewN ?_ _ | with_reducible refine balloc ?_ _ | with_reducible refine Below.drew ?_ | with_reducible refine Below.setCell ?_ (by first | (simp; done) | (simp; omega) | omega) _ | with_reducible refine bstep ?_ (by assumption))⟩

set_option maxHeartbeats 800000 in
theorem sNearOk_any (i d : Int) (w : World) :
    Calls Try.prog 28 #[.agg #[.int .i64 i, .int .i64 d]] w fun e w' => e = .returned (.bool (nearB i d)) ∧ Below w.heap.size w w' := by
  unfold nearB
  cases h0 : inB i 1 9999
  all_goals
    simp only [Bool.and_true, Bool.and_false, Bool.true_and, Bool.false_and]
    go_enter Try.func28, Try.ntmps28
    go_wp2_with (first | (go_at_call 48; refine (l6Id_any _ _).mono ?_; rintro e w' ⟨rfl, rfl⟩) | (go_at_call 27; refine (l1In_any _ _ _ _).mono ?_; rintro e w' ⟨rfl, rfl⟩))
    go_ret
    exact ⟨rfl, (by repeat' first | with_reducible exact Below.refl _ _ | with_reducible assumption | with_reducible refine below_drewN ?_ _ | with_reducible refine balloc ?_ _ | with_reducible refine Below.drew ?_ | with_reducible refine Below.setCell ?_ (by first | (simp; done) | (simp; omega) | omega) _ | with_reducible refine bstep ?_ (by assumption))⟩

set_option maxHeartbeats 800000 in
theorem less_any (ai ad bi bd : Int) (w : World) :
    Calls Try.prog 68 #[.agg #[.int .i64 ai, .int .i64 ad], .agg #[.int .i64 bi, .int .i64 bd]] w fun e w' => e = .returned (.bool (lessB ai ad bi bd)) ∧ Below w.heap.size w w' := by
  unfold lessB
  by_cases h0 : ad = bd
  · subst h0
    have g0 : (ad != ad) = false := by simp
    by_cases h1 : ai < bi
    all_goals
      simp only [h1, Int.lt_irrefl, and_true, and_false, or_false, false_or, decide_true, decide_false]
      go_enter Try.func68, Try.ntmps68
      go_wp2
      go_ret
      exact ⟨by first | rfl | (simp [h1]; done), (by repeat' first | with_reducible exact Below.refl _ _ | with_reducible assumption | with_reducible refine below_drewN ?_ _ | with_reducible refine balloc ?_ _ | with_reducible refine Below.drew ?_ | with_reducible refine Below.setCell ?_ (by first | (simp; done) | (simp; omega) | omega) _ | with_reducible refine bstep ?_ (by assumption))⟩
  · have g0 : (ad != bd) = true := by simp [h0]
    by_cases h1 : ad < bd
    all_goals
      simp only [h1, h0, false_and, or_false, true_or, decide_true, decide_false]
      go_enter Try.func68, Try.ntmps68
      go_wp2
      go_ret
      exact ⟨by first | rfl | (simp [h1]; done), (by repeat' first | with_reducible exact Below.refl _ _ | with_reducible assumption | with_reducible refine below_drewN ?_ _ | with_reducible refine balloc ?_ _ | with_reducible refine Below.drew ?_ | with_reducible refine Below.setCell ?_ (by first | (simp; done) | (simp; omega) | omega) _ | with_reducible refine bstep ?_ (by assumption))⟩

set_option maxHeartbeats 800000 in
theorem l6Less_any (ai ad bi bd : Int) (w : World) :
    Calls Try.prog 49 #[.agg #[.int .i64 ai, .int .i64 ad], .agg #[.int .i64 bi, .int .i64 bd]] w fun e w' => e = .returned (.bool (lessB ai ad bi bd)) ∧ Below w.heap.size w w' := by
  unfold lessB
  by_cases h1 : ad < bd
  · simp only [h1, true_or, decide_true]
    go_enter Try.func49, Try.ntmps49
    go_wp2
    go_ret
    exact ⟨rfl, (by repeat' first | with_reducible exact Below.refl _ _ | with_reducible assumption | with_reducible refine below_drewN ?_ _ | with_reducible refine balloc ?_ _ | with_reducible refine Below.drew ?_ | with_reducible refine Below.setCell ?_ (by first | (simp; done) | (simp; omega) | omega) _ | with_reducible refine bstep ?_ (by assumption))⟩
  · by_cases h0 : ad = bd
    · subst h0
      have g0 : (ad == ad) = true := by simp
      by_cases h2 : ai < bi
      all_goals
        simp only [h1, h2, and_true, and_false, or_false, false_or, decide_true, decide_false]
        go_enter Try.func49, Try.ntmps49
        go_wp2
        go_ret
        exact ⟨by first | rfl | (simp [h2]; done), (by repeat' first | with_reducible exact Below.refl _ _ | with_reducible assumption | with_reducible refine below_drewN ?_ _ | with_reducible refine balloc ?_ _ | with_reducible refine Below.drew ?_ | with_reducible refine Below.setCell ?_ (by first | (simp; done) | (simp; omega) | omega) _ | with_reducible refine bstep ?_ (by assumption))⟩
    · have g0 : (ad == bd) = false := by simp [h0]
      simp only [h1, h0, false_and, or_false, decide_false]
      go_enter Try.func49, Try.ntmps49
      go_wp2
      go_ret
      exact ⟨rfl, (by repeat' first | with_reducible exact Below.refl _ _ | with_reducible assumption | with_reducible refine below_drewN ?_ _ | with_reducible refine balloc ?_ _ | with_reducible refine Below.drew ?_ | with_reducible refine Below.setCell ?_ (by first | (simp; done) | (simp; omega) | omega) _ | with_reducible refine bstep ?_ (by assumption))⟩









end Go.Proofs.Ytjliecggfncelaa
