/- Contracts of ranges: whatever the numbers, each function answers as the plain function beside it, and nothing that was there turns. -/
import Derived.Test.YtpbehhanccodeaaWN
namespace Go.Proofs.Ytpbehhanccodeaa
open Go.RowKit
set_option maxRecDepth 8000
set_option linter.unusedSimpArgs false

def rightB (lo hi : Int) : Bool := compB lo && compB hi && decide (lo ≤ hi)
def hasB (lo hi x : Int) : Bool := rightB lo hi && inB x lo hi
def leqB (al ah bl bh : Int) : Bool := rightB al ah && rightB bl bh && decide (bl ≤ al) && decide (ah ≤ bh)

set_option maxHeartbeats 400000 in
theorem right_any (lo hi : Int) (w : World) :
    Calls Try.prog 22 #[.agg #[.int .i64 lo, .int .i64 hi]] w fun e w' => e = .returned (.bool (rightB lo hi)) ∧ Below w.heap.size w w' := by
  cases h1 : compB lo <;> cases h2 : compB hi <;> by_cases h3 : lo ≤ hi
  all_goals
    simp only [rightB, h1, h2, h3, decide_true, decide_false, Bool.and_true, Bool.and_false, Bool.true_and, Bool.false_and]
    go_enter Try.func22, Try.ntmps22
    go_wp2_with (go_at_call 34; refine (compOk_any _ _).mono ?_; rintro e w' ⟨rfl, rfl⟩)
    go_ret
    exact ⟨by first | rfl | (simp [h3]; done), (by repeat' first | with_reducible exact Below.refl _ _ | with_reducible assumption | with_reducible refine below_drewN ?_ _ | with_reducible refine balloc ?_ _ | with_reducible refine Below.drew ?_ | with_reducible refine Below.setCell ?_ (by first | (simp; done) | (simp; omega) | omega) _ | with_reducible refine bstep ?_ (by assumption))⟩





set_option maxHeartbeats 400000 in
theorem spans_any (lo hi x : Int) (w : World) :
    Calls Try.prog 23 #[.agg #[.int .i64 lo, .int .i64 hi], .int .i64 x] w fun e w' => e = .returned (.bool (inB x lo hi)) ∧ Below w.heap.size w w' := by
  by_cases h1 : lo ≤ x <;> by_cases h2 : x ≤ hi
  all_goals
    simp only [inB, h1, h2, and_true, and_false, decide_true, decide_false]
    go_enter Try.func23, Try.ntmps23
    go_wp2
    go_ret
    exact ⟨rfl, (by repeat' first | with_reducible exact Below.refl _ _ | with_reducible assumption | with_reducible refine below_drewN ?_ _ | with_reducible refine balloc ?_ _ | with_reducible refine Below.drew ?_ | with_reducible refine Below.setCell ?_ (by first | (simp; done) | (simp; omega) | omega) _ | with_reducible refine bstep ?_ (by assumption))⟩

set_option maxHeartbeats 400000 in
theorem iRangeHas_any (lo hi x : Int) (w : World) :
    Calls Try.prog 10 #[.agg #[.int .i64 lo, .int .i64 hi], .int .i64 x] w fun e w' => e = .returned (.bool (hasB lo hi x)) ∧ Below w.heap.size w w' := by
  cases h1 : rightB lo hi
  all_goals
    simp only [hasB, h1, Bool.and_true, Bool.and_false, Bool.true_and, Bool.false_and]
    go_enter Try.func10, Try.ntmps10
    go_wp2_with (first | (go_at_call 22; refine (right_any _ _ _).mono ?_; rintro e wn ⟨rfl, hb⟩; have hz := hb.size; (try simp at hz); have g0 : w.heap.size < wn.heap.size := (by omega); have c00 : wn.cell? ⟨w.heap.size, 0, none⟩ = some (.int .i64 (lo)) := (hb.cell (p := ⟨w.heap.size, 0, none⟩) (by first | assumption | (simp; done) | (simp; omega) | (show _ < _; omega))).trans (by first | assumption | (simp [go_sem]; done) | (rw [World.cell?_alloc_past _ _ _ (by first | assumption | omega)]; first | assumption | (simp [go_sem]; done)) | (simp [go_sem, *]; done)); have c01 : wn.cell? ⟨w.heap.size, 1, none⟩ = some (.int .i64 (hi)) := (hb.cell (p := ⟨w.heap.size, 1, none⟩) (by first | assumption | (simp; done) | (simp; omega) | (show _ < _; omega))).trans (by first | assumption | (simp [go_sem]; done) | (rw [World.cell?_alloc_past _ _ _ (by first | assumption | omega)]; first | assumption | (simp [go_sem]; done)) | (simp [go_sem, *]; done))) | (go_at_call 23; refine (spans_any _ _ _ _).mono ?_; rintro e wn ⟨rfl, hb⟩; have hz := hb.size; (try simp at hz); have g0 : w.heap.size < wn.heap.size := (by omega); have c00 : wn.cell? ⟨w.heap.size, 0, none⟩ = some (.int .i64 (lo)) := (hb.cell (p := ⟨w.heap.size, 0, none⟩) (by first | assumption | (simp; done) | (simp; omega) | (show _ < _; omega))).trans (by first | assumption | (simp [go_sem]; done) | (rw [World.cell?_alloc_past _ _ _ (by first | assumption | omega)]; first | assumption | (simp [go_sem]; done)) | (simp [go_sem, *]; done)); have c01 : wn.cell? ⟨w.heap.size, 1, none⟩ = some (.int .i64 (hi)) := (hb.cell (p := ⟨w.heap.size, 1, none⟩) (by first | assumption | (simp; done) | (simp; omega) | (show _ < _; omega))).trans (by first | assumption | (simp [go_sem]; done) | (rw [World.cell?_alloc_past _ _ _ (by first | assumption | omega)]; first | assumption | (simp [go_sem]; done)) | (simp [go_sem, *]; done))))
    go_ret
    exact ⟨rfl, (by repeat' first | with_reducible exact Below.refl _ _ | with_reducible assumption | with_reducible refine below_drewN ?_ _ | with_reducible refine balloc ?_ _ | with_reducible refine Below.drew ?_ | with_reducible refine Below.setCell ?_ (by first | (simp; done) | (simp; omega) | omega) _ | with_reducible refine bstep ?_ (by assumption))⟩

end Go.Proofs.Ytpbehhanccodeaa