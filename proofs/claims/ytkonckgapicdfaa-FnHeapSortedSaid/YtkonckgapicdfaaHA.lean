/- Contracts of Nears: idOk, less, NearOk, NearLess of the program and of the model; toNear, eqNear of the laws. -/
import Derived.Test.YtkonckgapicdfaaIDK
namespace Go.Proofs.Ytkonckgapicdfaa
open Go.RowKit
set_option maxRecDepth 8000
set_option linter.unusedSimpArgs false

def nearB (i d : Int) : Bool := inB i 1 9999 && inB d 0 1125899906842624
def lessB (ai ad bi bd : Int) : Bool := decide (ad < bd ∨ ad = bd ∧ ai < bi)
def nlessB (ai ad bi bd : Int) : Bool := nearB ai ad && nearB bi bd && lessB ai ad bi bd

set_option maxHeartbeats 800000 in
theorem iNearOk_any (i d : Int) (w : World) :
    Calls Try.prog 19 #[.agg #[.int .i64 i, .int .i64 d]] w fun e w' => e = .returned (.bool (nearB i d)) ∧ Below w.heap.size w w' := by
  unfold nearB
  cases h0 : inB i 1 9999 <;> by_cases h1 : 0 ≤ d <;> by_cases h2 : d ≤ 1125899906842624
  all_goals try (exfalso; omega)
  all_goals
    rw [show inB d 0 1125899906842624 = decide (0 ≤ d ∧ d ≤ 1125899906842624) from rfl]
    simp only [h1, h2, and_true, and_false, decide_true, decide_false, Bool.and_true, Bool.and_false, Bool.true_and, Bool.false_and]
    go_enter Try.func19, Try.ntmps19
    go_wp2_with (go_at_call 26; refine (idOk_any _ _).mono ?_; rintro e w' ⟨rfl, rfl⟩)
    go_ret
    exact ⟨by first | rfl | (simp [h2]; done), (by repeat' first | with_reducible exact Below.refl _ _ | with_reducible assumption | with_reducible refine below_drewN ?_ _ | with_reducible refine balloc ?_ _ | with_reducible refine Below.drew ?_ | with_reducible refine Below.setCell ?_ (by first | (simp; done) | (simp; omega) | omega) _ | with_reducible refine bstep ?_ (by assumption))⟩

set_option maxHeartbeats 800000 in
theorem sNearOk_any (i d : Int) (w : World) :
    Calls Try.prog 17 #[.agg #[.int .i64 i, .int .i64 d]] w fun e w' => e = .returned (.bool (nearB i d)) ∧ Below w.heap.size w w' := by
  unfold nearB
  cases h0 : inB i 1 9999
  all_goals
    simp only [Bool.and_true, Bool.and_false, Bool.true_and, Bool.false_and]
    go_enter Try.func17, Try.ntmps17
    go_wp2_with (first | (go_at_call 25; refine (l6Id_any _ _).mono ?_; rintro e w' ⟨rfl, rfl⟩) | (go_at_call 16; refine (l1In_any _ _ _ _).mono ?_; rintro e w' ⟨rfl, rfl⟩))
    go_ret
    exact ⟨rfl, (by repeat' first | with_reducible exact Below.refl _ _ | with_reducible assumption | with_reducible refine below_drewN ?_ _ | with_reducible refine balloc ?_ _ | with_reducible refine Below.drew ?_ | with_reducible refine Below.setCell ?_ (by first | (simp; done) | (simp; omega) | omega) _ | with_reducible refine bstep ?_ (by assumption))⟩

set_option maxHeartbeats 800000 in
theorem less_any (ai ad bi bd : Int) (w : World) :
    Calls Try.prog 20 #[.agg #[.int .i64 ai, .int .i64 ad], .agg #[.int .i64 bi, .int .i64 bd]] w fun e w' => e = .returned (.bool (lessB ai ad bi bd)) ∧ Below w.heap.size w w' := by
  unfold lessB
  by_cases h0 : ad = bd
  · subst h0
    have g0 : (ad != ad) = false := by simp
    by_cases h1 : ai < bi
    all_goals
      simp only [h1, Int.lt_irrefl, and_true, and_false, or_false, false_or, decide_true, decide_false]
      go_enter Try.func20, Try.ntmps20
      go_wp2
      go_ret
      exact ⟨by first | rfl | (simp [h1]; done), (by repeat' first | with_reducible exact Below.refl _ _ | with_reducible assumption | with_reducible refine below_drewN ?_ _ | with_reducible refine balloc ?_ _ | with_reducible refine Below.drew ?_ | with_reducible refine Below.setCell ?_ (by first | (simp; done) | (simp; omega) | omega) _ | with_reducible refine bstep ?_ (by assumption))⟩
  · have g0 : (ad != bd) = true := by simp [h0]
    by_cases h1 : ad < bd
    all_goals
      simp only [h1, h0, false_and, or_false, true_or, decide_true, decide_false]
      go_enter Try.func20, Try.ntmps20
      go_wp2
      go_ret
      exact ⟨by first | rfl | (simp [h1]; done), (by repeat' first | with_reducible exact Below.refl _ _ | with_reducible assumption | with_reducible refine below_drewN ?_ _ | with_reducible refine balloc ?_ _ | with_reducible refine Below.drew ?_ | with_reducible refine Below.setCell ?_ (by first | (simp; done) | (simp; omega) | omega) _ | with_reducible refine bstep ?_ (by assumption))⟩

set_option maxHeartbeats 800000 in
theorem l6Less_any (ai ad bi bd : Int) (w : World) :
    Calls Try.prog 18 #[.agg #[.int .i64 ai, .int .i64 ad], .agg #[.int .i64 bi, .int .i64 bd]] w fun e w' => e = .returned (.bool (lessB ai ad bi bd)) ∧ Below w.heap.size w w' := by
  unfold lessB
  by_cases h1 : ad < bd
  · simp only [h1, true_or, decide_true]
    go_enter Try.func18, Try.ntmps18
    go_wp2
    go_ret
    exact ⟨rfl, (by repeat' first | with_reducible exact Below.refl _ _ | with_reducible assumption | with_reducible refine below_drewN ?_ _ | with_reducible refine balloc ?_ _ | with_reducible refine Below.drew ?_ | with_reducible refine Below.setCell ?_ (by first | (simp; done) | (simp; omega) | omega) _ | with_reducible refine bstep ?_ (by assumption))⟩
  · by_cases h0 : ad = bd
    · subst h0
      have g0 : (ad == ad) = true := by simp
      by_cases h2 : ai < bi
      all_goals
        simp only [h1, h2, and_true, and_false, or_false, false_or, decide_true, decide_false]
        go_enter Try.func18, Try.ntmps18
        go_wp2
        go_ret
        exact ⟨by first | rfl | (simp [h2]; done), (by repeat' first | with_reducible exact Below.refl _ _ | with_reducible assumption | with_reducible refine below_drewN ?_ _ | with_reducible refine balloc ?_ _ | with_reducible refine Below.drew ?_ | with_reducible refine Below.setCell ?_ (by first | (simp; done) | (simp; omega) | omega) _ | with_reducible refine bstep ?_ (by assumption))⟩
    · have g0 : (ad == bd) = false := by simp [h0]
      simp only [h1, h0, false_and, or_false, decide_false]
      go_enter Try.func18, Try.ntmps18
      go_wp2
      go_ret
      exact ⟨rfl, (by repeat' first | with_reducible exact Below.refl _ _ | with_reducible assumption | with_reducible refine below_drewN ?_ _ | with_reducible refine balloc ?_ _ | with_reducible refine Below.drew ?_ | with_reducible refine Below.setCell ?_ (by first | (simp; done) | (simp; omega) | omega) _ | with_reducible refine bstep ?_ (by assumption))⟩

set_option maxHeartbeats 800000 in
theorem iNearLess_any (ai ad bi bd : Int) (w : World) :
    Calls Try.prog 10 #[.agg #[.int .i64 ai, .int .i64 ad], .agg #[.int .i64 bi, .int .i64 bd]] w fun e w' => e = .returned (.bool (nlessB ai ad bi bd)) ∧ Below w.heap.size w w' := by
  unfold nlessB
  cases h1 : nearB ai ad <;> cases h2 : nearB bi bd
  all_goals
    simp only [Bool.and_true, Bool.and_false, Bool.true_and, Bool.false_and]
    go_enter Try.func10, Try.ntmps10
    go_wp2_with (first | (go_at_call 19; refine (iNearOk_any _ _ _).mono ?_; rintro e wn ⟨rfl, hb⟩; have hz := hb.size; (try simp at hz); have g0 : w.heap.size < wn.heap.size := (by omega); have c00 : wn.cell? ⟨w.heap.size, 0, none⟩ = some (.int .i64 (ai)) := (hb.cell (p := ⟨w.heap.size, 0, none⟩) (by first | assumption | (simp; done) | (simp; omega) | (show _ < _; omega))).trans (by first | assumption | (simp [go_sem]; done) | (rw [World.cell?_alloc_past _ _ _ (by first | assumption | omega)]; first | assumption | (simp [go_sem]; done)) | (simp [go_sem, *]; done)); have c01 : wn.cell? ⟨w.heap.size, 1, none⟩ = some (.int .i64 (ad)) := (hb.cell (p := ⟨w.heap.size, 1, none⟩) (by first | assumption | (simp; done) | (simp; omega) | (show _ < _; omega))).trans (by first | assumption | (simp [go_sem]; done) | (rw [World.cell?_alloc_past _ _ _ (by first | assumption | omega)]; first | assumption | (simp [go_sem]; done)) | (simp [go_sem, *]; done)); have g1 : w.heap.size + 1 < wn.heap.size := (by omega); have c10 : wn.cell? ⟨w.heap.size + 1, 0, none⟩ = some (.int .i64 (bi)) := (hb.cell (p := ⟨w.heap.size + 1, 0, none⟩) (by first | assumption | (simp; done) | (simp; omega) | (show _ < _; omega))).trans (by first | assumption | (simp [go_sem]; done) | (rw [World.cell?_alloc_past _ _ _ (by first | assumption | omega)]; first | assumption | (simp [go_sem]; done)) | (simp [go_sem, *]; done)); have c11 : wn.cell? ⟨w.heap.size + 1, 1, none⟩ = some (.int .i64 (bd)) := (hb.cell (p := ⟨w.heap.size + 1, 1, none⟩) (by first | assumption | (simp; done) | (simp; omega) | (show _ < _; omega))).trans (by first | assumption | (simp [go_sem]; done) | (rw [World.cell?_alloc_past _ _ _ (by first | assumption | omega)]; first | assumption | (simp [go_sem]; done)) | (simp [go_sem, *]; done))) | (go_at_call 20; refine (less_any _ _ _ _ _).mono ?_; rintro e wn ⟨rfl, hb⟩; have hz := hb.size; (try simp at hz); have g0 : w.heap.size < wn.heap.size := (by omega); have c00 : wn.cell? ⟨w.heap.size, 0, none⟩ = some (.int .i64 (ai)) := (hb.cell (p := ⟨w.heap.size, 0, none⟩) (by first | assumption | (simp; done) | (simp; omega) | (show _ < _; omega))).trans (by first | assumption | (simp [go_sem]; done) | (rw [World.cell?_alloc_past _ _ _ (by first | assumption | omega)]; first | assumption | (simp [go_sem]; done)) | (simp [go_sem, *]; done)); have c01 : wn.cell? ⟨w.heap.size, 1, none⟩ = some (.int .i64 (ad)) := (hb.cell (p := ⟨w.heap.size, 1, none⟩) (by first | assumption | (simp; done) | (simp; omega) | (show _ < _; omega))).trans (by first | assumption | (simp [go_sem]; done) | (rw [World.cell?_alloc_past _ _ _ (by first | assumption | omega)]; first | assumption | (simp [go_sem]; done)) | (simp [go_sem, *]; done)); have g1 : w.heap.size + 1 < wn.heap.size := (by omega); have c10 : wn.cell? ⟨w.heap.size + 1, 0, none⟩ = some (.int .i64 (bi)) := (hb.cell (p := ⟨w.heap.size + 1, 0, none⟩) (by first | assumption | (simp; done) | (simp; omega) | (show _ < _; omega))).trans (by first | assumption | (simp [go_sem]; done) | (rw [World.cell?_alloc_past _ _ _ (by first | assumption | omega)]; first | assumption | (simp [go_sem]; done)) | (simp [go_sem, *]; done)); have c11 : wn.cell? ⟨w.heap.size + 1, 1, none⟩ = some (.int .i64 (bd)) := (hb.cell (p := ⟨w.heap.size + 1, 1, none⟩) (by first | assumption | (simp; done) | (simp; omega) | (show _ < _; omega))).trans (by first | assumption | (simp [go_sem]; done) | (rw [World.cell?_alloc_past _ _ _ (by first | assumption | omega)]; first | assumption | (simp [go_sem]; done)) | (simp [go_sem, *]; done))))
    go_ret
    exact ⟨rfl, (by repeat' first | with_reducible exact Below.refl _ _ | with_reducible assumption | with_reducible refine below_drewN ?_ _ | with_reducible refine balloc ?_ _ | with_reducible refine Below.drew ?_ | with_reducible refine Below.setCell ?_ (by first | (simp; done) | (simp; omega) | omega) _ | with_reducible refine bstep ?_ (by assumption))⟩







end Go.Proofs.Ytkonckgapicdfaa
