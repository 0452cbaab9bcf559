/- Cells: where a cell begins, of the program and of the model. -/
import Derived.Test.YtcgeebdhkdfkpaaCB
import Derived.Deep.RegionHeld3
import Derived.Deep.DeepCutAuto
namespace Go.Proofs.Ytcgeebdhkdfkpaa
open Go.RowKit
set_option maxRecDepth 8000
set_option linter.unusedSimpArgs false
set_option linter.unusedVariables false


theorem right_nums {lo hi : Int} (h : rightB lo hi = true) : -1048576 ≤ lo ∧ lo ≤ 1048576 ∧ -1048576 ≤ hi ∧ hi ≤ 1048576 ∧ lo ≤ hi := by
  simp only [rightB, compB, Bool.and_eq_true, decide_eq_true_eq] at h
  omega

set_option maxHeartbeats 800000 in
theorem l3From_any (lo hi t i : Int) (w : World) (hr : rightB lo hi = true) (ht : tierB t = true) (h0 : 0 ≤ i) (h1 : i ≤ 256) :
    Calls Try.prog 39 #[.agg #[.int .i64 lo, .int .i64 hi], .int .i64 t, .int .i64 i] w fun e w' => e = .returned (.int .i64 (fromN lo hi (cellsN t) i)) ∧ Below w.heap.size w w' := by
  obtain ⟨a1, a2, a3, a4, a5⟩ := right_nums hr
  have K := hide (sCellsOf_any t)
  obtain ⟨m0, m1⟩ := mul_bounds (s := hi - lo + 1) (i := i) (by omega) (by omega) h0 h1
  have hN : cellsN t = 2 ∨ cellsN t = 16 ∨ cellsN t = 256 := by rcases tier_cases ht with rfl | rfl | rfl <;> decide
  unfold fromN
  generalize cellsN t = N at K hN ⊢
  have q0 : 0 ≤ (hi - lo + 1) * i / N := by rcases hN with rfl | rfl | rfl <;> omega
  have q1 : (hi - lo + 1) * i / N ≤ 536871168 := by rcases hN with rfl | rfl | rfl <;> omega
  have hNz : ¬ N = 0 := by omega
  clear hr ht
  go_enter Try.func39, Try.ntmps39
  go_upto_region 1 with fail
  go_region_held3 (fun w' => w'.cell? ⟨w.heap.size, 0, none⟩ = some (.int .i64 lo) ∧ w'.cell? ⟨w.heap.size, 1, none⟩ = some (.int .i64 hi)) (refine ⟨?_, ?_⟩ <;> first | assumption | (simp [go_sem]; done) | (go_keep; done)) ((go_at_call 38; refine (K.out _).mono ?_; rintro e wn ⟨rfl, hb⟩; have hz := hb.size; (try simp at hz); have c0 : wn.cell? ⟨w.heap.size, 0, none⟩ = some (.int .i64 lo) := (hb.cell (p := ⟨w.heap.size, 0, none⟩) (by simp)).trans (by simp [go_sem]); have c1 : wn.cell? ⟨w.heap.size, 1, none⟩ = some (.int .i64 hi) := (hb.cell (p := ⟨w.heap.size, 1, none⟩) (by simp)).trans (by simp [go_sem])))
  all_goals
    rw [wrapIn (hi - lo) (by omega) (by omega), wrapIn (hi - lo + 1) (by omega) (by omega), wrapIn ((hi - lo + 1) * i) (by omega) (by omega), Int.tdiv_eq_ediv_of_nonneg m0, wrapIn ((hi - lo + 1) * i / N) (by omega) (by omega), wrapIn (lo + (hi - lo + 1) * i / N) (by omega) (by omega)]
    go_wp2_with fail
    go_ret
    exact ⟨rfl, (by repeat' first | with_reducible exact Below.refl _ _ | with_reducible assumption | with_reducible refine below_drewN ?_ _ | with_reducible refine balloc ?_ _ | with_reducible refine Below.drew ?_ | with_reducible refine Below.setCell ?_ (by first | (simp; done) | (simp; omega) | omega) _ | with_reducible refine bstep ?_ (by assumption))⟩

set_option maxHeartbeats 800000 in
theorem sCodeOf_ok (lo hi t x : Int) (w : World) (hh : hasB lo hi x = true) (ht : tierB t = true) :
    Calls Try.prog 32 #[.agg #[.int .i64 lo, .int .i64 hi], .int .i64 t, .int .i64 x] w fun e w' => e = .returned (.int .i64 (codeN lo hi (cellsN t) x)) ∧ Below w.heap.size w w' := by
  have hr : rightB lo hi = true := by simp only [hasB, Bool.and_eq_true] at hh; exact hh.1
  have hx : lo ≤ x ∧ x ≤ hi := by simp only [hasB, inB, Bool.and_eq_true, decide_eq_true_eq] at hh; exact hh.2
  obtain ⟨a1, a2, a3, a4, a5⟩ := right_nums hr
  have FR := hide (fun i w h0 h1 => l3From_any lo hi t i w hr ht h0 h1)
  have HN := hide (sCellsOf_any t)
  have HT := hide (l3Tier_any t)
  have HH := hide (sRangeHas_any lo hi x)
  rw [ht] at HT
  rw [hh] at HH
  have hN : cellsN t = 2 ∨ cellsN t = 16 ∨ cellsN t = 256 := by rcases tier_cases ht with rfl | rfl | rfl <;> decide
  have F := hide (fun i => from_le lo hi (cellsN t) i x (by omega) a5)
  have c0 := code_nonneg lo hi (cellsN t) x (by omega) hx.1 a5
  have c1 := code_lt lo hi (cellsN t) x (by omega) hx.2 a5
  generalize cellsN t = N at FR HN hN F c0 c1 ⊢
  generalize codeN lo hi N x = c at F c0 c1 ⊢
  clear hr ht hh
  go_enter Try.func32, Try.ntmps32
  go_wp2_with fail
  refine (HH.out _).mono ?_
  rintro e w1 ⟨rfl, hb⟩
  have hz := hb.size
  (try simp at hz)
  have g0 : w.heap.size < w1.heap.size := (by omega)
  have c00 : w1.cell? ⟨w.heap.size, 0, none⟩ = some (.int .i64 (lo)) := (hb.cell (p := ⟨w.heap.size, 0, none⟩) (by first | assumption | (simp; done) | (simp; omega) | (show _ < _; omega))).trans (by first | assumption | (simp [go_sem]; done) | (rw [World.cell?_alloc_past _ _ _ (by first | assumption | omega)]; first | assumption | (simp [go_sem]; done)) | (simp [go_sem, *]; done))
  have c01 : w1.cell? ⟨w.heap.size, 1, none⟩ = some (.int .i64 (hi)) := (hb.cell (p := ⟨w.heap.size, 1, none⟩) (by first | assumption | (simp; done) | (simp; omega) | (show _ < _; omega))).trans (by first | assumption | (simp [go_sem]; done) | (rw [World.cell?_alloc_past _ _ _ (by first | assumption | omega)]; first | assumption | (simp [go_sem]; done)) | (simp [go_sem, *]; done))
  have b_w1 := hb
  clear hb
  go_wp2_with fail
  refine (HT.out _).mono ?_
  rintro e w1 ⟨rfl, rfl⟩
  go_wp2_with fail
  refine (HN.out _).mono ?_
  rintro e w2 ⟨rfl, hb⟩
  have hz := hb.size
  (try simp at hz)
  have g0 : w.heap.size < w2.heap.size := (by omega)
  have c00 : w2.cell? ⟨w.heap.size, 0, none⟩ = some (.int .i64 (lo)) := (hb.cell (p := ⟨w.heap.size, 0, none⟩) (by first | assumption | (simp; done) | (simp; omega) | (show _ < _; omega))).trans (by first | assumption | (simp [go_sem]; done) | (rw [World.cell?_alloc_past _ _ _ (by first | assumption | omega)]; first | assumption | (simp [go_sem]; done)) | (simp [go_sem, *]; done))
  have c01 : w2.cell? ⟨w.heap.size, 1, none⟩ = some (.int .i64 (hi)) := (hb.cell (p := ⟨w.heap.size, 1, none⟩) (by first | assumption | (simp; done) | (simp; omega) | (show _ < _; omega))).trans (by first | assumption | (simp [go_sem]; done) | (rw [World.cell?_alloc_past _ _ _ (by first | assumption | omega)]; first | assumption | (simp [go_sem]; done)) | (simp [go_sem, *]; done))
  have b_w2 := hb
  clear hb
  go_wp2_with fail
  go_loopw [7] (fun i wr => ∃ k : Int, i = .int .i64 k ∧ c ≤ k ∧ k < N ∧ w.heap.size < wr.heap.size ∧ wr.cell? ⟨w.heap.size, 0, none⟩ = some (.int .i64 lo) ∧ wr.cell? ⟨w.heap.size, 1, none⟩ = some (.int .i64 hi) ∧ Below w.heap.size w wr) (fun i _ => (intOf i).toNat)
  case atStart => exact ⟨N - 1, by go_num, by omega, by omega, g0, c00, c01, (by repeat' first | with_reducible exact Below.refl _ _ | with_reducible assumption | with_reducible refine below_drewN ?_ _ | with_reducible refine balloc ?_ _ | with_reducible refine Below.drew ?_ | with_reducible refine Below.setCell ?_ (by first | (simp; done) | (simp; omega) | omega) _ | with_reducible refine bstep ?_ (by assumption))⟩
  case round =>
    obtain ⟨k, rfl, k0, k1, g0, z0, z1, hB⟩ := hrel
    by_cases hlt : c < k
    · have hf : x < fromN lo hi N k := by have := (F.out k); omega
      go_wp2_with fail
      refine (FR.out k _ (by omega) (by omega)).mono ?_
      rintro e wn ⟨rfl, hb⟩
      have q0 : wn.cell? ⟨w.heap.size, 0, none⟩ = some (.int .i64 lo) := (hb.cell (p := ⟨w.heap.size, 0, none⟩) g0).trans z0
      have q1 : wn.cell? ⟨w.heap.size, 1, none⟩ = some (.int .i64 hi) := (hb.cell (p := ⟨w.heap.size, 1, none⟩) g0).trans z1
      have hz := hb.size
      go_wp2_with fail
      go_roundw
      case rel => exact ⟨k - 1, by go_num, by omega, by omega, by omega, q0, q1, (by repeat' first | with_reducible exact Below.refl _ _ | with_reducible assumption | with_reducible refine below_drewN ?_ _ | with_reducible refine balloc ?_ _ | with_reducible refine Below.drew ?_ | with_reducible refine Below.setCell ?_ (by first | (simp; done) | (simp; omega) | omega) _ | with_reducible refine bstep ?_ (by assumption))⟩
      case measure => simp [intOf]; omega
    · obtain rfl : k = c := by omega
      have hf : ¬ x < fromN lo hi N k := by have := (F.out k); omega
      go_wp2_with fail
      refine (FR.out k _ (by omega) (by omega)).mono ?_
      rintro e wn ⟨rfl, hb⟩
      go_wp2_with fail
      go_ret
      exact ⟨rfl, (by repeat' first | with_reducible exact Below.refl _ _ | with_reducible assumption | with_reducible refine below_drewN ?_ _ | with_reducible refine balloc ?_ _ | with_reducible refine Below.drew ?_ | with_reducible refine Below.setCell ?_ (by first | (simp; done) | (simp; omega) | omega) _ | with_reducible refine bstep ?_ (by assumption))⟩

set_option maxHeartbeats 800000 in
theorem sCodeOf_any (lo hi t x : Int) (w : World) :
    Calls Try.prog 32 #[.agg #[.int .i64 lo, .int .i64 hi], .int .i64 t, .int .i64 x] w fun e w' => e = .returned (.int .i64 (codeB lo hi t x)) ∧ Below w.heap.size w w' := by
  unfold codeB
  cases hh : hasB lo hi x
  · simp only [Bool.and_true, Bool.and_false, Bool.true_and, Bool.false_and, if_false]
    have HH := hide (sRangeHas_any lo hi x)
    rw [hh] at HH
    go_enter Try.func32, Try.ntmps32
    go_wp2_with fail
    refine (HH.out _).mono ?_
    rintro e w1 ⟨rfl, hb⟩
    have hz := hb.size
    (try simp at hz)
    have g0 : w.heap.size < w1.heap.size := (by omega)
    have c00 : w1.cell? ⟨w.heap.size, 0, none⟩ = some (.int .i64 (lo)) := (hb.cell (p := ⟨w.heap.size, 0, none⟩) (by first | assumption | (simp; done) | (simp; omega) | (show _ < _; omega))).trans (by first | assumption | (simp [go_sem]; done) | (rw [World.cell?_alloc_past _ _ _ (by first | assumption | omega)]; first | assumption | (simp [go_sem]; done)) | (simp [go_sem, *]; done))
    have c01 : w1.cell? ⟨w.heap.size, 1, none⟩ = some (.int .i64 (hi)) := (hb.cell (p := ⟨w.heap.size, 1, none⟩) (by first | assumption | (simp; done) | (simp; omega) | (show _ < _; omega))).trans (by first | assumption | (simp [go_sem]; done) | (rw [World.cell?_alloc_past _ _ _ (by first | assumption | omega)]; first | assumption | (simp [go_sem]; done)) | (simp [go_sem, *]; done))
    have b_w1 := hb
    clear hb
    go_wp2_with fail
    go_ret
    exact ⟨rfl, (by repeat' first | with_reducible exact Below.refl _ _ | with_reducible assumption | with_reducible refine below_drewN ?_ _ | with_reducible refine balloc ?_ _ | with_reducible refine Below.drew ?_ | with_reducible refine Below.setCell ?_ (by first | (simp; done) | (simp; omega) | omega) _ | with_reducible refine bstep ?_ (by assumption))⟩
  · cases ht : tierB t
    · simp only [Bool.and_true, Bool.and_false, Bool.true_and, Bool.false_and, if_false]
      have HH := hide (sRangeHas_any lo hi x)
      rw [hh] at HH
      have HT := hide (l3Tier_any t)
      rw [ht] at HT
      go_enter Try.func32, Try.ntmps32
      go_wp2_with fail
      refine (HH.out _).mono ?_
      rintro e w1 ⟨rfl, hb⟩
      have hz := hb.size
      (try simp at hz)
      have g0 : w.heap.size < w1.heap.size := (by omega)
      have c00 : w1.cell? ⟨w.heap.size, 0, none⟩ = some (.int .i64 (lo)) := (hb.cell (p := ⟨w.heap.size, 0, none⟩) (by first | assumption | (simp; done) | (simp; omega) | (show _ < _; omega))).trans (by first | assumption | (simp [go_sem]; done) | (rw [World.cell?_alloc_past _ _ _ (by first | assumption | omega)]; first | assumption | (simp [go_sem]; done)) | (simp [go_sem, *]; done))
      have c01 : w1.cell? ⟨w.heap.size, 1, none⟩ = some (.int .i64 (hi)) := (hb.cell (p := ⟨w.heap.size, 1, none⟩) (by first | assumption | (simp; done) | (simp; omega) | (show _ < _; omega))).trans (by first | assumption | (simp [go_sem]; done) | (rw [World.cell?_alloc_past _ _ _ (by first | assumption | omega)]; first | assumption | (simp [go_sem]; done)) | (simp [go_sem, *]; done))
      have b_w1 := hb
      clear hb
      go_wp2_with fail
      refine (HT.out _).mono ?_
      rintro e w1 ⟨rfl, rfl⟩
      go_wp2_with fail
      go_ret
      exact ⟨rfl, (by repeat' first | with_reducible exact Below.refl _ _ | with_reducible assumption | with_reducible refine below_drewN ?_ _ | with_reducible refine balloc ?_ _ | with_reducible refine Below.drew ?_ | with_reducible refine Below.setCell ?_ (by first | (simp; done) | (simp; omega) | omega) _ | with_reducible refine bstep ?_ (by assumption))⟩
    · simp only [Bool.and_true, Bool.and_false, Bool.true_and, Bool.false_and, if_true]
      exact sCodeOf_ok lo hi t x w hh ht
end Go.Proofs.Ytcgeebdhkdfkpaa
