/- The walks of FnCells and FnCellWide. -/
import Derived.Test.YtbodiloipeebgaaLJ
import Derived.Test.YtbodiloipeebgaaDW
import Derived.Test.YtbodiloipeebgaaWS
namespace Go.Proofs.Ytbodiloipeebgaa
open Go.RowKit
set_option linter.unusedSimpArgs false
set_option linter.unusedVariables false

theorem cell_nums {lo hi t c : Int} (h : cellB lo hi t c = true) (hc : c ≠ -1) : rightB lo hi = true ∧ tierB t = true ∧ 0 ≤ c ∧ c < cellsN t ∧ cellLo lo hi t c = fromN lo hi (cellsN t) c ∧ cellHi lo hi t c = fromN lo hi (cellsN t) (c + 1) - 1 := by
  have hr : rightB lo hi = true := by simp only [cellB, Bool.and_eq_true] at h; exact h.1.1
  have ht : tierB t = true := by simp only [cellB, Bool.and_eq_true] at h; exact h.1.2
  have h3 : 0 ≤ c ∧ c < cellsN t := by
    simp only [cellB, hr, ht, hc, decide_false, Bool.true_and, Bool.false_or, Bool.and_eq_true, decide_eq_true_eq] at h
    exact ⟨h.1.1, h.1.2⟩
  refine ⟨hr, ht, h3.1, h3.2, ?_, ?_⟩
  · simp only [cellLo, h, hc, if_true, if_false]
  · simp only [cellHi, h, hc, if_true, if_false]

theorem codeB_in {lo hi t x : Int} (hr : rightB lo hi = true) (ht : tierB t = true) (h0 : lo ≤ x) (h1 : x ≤ hi) : codeB lo hi t x = codeN lo hi (cellsN t) x := by
  unfold codeB
  rw [show hasB lo hi x = true from by simp only [hasB, hr, inB, Bool.true_and, decide_eq_true_eq]; omega, ht]; rfl

/-- The last cell, or the one behind a cell. -/
theorem cells_next {lo hi t c : Int} (h : cellB lo hi t c = true) (hc : c ≠ -1) :
    (cellHi lo hi t c = hi ∧ codeB lo hi t hi = c) ∨
    (cellHi lo hi t c ≠ hi ∧ lo ≤ cellHi lo hi t c + 1 ∧ cellHi lo hi t c + 1 ≤ hi ∧ c < codeB lo hi t (cellHi lo hi t c + 1) ∧ cellB lo hi t (codeB lo hi t (cellHi lo hi t c + 1)) = true ∧ cellLo lo hi t (codeB lo hi t (cellHi lo hi t c + 1)) = cellHi lo hi t c + 1) := by
  obtain ⟨hr, ht, v1, v2, v3⟩ := cell_within h hc
  obtain ⟨_, _, c0, c1, l1, l2⟩ := cell_nums h hc
  obtain ⟨a1, a2, a3, a4, a5⟩ := right_nums hr
  obtain ⟨n0, n1⟩ := cells_pos ht
  have F := fun i y => from_le lo hi (cellsN t) i y n0 a5
  by_cases he : cellHi lo hi t c = hi
  · refine .inl ⟨he, ?_⟩
    rw [codeB_in hr ht a5 (Int.le_refl _)]
    have p : c ≤ codeN lo hi (cellsN t) hi := (F _ _).1 (by omega)
    have q : ¬ c + 1 ≤ codeN lo hi (cellsN t) hi := fun hh => by have := (F _ _).2 hh; omega
    omega
  · refine .inr ⟨he, by omega, by omega, ?_⟩
    rw [codeB_in hr ht (show lo ≤ cellHi lo hi t c + 1 by omega) (by omega)]
    obtain ⟨d0, d1, db, k1, k2, e1, e2, r1, r2⟩ := code_cell lo hi t (cellHi lo hi t c + 1) hr (by omega) (by omega) ht
    have p : c + 1 ≤ codeN lo hi (cellsN t) (cellHi lo hi t c + 1) := (F _ _).1 (by omega)
    have q := from_mono lo hi (cellsN t) _ _ n0 a5 p
    exact ⟨by omega, db, by omega⟩

theorem wide {lo hi t c : Int} (h : cellB lo hi t c = true) (hc : c ≠ -1) : cellHi lo hi t c - cellLo lo hi t c + 1 ≤ (hi - lo + 1) / cellsN t + 1 := by
  obtain ⟨hr, ht, c0, c1, l1, l2⟩ := cell_nums h hc
  rw [l1, l2]
  unfold fromN
  have e : (hi - lo + 1) * (c + 1) = (hi - lo + 1) * c + (hi - lo + 1) := by rw [Int.mul_add, Int.mul_one]
  rw [e]
  have hN : cellsN t = 2 ∨ cellsN t = 16 ∨ cellsN t = 256 := by rcases tier_cases ht with rfl | rfl | rfl <;> decide
  rcases hN with h | h | h <;> rw [h] <;> omega

set_option maxHeartbeats 4000000 in
set_option maxRecDepth 4000 in
theorem cells_walk (a : Option Addr) (n cap : Nat) (zs : List Int) (w : World) (h : IsRow .u8 w a n cap zs) :
    Calls Try.prog 4 #[.slice a n cap] w fun e w' => e = .returned (.bool true) ∧ Below w.heap.size w w' := by
  have BG := hide (big_any a n cap w)
  by_cases hn : n ≤ 1048576
  · rw [decide_eq_false (show ¬ 1048576 < n by omega)] at BG
    have DR := hide (drawCellOf_any a n cap w (h.code hn))
    clear h
    go_enter Try.func4, Try.ntmps4
    go_wp2_with fail
    refine BG.out.mono ?_
    rintro e w' ⟨rfl, hw⟩
    obtain rfl := hw.symm
    clear BG hw
    go_wp2_with fail
    refine DR.out.mono ?_
    rintro e w1 ⟨lo, hi, t, c, rfl, hb1⟩
    clear DR
    have EI := hide (iCellOf_any lo hi t c)
    have ES := hide (sCellOf_any lo hi t c)
    have NI := hide (iCellsOf_any t)
    have NS := hide (sCellsOf_any t)
    unfold cellT at EI ES
    have hnn : (cellsN t != cellsN t) = false := by simp
    have hnq : (cellsN t == cellsN t) = true := by simp
    generalize cellsN t = N at NI NS hnn hnq
    by_cases hok : cellB lo hi t c = true ∧ c ≠ -1
    · obtain ⟨hb, hc⟩ := hok
      have hc0 := (cell_nums hb hc).2.2.1
      have hcl : ¬ c < 0 := by omega
      have hw3 := cell_within hb hc
      have a4 := right_nums hw3.1
      rw [hb] at EI ES
      rcases cells_next hb hc with ⟨e1, e2⟩ | ⟨e1, e2, e3, e4, e5, e6⟩
      · have CI := hide (iCodeOf_any lo hi t hi)
        rw [e2] at CI
        have hq : (cellHi lo hi t c == hi) = true := by simp [e1]
        clear hb hw3 e2 a4 e1
        generalize cellLo lo hi t c = m1 at EI ES
        generalize cellHi lo hi t c = m2 at EI ES hq
        have hEq : ∀ w, (Op.equalIn 10000 25 (.agg #[.int .i64 m1, .int .i64 m2]) (.agg #[.int .i64 m1, .int .i64 m2])).run Try.prog w = .ok true w := fun w => by rw [eqRg]; simp
        have hcc : (c == c) = true := by simp
        go_wp2_with fail
        refine (EI.out _).mono ?_
        rintro e w2 ⟨rfl, hb⟩
        have hz := hb.size
        (try simp at hz)
        have g0 : w1.heap.size < w2.heap.size := (by omega)
        have c00 : w2.cell? ⟨w1.heap.size, 0, none⟩ = some (.int .i64 (lo)) := (hb.cell (p := ⟨w1.heap.size, 0, none⟩) (by first | assumption | (simp; done) | (simp; omega) | (show _ < _; omega))).trans (by first | assumption | (simp [go_sem]; done) | (rw [World.cell?_alloc_past _ _ _ (by first | assumption | omega)]; first | assumption | (simp [go_sem]; done)) | (simp [go_sem, *]; done))
        have c01 : w2.cell? ⟨w1.heap.size, 1, none⟩ = some (.int .i64 (hi)) := (hb.cell (p := ⟨w1.heap.size, 1, none⟩) (by first | assumption | (simp; done) | (simp; omega) | (show _ < _; omega))).trans (by first | assumption | (simp [go_sem]; done) | (rw [World.cell?_alloc_past _ _ _ (by first | assumption | omega)]; first | assumption | (simp [go_sem]; done)) | (simp [go_sem, *]; done))
        have b_w2 := hb
        clear hb
        go_wp2_with fail
        refine (ES.out _).mono ?_
        rintro e w3 ⟨rfl, hb⟩
        have hz := hb.size
        (try simp at hz)
        have g0 : w1.heap.size < w3.heap.size := (by omega)
        have c00 : w3.cell? ⟨w1.heap.size, 0, none⟩ = some (.int .i64 (lo)) := (hb.cell (p := ⟨w1.heap.size, 0, none⟩) (by first | assumption | (simp; done) | (simp; omega) | (show _ < _; omega))).trans (by first | assumption | (simp [go_sem]; done) | (rw [World.cell?_alloc_past _ _ _ (by first | assumption | omega)]; first | assumption | (simp [go_sem]; done)) | (simp [go_sem, *]; done))
        have c01 : w3.cell? ⟨w1.heap.size, 1, none⟩ = some (.int .i64 (hi)) := (hb.cell (p := ⟨w1.heap.size, 1, none⟩) (by first | assumption | (simp; done) | (simp; omega) | (show _ < _; omega))).trans (by first | assumption | (simp [go_sem]; done) | (rw [World.cell?_alloc_past _ _ _ (by first | assumption | omega)]; first | assumption | (simp [go_sem]; done)) | (simp [go_sem, *]; done))
        have g1 : w2.heap.size < w3.heap.size := (by omega)
        have c10 : w3.cell? ⟨w2.heap.size, 0, none⟩ = some (.int .i64 (m1)) := (hb.cell (p := ⟨w2.heap.size, 0, none⟩) (by first | assumption | (simp; done) | (simp; omega) | (show _ < _; omega))).trans (by first | assumption | (simp [go_sem]; done) | (rw [World.cell?_alloc_past _ _ _ (by first | assumption | omega)]; first | assumption | (simp [go_sem]; done)) | (simp [go_sem, *]; done))
        have c11 : w3.cell? ⟨w2.heap.size, 1, none⟩ = some (.int .i64 (m2)) := (hb.cell (p := ⟨w2.heap.size, 1, none⟩) (by first | assumption | (simp; done) | (simp; omega) | (show _ < _; omega))).trans (by first | assumption | (simp [go_sem]; done) | (rw [World.cell?_alloc_past _ _ _ (by first | assumption | omega)]; first | assumption | (simp [go_sem]; done)) | (simp [go_sem, *]; done))
        have b_w3 := hb
        clear hb
        go_wp2_with fail
        refine (NI.out _).mono ?_
        rintro e w4 ⟨rfl, hw4⟩
        obtain rfl := hw4
        go_wp2_with fail
        refine (NS.out _).mono ?_
        rintro e w5 ⟨rfl, hb⟩
        have hz := hb.size
        (try simp at hz)
        have g0 : w1.heap.size < w5.heap.size := (by omega)
        have c00 : w5.cell? ⟨w1.heap.size, 0, none⟩ = some (.int .i64 (lo)) := (hb.cell (p := ⟨w1.heap.size, 0, none⟩) (by first | assumption | (simp; done) | (simp; omega) | (show _ < _; omega))).trans (by first | assumption | (simp [go_sem]; done) | (rw [World.cell?_alloc_past _ _ _ (by first | assumption | omega)]; first | assumption | (simp [go_sem]; done)) | (simp [go_sem, *]; done))
        have c01 : w5.cell? ⟨w1.heap.size, 1, none⟩ = some (.int .i64 (hi)) := (hb.cell (p := ⟨w1.heap.size, 1, none⟩) (by first | assumption | (simp; done) | (simp; omega) | (show _ < _; omega))).trans (by first | assumption | (simp [go_sem]; done) | (rw [World.cell?_alloc_past _ _ _ (by first | assumption | omega)]; first | assumption | (simp [go_sem]; done)) | (simp [go_sem, *]; done))
        have g1 : w2.heap.size < w5.heap.size := (by omega)
        have c10 : w5.cell? ⟨w2.heap.size, 0, none⟩ = some (.int .i64 (m1)) := (hb.cell (p := ⟨w2.heap.size, 0, none⟩) (by first | assumption | (simp; done) | (simp; omega) | (show _ < _; omega))).trans (by first | assumption | (simp [go_sem]; done) | (rw [World.cell?_alloc_past _ _ _ (by first | assumption | omega)]; first | assumption | (simp [go_sem]; done)) | (simp [go_sem, *]; done))
        have c11 : w5.cell? ⟨w2.heap.size, 1, none⟩ = some (.int .i64 (m2)) := (hb.cell (p := ⟨w2.heap.size, 1, none⟩) (by first | assumption | (simp; done) | (simp; omega) | (show _ < _; omega))).trans (by first | assumption | (simp [go_sem]; done) | (rw [World.cell?_alloc_past _ _ _ (by first | assumption | omega)]; first | assumption | (simp [go_sem]; done)) | (simp [go_sem, *]; done))
        have b_w5 := hb
        clear hb
        go_wp2_with fail
        refine (CI.out _).mono ?_
        rintro e w6 ⟨rfl, hb⟩
        have hz := hb.size
        (try simp at hz)
        have b_w6 := hb
        clear hb
        go_wp2_with fail
        go_ret
        exact ⟨rfl, (by repeat' first | with_reducible exact Below.refl _ _ | with_reducible assumption | with_reducible refine below_drewN ?_ _ | with_reducible refine balloc ?_ _ | with_reducible refine Below.drew ?_ | with_reducible refine Below.setCell ?_ (by first | (simp; done) | (simp; omega) | omega) _ | with_reducible refine bstep ?_ (by assumption))⟩
      · have CI := hide (iCodeOf_any lo hi t (cellHi lo hi t c + 1))
        have EN := hide (iCellOf_any lo hi t (codeB lo hi t (cellHi lo hi t c + 1)))
        unfold cellT at EN
        rw [e5, e6] at EN
        have hq : (cellHi lo hi t c == hi) = false := by simp [e1]
        have hm : cellHi lo hi t c ≤ 1048576 ∧ -1048576 ≤ cellHi lo hi t c := by omega
        clear hb hw3 e5 e6 a4 e1 e2 e3
        generalize cellHi lo hi t (codeB lo hi t (cellHi lo hi t c + 1)) = r2 at EN
        generalize codeB lo hi t (cellHi lo hi t c + 1) = cc at CI EN e4
        generalize cellLo lo hi t c = m1 at EI ES
        generalize cellHi lo hi t c = m2 at EI ES hq hm CI EN
        have hEq : ∀ w, (Op.equalIn 10000 25 (.agg #[.int .i64 m1, .int .i64 m2]) (.agg #[.int .i64 m1, .int .i64 m2])).run Try.prog w = .ok true w := fun w => by rw [eqRg]; simp
        have hmm : (m2 + 1 == m2 + 1) = true := by simp
        go_wp2_with fail
        refine (EI.out _).mono ?_
        rintro e w2 ⟨rfl, hb⟩
        have hz := hb.size
        (try simp at hz)
        have g0 : w1.heap.size < w2.heap.size := (by omega)
        have c00 : w2.cell? ⟨w1.heap.size, 0, none⟩ = some (.int .i64 (lo)) := (hb.cell (p := ⟨w1.heap.size, 0, none⟩) (by first | assumption | (simp; done) | (simp; omega) | (show _ < _; omega))).trans (by first | assumption | (simp [go_sem]; done) | (rw [World.cell?_alloc_past _ _ _ (by first | assumption | omega)]; first | assumption | (simp [go_sem]; done)) | (simp [go_sem, *]; done))
        have c01 : w2.cell? ⟨w1.heap.size, 1, none⟩ = some (.int .i64 (hi)) := (hb.cell (p := ⟨w1.heap.size, 1, none⟩) (by first | assumption | (simp; done) | (simp; omega) | (show _ < _; omega))).trans (by first | assumption | (simp [go_sem]; done) | (rw [World.cell?_alloc_past _ _ _ (by first | assumption | omega)]; first | assumption | (simp [go_sem]; done)) | (simp [go_sem, *]; done))
        have b_w2 := hb
        clear hb
        go_wp2_with fail
        refine (ES.out _).mono ?_
        rintro e w3 ⟨rfl, hb⟩
        have hz := hb.size
        (try simp at hz)
        have g0 : w1.heap.size < w3.heap.size := (by omega)
        have c00 : w3.cell? ⟨w1.heap.size, 0, none⟩ = some (.int .i64 (lo)) := (hb.cell (p := ⟨w1.heap.size, 0, none⟩) (by first | assumption | (simp; done) | (simp; omega) | (show _ < _; omega))).trans (by first | assumption | (simp [go_sem]; done) | (rw [World.cell?_alloc_past _ _ _ (by first | assumption | omega)]; first | assumption | (simp [go_sem]; done)) | (simp [go_sem, *]; done))
        have c01 : w3.cell? ⟨w1.heap.size, 1, none⟩ = some (.int .i64 (hi)) := (hb.cell (p := ⟨w1.heap.size, 1, none⟩) (by first | assumption | (simp; done) | (simp; omega) | (show _ < _; omega))).trans (by first | assumption | (simp [go_sem]; done) | (rw [World.cell?_alloc_past _ _ _ (by first | assumption | omega)]; first | assumption | (simp [go_sem]; done)) | (simp [go_sem, *]; done))
        have g1 : w2.heap.size < w3.heap.size := (by omega)
        have c10 : w3.cell? ⟨w2.heap.size, 0, none⟩ = some (.int .i64 (m1)) := (hb.cell (p := ⟨w2.heap.size, 0, none⟩) (by first | assumption | (simp; done) | (simp; omega) | (show _ < _; omega))).trans (by first | assumption | (simp [go_sem]; done) | (rw [World.cell?_alloc_past _ _ _ (by first | assumption | omega)]; first | assumption | (simp [go_sem]; done)) | (simp [go_sem, *]; done))
        have c11 : w3.cell? ⟨w2.heap.size, 1, none⟩ = some (.int .i64 (m2)) := (hb.cell (p := ⟨w2.heap.size, 1, none⟩) (by first | assumption | (simp; done) | (simp; omega) | (show _ < _; omega))).trans (by first | assumption | (simp [go_sem]; done) | (rw [World.cell?_alloc_past _ _ _ (by first | assumption | omega)]; first | assumption | (simp [go_sem]; done)) | (simp [go_sem, *]; done))
        have b_w3 := hb
        clear hb
        go_wp2_with fail
        refine (NI.out _).mono ?_
        rintro e w4 ⟨rfl, hw4⟩
        obtain rfl := hw4
        go_wp2_with fail
        refine (NS.out _).mono ?_
        rintro e w5 ⟨rfl, hb⟩
        have hz := hb.size
        (try simp at hz)
        have g0 : w1.heap.size < w5.heap.size := (by omega)
        have c00 : w5.cell? ⟨w1.heap.size, 0, none⟩ = some (.int .i64 (lo)) := (hb.cell (p := ⟨w1.heap.size, 0, none⟩) (by first | assumption | (simp; done) | (simp; omega) | (show _ < _; omega))).trans (by first | assumption | (simp [go_sem]; done) | (rw [World.cell?_alloc_past _ _ _ (by first | assumption | omega)]; first | assumption | (simp [go_sem]; done)) | (simp [go_sem, *]; done))
        have c01 : w5.cell? ⟨w1.heap.size, 1, none⟩ = some (.int .i64 (hi)) := (hb.cell (p := ⟨w1.heap.size, 1, none⟩) (by first | assumption | (simp; done) | (simp; omega) | (show _ < _; omega))).trans (by first | assumption | (simp [go_sem]; done) | (rw [World.cell?_alloc_past _ _ _ (by first | assumption | omega)]; first | assumption | (simp [go_sem]; done)) | (simp [go_sem, *]; done))
        have g1 : w2.heap.size < w5.heap.size := (by omega)
        have c10 : w5.cell? ⟨w2.heap.size, 0, none⟩ = some (.int .i64 (m1)) := (hb.cell (p := ⟨w2.heap.size, 0, none⟩) (by first | assumption | (simp; done) | (simp; omega) | (show _ < _; omega))).trans (by first | assumption | (simp [go_sem]; done) | (rw [World.cell?_alloc_past _ _ _ (by first | assumption | omega)]; first | assumption | (simp [go_sem]; done)) | (simp [go_sem, *]; done))
        have c11 : w5.cell? ⟨w2.heap.size, 1, none⟩ = some (.int .i64 (m2)) := (hb.cell (p := ⟨w2.heap.size, 1, none⟩) (by first | assumption | (simp; done) | (simp; omega) | (show _ < _; omega))).trans (by first | assumption | (simp [go_sem]; done) | (rw [World.cell?_alloc_past _ _ _ (by first | assumption | omega)]; first | assumption | (simp [go_sem]; done)) | (simp [go_sem, *]; done))
        have b_w5 := hb
        clear hb
        go_wp2_with fail
        refine (CI.out _).mono ?_
        rintro e w6 ⟨rfl, hb⟩
        have hz := hb.size
        (try simp at hz)
        have g0 : w1.heap.size < w6.heap.size := (by omega)
        have c00 : w6.cell? ⟨w1.heap.size, 0, none⟩ = some (.int .i64 (lo)) := (hb.cell (p := ⟨w1.heap.size, 0, none⟩) (by first | assumption | (simp; done) | (simp; omega) | (show _ < _; omega))).trans (by first | assumption | (simp [go_sem]; done) | (rw [World.cell?_alloc_past _ _ _ (by first | assumption | omega)]; first | assumption | (simp [go_sem]; done)) | (simp [go_sem, *]; done))
        have c01 : w6.cell? ⟨w1.heap.size, 1, none⟩ = some (.int .i64 (hi)) := (hb.cell (p := ⟨w1.heap.size, 1, none⟩) (by first | assumption | (simp; done) | (simp; omega) | (show _ < _; omega))).trans (by first | assumption | (simp [go_sem]; done) | (rw [World.cell?_alloc_past _ _ _ (by first | assumption | omega)]; first | assumption | (simp [go_sem]; done)) | (simp [go_sem, *]; done))
        have g1 : w2.heap.size < w6.heap.size := (by omega)
        have c10 : w6.cell? ⟨w2.heap.size, 0, none⟩ = some (.int .i64 (m1)) := (hb.cell (p := ⟨w2.heap.size, 0, none⟩) (by first | assumption | (simp; done) | (simp; omega) | (show _ < _; omega))).trans (by first | assumption | (simp [go_sem]; done) | (rw [World.cell?_alloc_past _ _ _ (by first | assumption | omega)]; first | assumption | (simp [go_sem]; done)) | (simp [go_sem, *]; done))
        have c11 : w6.cell? ⟨w2.heap.size, 1, none⟩ = some (.int .i64 (m2)) := (hb.cell (p := ⟨w2.heap.size, 1, none⟩) (by first | assumption | (simp; done) | (simp; omega) | (show _ < _; omega))).trans (by first | assumption | (simp [go_sem]; done) | (rw [World.cell?_alloc_past _ _ _ (by first | assumption | omega)]; first | assumption | (simp [go_sem]; done)) | (simp [go_sem, *]; done))
        have b_w6 := hb
        clear hb
        go_wp2_with fail
        refine (EN.out _).mono ?_
        rintro e w7 ⟨rfl, hb⟩
        have hz := hb.size
        (try simp at hz)
        have g0 : w1.heap.size < w7.heap.size := (by omega)
        have c00 : w7.cell? ⟨w1.heap.size, 0, none⟩ = some (.int .i64 (lo)) := (hb.cell (p := ⟨w1.heap.size, 0, none⟩) (by first | assumption | (simp; done) | (simp; omega) | (show _ < _; omega))).trans (by first | assumption | (simp [go_sem]; done) | (rw [World.cell?_alloc_past _ _ _ (by first | assumption | omega)]; first | assumption | (simp [go_sem]; done)) | (simp [go_sem, *]; done))
        have c01 : w7.cell? ⟨w1.heap.size, 1, none⟩ = some (.int .i64 (hi)) := (hb.cell (p := ⟨w1.heap.size, 1, none⟩) (by first | assumption | (simp; done) | (simp; omega) | (show _ < _; omega))).trans (by first | assumption | (simp [go_sem]; done) | (rw [World.cell?_alloc_past _ _ _ (by first | assumption | omega)]; first | assumption | (simp [go_sem]; done)) | (simp [go_sem, *]; done))
        have g1 : w2.heap.size < w7.heap.size := (by omega)
        have c10 : w7.cell? ⟨w2.heap.size, 0, none⟩ = some (.int .i64 (m1)) := (hb.cell (p := ⟨w2.heap.size, 0, none⟩) (by first | assumption | (simp; done) | (simp; omega) | (show _ < _; omega))).trans (by first | assumption | (simp [go_sem]; done) | (rw [World.cell?_alloc_past _ _ _ (by first | assumption | omega)]; first | assumption | (simp [go_sem]; done)) | (simp [go_sem, *]; done))
        have c11 : w7.cell? ⟨w2.heap.size, 1, none⟩ = some (.int .i64 (m2)) := (hb.cell (p := ⟨w2.heap.size, 1, none⟩) (by first | assumption | (simp; done) | (simp; omega) | (show _ < _; omega))).trans (by first | assumption | (simp [go_sem]; done) | (rw [World.cell?_alloc_past _ _ _ (by first | assumption | omega)]; first | assumption | (simp [go_sem]; done)) | (simp [go_sem, *]; done))
        have b_w7 := hb
        clear hb
        go_wp2_with fail
        go_ret
        exact ⟨rfl, (by repeat' first | with_reducible exact Below.refl _ _ | with_reducible assumption | with_reducible refine below_drewN ?_ _ | with_reducible refine balloc ?_ _ | with_reducible refine Below.drew ?_ | with_reducible refine Below.setCell ?_ (by first | (simp; done) | (simp; omega) | omega) _ | with_reducible refine bstep ?_ (by assumption))⟩
    · have hD : cellB lo hi t c = false ∨ (cellB lo hi t c = true ∧ c < 0) := by
        cases hb : cellB lo hi t c
        · exact .inl rfl
        · refine .inr ⟨rfl, ?_⟩
          have : c = -1 := by
            by_cases hq : c = -1
            · exact hq
            · exact absurd ⟨hb, hq⟩ hok
          omega
      clear hok
      generalize cellLo lo hi t c = m1 at EI ES
      generalize cellHi lo hi t c = m2 at EI ES
      generalize cellB lo hi t c = mb at EI ES hD
      have hEq : ∀ w, (Op.equalIn 10000 25 (.agg #[.int .i64 m1, .int .i64 m2]) (.agg #[.int .i64 m1, .int .i64 m2])).run Try.prog w = .ok true w := fun w => by rw [eqRg]; simp
      rcases hD with rfl | ⟨rfl, hc⟩
      all_goals
        go_wp2_with fail
        refine (EI.out _).mono ?_
        rintro e w2 ⟨rfl, hb⟩
        have hz := hb.size
        (try simp at hz)
        have g0 : w1.heap.size < w2.heap.size := (by omega)
        have c00 : w2.cell? ⟨w1.heap.size, 0, none⟩ = some (.int .i64 (lo)) := (hb.cell (p := ⟨w1.heap.size, 0, none⟩) (by first | assumption | (simp; done) | (simp; omega) | (show _ < _; omega))).trans (by first | assumption | (simp [go_sem]; done) | (rw [World.cell?_alloc_past _ _ _ (by first | assumption | omega)]; first | assumption | (simp [go_sem]; done)) | (simp [go_sem, *]; done))
        have c01 : w2.cell? ⟨w1.heap.size, 1, none⟩ = some (.int .i64 (hi)) := (hb.cell (p := ⟨w1.heap.size, 1, none⟩) (by first | assumption | (simp; done) | (simp; omega) | (show _ < _; omega))).trans (by first | assumption | (simp [go_sem]; done) | (rw [World.cell?_alloc_past _ _ _ (by first | assumption | omega)]; first | assumption | (simp [go_sem]; done)) | (simp [go_sem, *]; done))
        have b_w2 := hb
        clear hb
        go_wp2_with fail
        refine (ES.out _).mono ?_
        rintro e w3 ⟨rfl, hb⟩
        have hz := hb.size
        (try simp at hz)
        have g0 : w1.heap.size < w3.heap.size := (by omega)
        have c00 : w3.cell? ⟨w1.heap.size, 0, none⟩ = some (.int .i64 (lo)) := (hb.cell (p := ⟨w1.heap.size, 0, none⟩) (by first | assumption | (simp; done) | (simp; omega) | (show _ < _; omega))).trans (by first | assumption | (simp [go_sem]; done) | (rw [World.cell?_alloc_past _ _ _ (by first | assumption | omega)]; first | assumption | (simp [go_sem]; done)) | (simp [go_sem, *]; done))
        have c01 : w3.cell? ⟨w1.heap.size, 1, none⟩ = some (.int .i64 (hi)) := (hb.cell (p := ⟨w1.heap.size, 1, none⟩) (by first | assumption | (simp; done) | (simp; omega) | (show _ < _; omega))).trans (by first | assumption | (simp [go_sem]; done) | (rw [World.cell?_alloc_past _ _ _ (by first | assumption | omega)]; first | assumption | (simp [go_sem]; done)) | (simp [go_sem, *]; done))
        have g1 : w2.heap.size < w3.heap.size := (by omega)
        have c10 : w3.cell? ⟨w2.heap.size, 0, none⟩ = some (.int .i64 (m1)) := (hb.cell (p := ⟨w2.heap.size, 0, none⟩) (by first | assumption | (simp; done) | (simp; omega) | (show _ < _; omega))).trans (by first | assumption | (simp [go_sem]; done) | (rw [World.cell?_alloc_past _ _ _ (by first | assumption | omega)]; first | assumption | (simp [go_sem]; done)) | (simp [go_sem, *]; done))
        have c11 : w3.cell? ⟨w2.heap.size, 1, none⟩ = some (.int .i64 (m2)) := (hb.cell (p := ⟨w2.heap.size, 1, none⟩) (by first | assumption | (simp; done) | (simp; omega) | (show _ < _; omega))).trans (by first | assumption | (simp [go_sem]; done) | (rw [World.cell?_alloc_past _ _ _ (by first | assumption | omega)]; first | assumption | (simp [go_sem]; done)) | (simp [go_sem, *]; done))
        have b_w3 := hb
        clear hb
        go_wp2_with fail
        refine (NI.out _).mono ?_
        rintro e w4 ⟨rfl, hw4⟩
        obtain rfl := hw4
        go_wp2_with fail
        refine (NS.out _).mono ?_
        rintro e w5 ⟨rfl, hb⟩
        have hz := hb.size
        (try simp at hz)
        have g0 : w2.heap.size < w5.heap.size := (by omega)
        have c00 : w5.cell? ⟨w2.heap.size, 0, none⟩ = some (.int .i64 (m1)) := (hb.cell (p := ⟨w2.heap.size, 0, none⟩) (by first | assumption | (simp; done) | (simp; omega) | (show _ < _; omega))).trans (by first | assumption | (simp [go_sem]; done) | (rw [World.cell?_alloc_past _ _ _ (by first | assumption | omega)]; first | assumption | (simp [go_sem]; done)) | (simp [go_sem, *]; done))
        have c01 : w5.cell? ⟨w2.heap.size, 1, none⟩ = some (.int .i64 (m2)) := (hb.cell (p := ⟨w2.heap.size, 1, none⟩) (by first | assumption | (simp; done) | (simp; omega) | (show _ < _; omega))).trans (by first | assumption | (simp [go_sem]; done) | (rw [World.cell?_alloc_past _ _ _ (by first | assumption | omega)]; first | assumption | (simp [go_sem]; done)) | (simp [go_sem, *]; done))
        have g1 : w3.heap.size < w5.heap.size := (by omega)
        have c10 : w5.cell? ⟨w3.heap.size, 0, none⟩ = some (.int .i64 (m1)) := (hb.cell (p := ⟨w3.heap.size, 0, none⟩) (by first | assumption | (simp; done) | (simp; omega) | (show _ < _; omega))).trans (by first | assumption | (simp [go_sem]; done) | (rw [World.cell?_alloc_past _ _ _ (by first | assumption | omega)]; first | assumption | (simp [go_sem]; done)) | (simp [go_sem, *]; done))
        have c11 : w5.cell? ⟨w3.heap.size, 1, none⟩ = some (.int .i64 (m2)) := (hb.cell (p := ⟨w3.heap.size, 1, none⟩) (by first | assumption | (simp; done) | (simp; omega) | (show _ < _; omega))).trans (by first | assumption | (simp [go_sem]; done) | (rw [World.cell?_alloc_past _ _ _ (by first | assumption | omega)]; first | assumption | (simp [go_sem]; done)) | (simp [go_sem, *]; done))
        have b_w5 := hb
        clear hb
        go_wp2_with fail
        refine (NI.out _).mono ?_
        rintro e w6 ⟨rfl, hw6⟩
        obtain rfl := hw6
        go_wp2_with fail
        refine (NS.out _).mono ?_
        rintro e w7 ⟨rfl, hb⟩
        have hz := hb.size
        (try simp at hz)
        have b_w7 := hb
        clear hb
        go_wp2_with fail
        go_ret
        exact ⟨rfl, (by repeat' first | with_reducible exact Below.refl _ _ | with_reducible assumption | with_reducible refine below_drewN ?_ _ | with_reducible refine balloc ?_ _ | with_reducible refine Below.drew ?_ | with_reducible refine Below.setCell ?_ (by first | (simp; done) | (simp; omega) | omega) _ | with_reducible refine bstep ?_ (by assumption))⟩
  · rw [decide_eq_true (show 1048576 < n by omega)] at BG
    go_enter Try.func4, Try.ntmps4
    go_wp2_with fail
    refine BG.out.mono ?_
    rintro e w' ⟨rfl, rfl⟩
    go_wp2
    go_ret
    exact ⟨rfl, (by repeat' first | with_reducible exact Below.refl _ _ | with_reducible assumption | with_reducible refine below_drewN ?_ _ | with_reducible refine balloc ?_ _ | with_reducible refine Below.drew ?_ | with_reducible refine Below.setCell ?_ (by first | (simp; done) | (simp; omega) | omega) _ | with_reducible refine bstep ?_ (by assumption))⟩
end Go.Proofs.Ytbodiloipeebgaa
