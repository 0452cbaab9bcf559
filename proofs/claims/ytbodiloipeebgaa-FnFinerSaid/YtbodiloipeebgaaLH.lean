/- The walks of FnCode and FnCodeOrder. -/
import Derived.Test.YtbodiloipeebgaaCJ
import Derived.Test.YtbodiloipeebgaaWC
import Derived.Test.YtbodiloipeebgaaDV
import Derived.Test.YtbodiloipeebgaaDP
namespace Go.Proofs.Ytbodiloipeebgaa
open Go.RowKit
set_option linter.unusedSimpArgs false
set_option linter.unusedVariables false

theorem code_mono (lo hi N x y : Int) (hN : 0 < N) (hS : lo ≤ hi) (h : x ≤ y) : codeN lo hi N x ≤ codeN lo hi N y := by
  have h1 := (from_le lo hi N (codeN lo hi N x) x hN hS).2 (Int.le_refl _)
  exact (from_le lo hi N (codeN lo hi N x) y hN hS).1 (by omega)

theorem cells_pos {t : Int} (ht : tierB t = true) : 0 < cellsN t ∧ cellsN t ≤ 256 := by rcases tier_cases ht with rfl | rfl | rfl <;> decide

/-- The cell that a number has. -/
theorem code_cell (lo hi t x : Int) (hr : rightB lo hi = true) (hx0 : lo ≤ x) (hx1 : x ≤ hi) (ht : tierB t = true) :
    0 ≤ codeN lo hi (cellsN t) x ∧ codeN lo hi (cellsN t) x < cellsN t ∧ cellB lo hi t (codeN lo hi (cellsN t) x) = true ∧ cellLo lo hi t (codeN lo hi (cellsN t) x) ≤ x ∧ x ≤ cellHi lo hi t (codeN lo hi (cellsN t) x) ∧ codeN lo hi (cellsN t) (cellLo lo hi t (codeN lo hi (cellsN t) x)) = codeN lo hi (cellsN t) x ∧ codeN lo hi (cellsN t) (cellHi lo hi t (codeN lo hi (cellsN t) x)) = codeN lo hi (cellsN t) x ∧ cellLo lo hi t (codeN lo hi (cellsN t) x) = fromN lo hi (cellsN t) (codeN lo hi (cellsN t) x) ∧ cellHi lo hi t (codeN lo hi (cellsN t) x) = fromN lo hi (cellsN t) (codeN lo hi (cellsN t) x + 1) - 1 := by
  obtain ⟨a1, a2, a3, a4, a5⟩ := right_nums hr
  obtain ⟨n0, n1⟩ := cells_pos ht
  have F := fun i y => from_le lo hi (cellsN t) i y n0 a5
  have c0 := code_nonneg lo hi (cellsN t) x n0 hx0 a5
  have c1 := code_lt lo hi (cellsN t) x n0 hx1 a5
  have e1 : fromN lo hi (cellsN t) (codeN lo hi (cellsN t) x) ≤ x := (F _ _).2 (Int.le_refl _)
  have e2 : ¬ fromN lo hi (cellsN t) (codeN lo hi (cellsN t) x + 1) ≤ x := fun h => by have := (F _ _).1 h; omega
  have e3 : codeN lo hi (cellsN t) (fromN lo hi (cellsN t) (codeN lo hi (cellsN t) x)) = codeN lo hi (cellsN t) x := by
    have p := (F (codeN lo hi (cellsN t) x) _).1 (Int.le_refl _)
    have q := code_mono lo hi (cellsN t) _ x n0 a5 e1
    omega
  have e4 : codeN lo hi (cellsN t) (fromN lo hi (cellsN t) (codeN lo hi (cellsN t) x + 1) - 1) = codeN lo hi (cellsN t) x := by
    have q := code_mono lo hi (cellsN t) x (fromN lo hi (cellsN t) (codeN lo hi (cellsN t) x + 1) - 1) n0 a5 (by omega)
    have p : ¬ codeN lo hi (cellsN t) x + 1 ≤ codeN lo hi (cellsN t) (fromN lo hi (cellsN t) (codeN lo hi (cellsN t) x + 1) - 1) := fun h => by have := (F _ _).2 h; omega
    omega
  have hb : cellB lo hi t (codeN lo hi (cellsN t) x) = true := by
    simp only [cellB, hr, ht, Bool.true_and, Bool.or_eq_true, Bool.and_eq_true, decide_eq_true_eq]
    exact .inr ⟨⟨c0, c1⟩, by omega⟩
  have hne : codeN lo hi (cellsN t) x ≠ -1 := by omega
  have l1 : cellLo lo hi t (codeN lo hi (cellsN t) x) = fromN lo hi (cellsN t) (codeN lo hi (cellsN t) x) := by simp only [cellLo, hb, if_true, hne, if_false]
  have l2 : cellHi lo hi t (codeN lo hi (cellsN t) x) = fromN lo hi (cellsN t) (codeN lo hi (cellsN t) x + 1) - 1 := by simp only [cellHi, hb, if_true, hne, if_false]
  rw [l1, l2]
  exact ⟨c0, c1, hb, e1, by omega, e3, e4, rfl, rfl⟩

theorem code_split (lo hi t x : Int) : (codeB lo hi t x = -1) ∨ (rightB lo hi = true ∧ lo ≤ x ∧ x ≤ hi ∧ tierB t = true ∧ codeB lo hi t x = codeN lo hi (cellsN t) x) := by
  unfold codeB
  cases hh : hasB lo hi x && tierB t
  · exact .inl rfl
  · simp only [hasB, inB, Bool.and_eq_true, decide_eq_true_eq] at hh
    exact .inr ⟨hh.1.1, hh.1.2.1, hh.1.2.2, hh.2, rfl⟩

set_option maxHeartbeats 2000000 in
set_option maxRecDepth 4000 in
theorem code_walk (a : Option Addr) (n cap : Nat) (zs : List Int) (w : World) (h : IsRow .u8 w a n cap zs) :
    Calls Try.prog 3 #[.slice a n cap] w fun e w' => e = .returned (.bool true) ∧ Below w.heap.size w w' := by
  have BG := hide (big_any a n cap w)
  by_cases hn : n ≤ 1048576
  · rw [decide_eq_false (show ¬ 1048576 < n by omega)] at BG
    have DR := hide (drawCodeOf_any a n cap w (h.code hn))
    clear h
    go_enter Try.func3, Try.ntmps3
    go_wp2_with fail
    refine BG.out.mono ?_
    rintro e w' ⟨rfl, hw⟩
    obtain rfl := hw.symm
    clear BG hw
    go_wp2_with fail
    refine DR.out.mono ?_
    rintro e w1 ⟨lo, hi, t, x, rfl, hb1⟩
    clear DR
    have CI := hide (iCodeOf_any lo hi t)
    have CS := hide (sCodeOf_any lo hi t x)
    have hne : (codeB lo hi t x != codeB lo hi t x) = false := by simp
    have heq : (codeB lo hi t x == codeB lo hi t x) = true := by simp
    rcases code_split lo hi t x with hc | ⟨hr, hx0, hx1, ht, hc⟩
    · have CX := hide (CI.out x)
      rw [hc] at CX CS hne heq
      clear CI
      go_wp2_with fail
      refine (CX.out _).mono ?_
      rintro e w2 ⟨rfl, hb⟩
      have hz := hb.size
      (try simp at hz)
      have g0 : w1.heap.size < w2.heap.size := (by omega)
      have c00 : w2.cell? ⟨w1.heap.size, 0, none⟩ = some (.int .i64 (lo)) := (hb.cell (p := ⟨w1.heap.size, 0, none⟩) (by first | assumption | (simp; done) | (simp; omega) | (show _ < _; omega))).trans (by first | assumption | (simp [go_sem]; done) | (rw [World.cell?_alloc_past _ _ _ (by first | assumption | omega)]; first | assumption | (simp [go_sem]; done)) | (simp [go_sem, *]; done))
      have c01 : w2.cell? ⟨w1.heap.size, 1, none⟩ = some (.int .i64 (hi)) := (hb.cell (p := ⟨w1.heap.size, 1, none⟩) (by first | assumption | (simp; done) | (simp; omega) | (show _ < _; omega))).trans (by first | assumption | (simp [go_sem]; done) | (rw [World.cell?_alloc_past _ _ _ (by first | assumption | omega)]; first | assumption | (simp [go_sem]; done)) | (simp [go_sem, *]; done))
      have b_w2 := hb
      clear hb
      go_wp2_with fail
      refine (CS.out _).mono ?_
      rintro e w3 ⟨rfl, hb⟩
      have hz := hb.size
      (try simp at hz)
      have g0 : w1.heap.size < w3.heap.size := (by omega)
      have c00 : w3.cell? ⟨w1.heap.size, 0, none⟩ = some (.int .i64 (lo)) := (hb.cell (p := ⟨w1.heap.size, 0, none⟩) (by first | assumption | (simp; done) | (simp; omega) | (show _ < _; omega))).trans (by first | assumption | (simp [go_sem]; done) | (rw [World.cell?_alloc_past _ _ _ (by first | assumption | omega)]; first | assumption | (simp [go_sem]; done)) | (simp [go_sem, *]; done))
      have c01 : w3.cell? ⟨w1.heap.size, 1, none⟩ = some (.int .i64 (hi)) := (hb.cell (p := ⟨w1.heap.size, 1, none⟩) (by first | assumption | (simp; done) | (simp; omega) | (show _ < _; omega))).trans (by first | assumption | (simp [go_sem]; done) | (rw [World.cell?_alloc_past _ _ _ (by first | assumption | omega)]; first | assumption | (simp [go_sem]; done)) | (simp [go_sem, *]; done))
      have b_w3 := hb
      clear hb
      go_wp2_with fail
      refine (CS.out _).mono ?_
      rintro e w4 ⟨rfl, hb⟩
      have hz := hb.size
      (try simp at hz)
      have g0 : w1.heap.size < w4.heap.size := (by omega)
      have c00 : w4.cell? ⟨w1.heap.size, 0, none⟩ = some (.int .i64 (lo)) := (hb.cell (p := ⟨w1.heap.size, 0, none⟩) (by first | assumption | (simp; done) | (simp; omega) | (show _ < _; omega))).trans (by first | assumption | (simp [go_sem]; done) | (rw [World.cell?_alloc_past _ _ _ (by first | assumption | omega)]; first | assumption | (simp [go_sem]; done)) | (simp [go_sem, *]; done))
      have c01 : w4.cell? ⟨w1.heap.size, 1, none⟩ = some (.int .i64 (hi)) := (hb.cell (p := ⟨w1.heap.size, 1, none⟩) (by first | assumption | (simp; done) | (simp; omega) | (show _ < _; omega))).trans (by first | assumption | (simp [go_sem]; done) | (rw [World.cell?_alloc_past _ _ _ (by first | assumption | omega)]; first | assumption | (simp [go_sem]; done)) | (simp [go_sem, *]; done))
      have b_w4 := hb
      clear hb
      go_wp2_with fail
      go_ret
      exact ⟨rfl, (by repeat' first | with_reducible exact Below.refl _ _ | with_reducible assumption | with_reducible refine below_drewN ?_ _ | with_reducible refine balloc ?_ _ | with_reducible refine Below.drew ?_ | with_reducible refine Below.setCell ?_ (by first | (simp; done) | (simp; omega) | omega) _ | with_reducible refine bstep ?_ (by assumption))⟩
    · obtain ⟨c0, c1, cb, k1, k2, e1, e2, l1, l2⟩ := code_cell lo hi t x hr hx0 hx1 ht
      obtain ⟨_, _, v1, v2, v3⟩ := cell_within cb (by omega)
      have CE := hide (iCellOf_any lo hi t (codeN lo hi (cellsN t) x))
      unfold cellT at CE
      have CN := hide (iCellsOf_any t)
      have hlo : hasB lo hi (cellLo lo hi t (codeN lo hi (cellsN t) x)) = true := by simp only [hasB, hr, inB, Bool.true_and, decide_eq_true_eq]; omega
      have hhi : hasB lo hi (cellHi lo hi t (codeN lo hi (cellsN t) x)) = true := by simp only [hasB, hr, inB, Bool.true_and, decide_eq_true_eq]; omega
      have hrc : rightB (cellLo lo hi t (codeN lo hi (cellsN t) x)) (cellHi lo hi t (codeN lo hi (cellsN t) x)) = true := by
        obtain ⟨a1, a2, a3, a4, a5⟩ := right_nums hr
        simp only [rightB, compB, Bool.and_eq_true, decide_eq_true_eq]; omega
      have CX := hide (CI.out x)
      have CL := hide (CI.out (cellLo lo hi t (codeN lo hi (cellsN t) x)))
      have CH := hide (CI.out (cellHi lo hi t (codeN lo hi (cellsN t) x)))
      rw [show codeB lo hi t (cellLo lo hi t (codeN lo hi (cellsN t) x)) = codeN lo hi (cellsN t) x from by unfold codeB; rw [hlo, ht]; exact e1] at CL
      rw [show codeB lo hi t (cellHi lo hi t (codeN lo hi (cellsN t) x)) = codeN lo hi (cellsN t) x from by unfold codeB; rw [hhi, ht]; exact e2] at CH
      have RH := hide (iRangeHas_any (cellLo lo hi t (codeN lo hi (cellsN t) x)) (cellHi lo hi t (codeN lo hi (cellsN t) x)) x)
      rw [show hasB (cellLo lo hi t (codeN lo hi (cellsN t) x)) (cellHi lo hi t (codeN lo hi (cellsN t) x)) x = true from by simp only [hasB, hrc, inB, Bool.true_and, decide_eq_true_eq]; omega] at RH
      have RL := hide (iRangeLeq_any (cellLo lo hi t (codeN lo hi (cellsN t) x)) (cellHi lo hi t (codeN lo hi (cellsN t) x)) lo hi)
      rw [show leqB (cellLo lo hi t (codeN lo hi (cellsN t) x)) (cellHi lo hi t (codeN lo hi (cellsN t) x)) lo hi = true from by simp only [leqB, hrc, hr, Bool.true_and, Bool.and_eq_true, decide_eq_true_eq]; omega] at RL
      rw [cb] at CE
      rw [hc] at CX CS hne heq
      clear CI hc e1 e2 l1 l2 k1 k2 cb hlo hhi hrc v1 v2 v3
      generalize cellLo lo hi t (codeN lo hi (cellsN t) x) = m1 at CE CL RH RL
      generalize cellHi lo hi t (codeN lo hi (cellsN t) x) = m2 at CE CH RH RL
      generalize codeN lo hi (cellsN t) x = cc at CX CS CE CL CH c0 c1 hne heq
      generalize cellsN t = N at CN c1
      have hnl : ¬ cc < 0 := by omega
      go_wp2_with fail
      refine (CX.out _).mono ?_
      rintro e w2 ⟨rfl, hb⟩
      have hz := hb.size
      (try simp at hz)
      have g0 : w1.heap.size < w2.heap.size := (by omega)
      have c00 : w2.cell? ⟨w1.heap.size, 0, none⟩ = some (.int .i64 (lo)) := (hb.cell (p := ⟨w1.heap.size, 0, none⟩) (by first | assumption | (simp; done) | (simp; omega) | (show _ < _; omega))).trans (by first | assumption | (simp [go_sem]; done) | (rw [World.cell?_alloc_past _ _ _ (by first | assumption | omega)]; first | assumption | (simp [go_sem]; done)) | (simp [go_sem, *]; done))
      have c01 : w2.cell? ⟨w1.heap.size, 1, none⟩ = some (.int .i64 (hi)) := (hb.cell (p := ⟨w1.heap.size, 1, none⟩) (by first | assumption | (simp; done) | (simp; omega) | (show _ < _; omega))).trans (by first | assumption | (simp [go_sem]; done) | (rw [World.cell?_alloc_past _ _ _ (by first | assumption | omega)]; first | assumption | (simp [go_sem]; done)) | (simp [go_sem, *]; done))
      have b_w2 := hb
      clear hb
      go_wp2_with fail
      refine (CS.out _).mono ?_
      rintro e w3 ⟨rfl, hb⟩
      have hz := hb.size
      (try simp at hz)
      have g0 : w1.heap.size < w3.heap.size := (by omega)
      have c00 : w3.cell? ⟨w1.heap.size, 0, none⟩ = some (.int .i64 (lo)) := (hb.cell (p := ⟨w1.heap.size, 0, none⟩) (by first | assumption | (simp; done) | (simp; omega) | (show _ < _; omega))).trans (by first | assumption | (simp [go_sem]; done) | (rw [World.cell?_alloc_past _ _ _ (by first | assumption | omega)]; first | assumption | (simp [go_sem]; done)) | (simp [go_sem, *]; done))
      have c01 : w3.cell? ⟨w1.heap.size, 1, none⟩ = some (.int .i64 (hi)) := (hb.cell (p := ⟨w1.heap.size, 1, none⟩) (by first | assumption | (simp; done) | (simp; omega) | (show _ < _; omega))).trans (by first | assumption | (simp [go_sem]; done) | (rw [World.cell?_alloc_past _ _ _ (by first | assumption | omega)]; first | assumption | (simp [go_sem]; done)) | (simp [go_sem, *]; done))
      have b_w3 := hb
      clear hb
      go_wp2_with fail
      refine (CE.out _).mono ?_
      rintro e w4 ⟨rfl, hb⟩
      have hz := hb.size
      (try simp at hz)
      have g0 : w1.heap.size < w4.heap.size := (by omega)
      have c00 : w4.cell? ⟨w1.heap.size, 0, none⟩ = some (.int .i64 (lo)) := (hb.cell (p := ⟨w1.heap.size, 0, none⟩) (by first | assumption | (simp; done) | (simp; omega) | (show _ < _; omega))).trans (by first | assumption | (simp [go_sem]; done) | (rw [World.cell?_alloc_past _ _ _ (by first | assumption | omega)]; first | assumption | (simp [go_sem]; done)) | (simp [go_sem, *]; done))
      have c01 : w4.cell? ⟨w1.heap.size, 1, none⟩ = some (.int .i64 (hi)) := (hb.cell (p := ⟨w1.heap.size, 1, none⟩) (by first | assumption | (simp; done) | (simp; omega) | (show _ < _; omega))).trans (by first | assumption | (simp [go_sem]; done) | (rw [World.cell?_alloc_past _ _ _ (by first | assumption | omega)]; first | assumption | (simp [go_sem]; done)) | (simp [go_sem, *]; done))
      have b_w4 := hb
      clear hb
      go_wp2_with fail
      refine (RH.out _).mono ?_
      rintro e w5 ⟨rfl, hb⟩
      have hz := hb.size
      (try simp at hz)
      have g0 : w1.heap.size < w5.heap.size := (by omega)
      have c00 : w5.cell? ⟨w1.heap.size, 0, none⟩ = some (.int .i64 (lo)) := (hb.cell (p := ⟨w1.heap.size, 0, none⟩) (by first | assumption | (simp; done) | (simp; omega) | (show _ < _; omega))).trans (by first | assumption | (simp [go_sem]; done) | (rw [World.cell?_alloc_past _ _ _ (by first | assumption | omega)]; first | assumption | (simp [go_sem]; done)) | (simp [go_sem, *]; done))
      have c01 : w5.cell? ⟨w1.heap.size, 1, none⟩ = some (.int .i64 (hi)) := (hb.cell (p := ⟨w1.heap.size, 1, none⟩) (by first | assumption | (simp; done) | (simp; omega) | (show _ < _; omega))).trans (by first | assumption | (simp [go_sem]; done) | (rw [World.cell?_alloc_past _ _ _ (by first | assumption | omega)]; first | assumption | (simp [go_sem]; done)) | (simp [go_sem, *]; done))
      have g1 : w4.heap.size < w5.heap.size := (by omega)
      have c10 : w5.cell? ⟨w4.heap.size, 0, none⟩ = some (.int .i64 (m1)) := (hb.cell (p := ⟨w4.heap.size, 0, none⟩) (by first | assumption | (simp; done) | (simp; omega) | (show _ < _; omega))).trans (by first | assumption | (simp [go_sem]; done) | (rw [World.cell?_alloc_past _ _ _ (by first | assumption | omega)]; first | assumption | (simp [go_sem]; done)) | (simp [go_sem, *]; done))
      have c11 : w5.cell? ⟨w4.heap.size, 1, none⟩ = some (.int .i64 (m2)) := (hb.cell (p := ⟨w4.heap.size, 1, none⟩) (by first | assumption | (simp; done) | (simp; omega) | (show _ < _; omega))).trans (by first | assumption | (simp [go_sem]; done) | (rw [World.cell?_alloc_past _ _ _ (by first | assumption | omega)]; first | assumption | (simp [go_sem]; done)) | (simp [go_sem, *]; done))
      have b_w5 := hb
      clear hb
      go_wp2_with fail
      refine (RL.out _).mono ?_
      rintro e w6 ⟨rfl, hb⟩
      have hz := hb.size
      (try simp at hz)
      have g0 : w1.heap.size < w6.heap.size := (by omega)
      have c00 : w6.cell? ⟨w1.heap.size, 0, none⟩ = some (.int .i64 (lo)) := (hb.cell (p := ⟨w1.heap.size, 0, none⟩) (by first | assumption | (simp; done) | (simp; omega) | (show _ < _; omega))).trans (by first | assumption | (simp [go_sem]; done) | (rw [World.cell?_alloc_past _ _ _ (by first | assumption | omega)]; first | assumption | (simp [go_sem]; done)) | (simp [go_sem, *]; done))
      have c01 : w6.cell? ⟨w1.heap.size, 1, none⟩ = some (.int .i64 (hi)) := (hb.cell (p := ⟨w1.heap.size, 1, none⟩) (by first | assumption | (simp; done) | (simp; omega) | (show _ < _; omega))).trans (by first | assumption | (simp [go_sem]; done) | (rw [World.cell?_alloc_past _ _ _ (by first | assumption | omega)]; first | assumption | (simp [go_sem]; done)) | (simp [go_sem, *]; done))
      have g1 : w4.heap.size < w6.heap.size := (by omega)
      have c10 : w6.cell? ⟨w4.heap.size, 0, none⟩ = some (.int .i64 (m1)) := (hb.cell (p := ⟨w4.heap.size, 0, none⟩) (by first | assumption | (simp; done) | (simp; omega) | (show _ < _; omega))).trans (by first | assumption | (simp [go_sem]; done) | (rw [World.cell?_alloc_past _ _ _ (by first | assumption | omega)]; first | assumption | (simp [go_sem]; done)) | (simp [go_sem, *]; done))
      have c11 : w6.cell? ⟨w4.heap.size, 1, none⟩ = some (.int .i64 (m2)) := (hb.cell (p := ⟨w4.heap.size, 1, none⟩) (by first | assumption | (simp; done) | (simp; omega) | (show _ < _; omega))).trans (by first | assumption | (simp [go_sem]; done) | (rw [World.cell?_alloc_past _ _ _ (by first | assumption | omega)]; first | assumption | (simp [go_sem]; done)) | (simp [go_sem, *]; done))
      have b_w6 := hb
      clear hb
      go_wp2_with fail
      refine (CN.out _).mono ?_
      rintro e w7 ⟨rfl, hw7⟩
      obtain rfl := hw7.symm
      go_wp2_with fail
      refine (CL.out _).mono ?_
      rintro e w8 ⟨rfl, hb⟩
      have hz := hb.size
      (try simp at hz)
      have g0 : w1.heap.size < w8.heap.size := (by omega)
      have c00 : w8.cell? ⟨w1.heap.size, 0, none⟩ = some (.int .i64 (lo)) := (hb.cell (p := ⟨w1.heap.size, 0, none⟩) (by first | assumption | (simp; done) | (simp; omega) | (show _ < _; omega))).trans (by first | assumption | (simp [go_sem]; done) | (rw [World.cell?_alloc_past _ _ _ (by first | assumption | omega)]; first | assumption | (simp [go_sem]; done)) | (simp [go_sem, *]; done))
      have c01 : w8.cell? ⟨w1.heap.size, 1, none⟩ = some (.int .i64 (hi)) := (hb.cell (p := ⟨w1.heap.size, 1, none⟩) (by first | assumption | (simp; done) | (simp; omega) | (show _ < _; omega))).trans (by first | assumption | (simp [go_sem]; done) | (rw [World.cell?_alloc_past _ _ _ (by first | assumption | omega)]; first | assumption | (simp [go_sem]; done)) | (simp [go_sem, *]; done))
      have g1 : w4.heap.size < w8.heap.size := (by omega)
      have c10 : w8.cell? ⟨w4.heap.size, 0, none⟩ = some (.int .i64 (m1)) := (hb.cell (p := ⟨w4.heap.size, 0, none⟩) (by first | assumption | (simp; done) | (simp; omega) | (show _ < _; omega))).trans (by first | assumption | (simp [go_sem]; done) | (rw [World.cell?_alloc_past _ _ _ (by first | assumption | omega)]; first | assumption | (simp [go_sem]; done)) | (simp [go_sem, *]; done))
      have c11 : w8.cell? ⟨w4.heap.size, 1, none⟩ = some (.int .i64 (m2)) := (hb.cell (p := ⟨w4.heap.size, 1, none⟩) (by first | assumption | (simp; done) | (simp; omega) | (show _ < _; omega))).trans (by first | assumption | (simp [go_sem]; done) | (rw [World.cell?_alloc_past _ _ _ (by first | assumption | omega)]; first | assumption | (simp [go_sem]; done)) | (simp [go_sem, *]; done))
      have b_w8 := hb
      clear hb
      go_wp2_with fail
      refine (CH.out _).mono ?_
      rintro e w9 ⟨rfl, hb⟩
      have hz := hb.size
      (try simp at hz)
      have g0 : w1.heap.size < w9.heap.size := (by omega)
      have c00 : w9.cell? ⟨w1.heap.size, 0, none⟩ = some (.int .i64 (lo)) := (hb.cell (p := ⟨w1.heap.size, 0, none⟩) (by first | assumption | (simp; done) | (simp; omega) | (show _ < _; omega))).trans (by first | assumption | (simp [go_sem]; done) | (rw [World.cell?_alloc_past _ _ _ (by first | assumption | omega)]; first | assumption | (simp [go_sem]; done)) | (simp [go_sem, *]; done))
      have c01 : w9.cell? ⟨w1.heap.size, 1, none⟩ = some (.int .i64 (hi)) := (hb.cell (p := ⟨w1.heap.size, 1, none⟩) (by first | assumption | (simp; done) | (simp; omega) | (show _ < _; omega))).trans (by first | assumption | (simp [go_sem]; done) | (rw [World.cell?_alloc_past _ _ _ (by first | assumption | omega)]; first | assumption | (simp [go_sem]; done)) | (simp [go_sem, *]; done))
      have g1 : w4.heap.size < w9.heap.size := (by omega)
      have c10 : w9.cell? ⟨w4.heap.size, 0, none⟩ = some (.int .i64 (m1)) := (hb.cell (p := ⟨w4.heap.size, 0, none⟩) (by first | assumption | (simp; done) | (simp; omega) | (show _ < _; omega))).trans (by first | assumption | (simp [go_sem]; done) | (rw [World.cell?_alloc_past _ _ _ (by first | assumption | omega)]; first | assumption | (simp [go_sem]; done)) | (simp [go_sem, *]; done))
      have c11 : w9.cell? ⟨w4.heap.size, 1, none⟩ = some (.int .i64 (m2)) := (hb.cell (p := ⟨w4.heap.size, 1, none⟩) (by first | assumption | (simp; done) | (simp; omega) | (show _ < _; omega))).trans (by first | assumption | (simp [go_sem]; done) | (rw [World.cell?_alloc_past _ _ _ (by first | assumption | omega)]; first | assumption | (simp [go_sem]; done)) | (simp [go_sem, *]; done))
      have b_w9 := hb
      clear hb
      go_wp2_with fail
      go_ret
      exact ⟨rfl, (by repeat' first | with_reducible exact Below.refl _ _ | with_reducible assumption | with_reducible refine below_drewN ?_ _ | with_reducible refine balloc ?_ _ | with_reducible refine Below.drew ?_ | with_reducible refine Below.setCell ?_ (by first | (simp; done) | (simp; omega) | omega) _ | with_reducible refine bstep ?_ (by assumption))⟩
  · rw [decide_eq_true (show 1048576 < n by omega)] at BG
    go_enter Try.func3, Try.ntmps3
    go_wp2_with fail
    refine BG.out.mono ?_
    rintro e w' ⟨rfl, rfl⟩
    go_wp2
    go_ret
    exact ⟨rfl, (by repeat' first | with_reducible exact Below.refl _ _ | with_reducible assumption | with_reducible refine below_drewN ?_ _ | with_reducible refine balloc ?_ _ | with_reducible refine Below.drew ?_ | with_reducible refine Below.setCell ?_ (by first | (simp; done) | (simp; omega) | omega) _ | with_reducible refine bstep ?_ (by assumption))⟩
end Go.Proofs.Ytbodiloipeebgaa
