/- The walk of FnNested. -/
import Derived.Test.YtbodiloipeebgaaLH
namespace Go.Proofs.Ytbodiloipeebgaa
open Go.RowKit
set_option linter.unusedSimpArgs false
set_option linter.unusedVariables false

theorem from_scale (lo hi N k i : Int) (hk : 0 < k) : fromN lo hi (N * k) (i * k) = fromN lo hi N i := by
  unfold fromN
  rw [← Int.mul_assoc, Int.mul_ediv_mul_of_pos_left _ _ hk]
theorem from_mono (lo hi N i j : Int) (hN : 0 < N) (hS : lo ≤ hi) (h : i ≤ j) : fromN lo hi N i ≤ fromN lo hi N j := by
  unfold fromN
  have := Int.ediv_le_ediv hN (Int.mul_le_mul_of_nonneg_left h (show 0 ≤ hi - lo + 1 by omega))
  omega
theorem code_scale (lo hi N k x : Int) (hN : 0 < N) (hk : 0 < k) (hS : lo ≤ hi) : codeN lo hi (N * k) x / k = codeN lo hi N x := by
  have key : ∀ q : Int, q ≤ codeN lo hi (N * k) x / k ↔ q ≤ codeN lo hi N x := by
    intro q
    rw [Int.le_ediv_iff_mul_le hk, ← from_le lo hi (N * k) (q * k) x (Int.mul_pos hN hk) hS, from_scale lo hi N k q hk, from_le lo hi N q x hN hS]
  exact Int.le_antisymm ((key _).1 (Int.le_refl _)) ((key _).2 (Int.le_refl _))

/-- A number's cell of a finer tier lies within that of a coarser one. -/
theorem nested (lo hi s t k x : Int) (hr : rightB lo hi = true) (hx0 : lo ≤ x) (hx1 : x ≤ hi) (hs : tierB s = true) (ht : tierB t = true) (hk : 0 < k) (hN : cellsN t = cellsN s * k) :
    codeN lo hi (cellsN t) x / k = codeN lo hi (cellsN s) x ∧
    leqB (cellLo lo hi t (codeN lo hi (cellsN t) x)) (cellHi lo hi t (codeN lo hi (cellsN t) x)) (cellLo lo hi s (codeN lo hi (cellsN s) x)) (cellHi lo hi s (codeN lo hi (cellsN s) x)) = true := by
  obtain ⟨a1, a2, a3, a4, a5⟩ := right_nums hr
  obtain ⟨n0, n1⟩ := cells_pos hs
  obtain ⟨m0, m1⟩ := cells_pos ht
  have hc := code_scale lo hi (cellsN s) k x n0 hk a5
  rw [← hN] at hc
  obtain ⟨c0, c1, cb, k1, k2, e1, e2, l1, l2⟩ := code_cell lo hi t x hr hx0 hx1 ht
  obtain ⟨d0, d1, db, j1, j2, g1, g2, r1, r2⟩ := code_cell lo hi s x hr hx0 hx1 hs
  obtain ⟨_, _, v1, v2, v3⟩ := cell_within cb (by omega)
  obtain ⟨_, _, u1, u2, u3⟩ := cell_within db (by omega)
  refine ⟨hc, ?_⟩
  have p1 : codeN lo hi (cellsN s) x * k ≤ codeN lo hi (cellsN t) x := (Int.le_ediv_iff_mul_le hk).1 (by omega)
  have p2 : codeN lo hi (cellsN t) x < (codeN lo hi (cellsN s) x + 1) * k := (Int.ediv_lt_iff_lt_mul hk).1 (by omega)
  have q1 := from_mono lo hi (cellsN t) _ _ m0 a5 p1
  have q2 := from_mono lo hi (cellsN t) (codeN lo hi (cellsN t) x + 1) _ m0 a5 (show codeN lo hi (cellsN t) x + 1 ≤ (codeN lo hi (cellsN s) x + 1) * k by omega)
  have s1 := from_scale lo hi (cellsN s) k (codeN lo hi (cellsN s) x) hk
  have s2 := from_scale lo hi (cellsN s) k (codeN lo hi (cellsN s) x + 1) hk
  rw [← hN] at s1 s2
  simp only [leqB, rightB, compB, Bool.and_eq_true, decide_eq_true_eq]
  omega

set_option maxHeartbeats 4000000 in
set_option maxRecDepth 4000 in
theorem nested_walk (a : Option Addr) (n cap : Nat) (zs : List Int) (w : World) (h : IsRow .u8 w a n cap zs) :
    Calls Try.prog 6 #[.slice a n cap] w fun e w' => e = .returned (.bool true) ∧ Below w.heap.size w w' := by
  have BG := hide (big_any a n cap w)
  by_cases hn : n ≤ 1048576
  · rw [decide_eq_false (show ¬ 1048576 < n by omega)] at BG
    have DR := hide (drawRangeHas_any a n cap w (h.code hn))
    clear h
    go_enter Try.func6, Try.ntmps6
    go_wp2_with fail
    refine BG.out.mono ?_
    rintro e w' ⟨rfl, hw⟩
    obtain rfl := hw.symm
    clear BG hw
    go_wp2_with fail
    refine DR.out.mono ?_
    rintro e w1 ⟨lo, hi, x, rfl, hb1⟩
    clear DR
    have I1 := hide (iCodeOf_any lo hi 1 x)
    have I2 := hide (iCodeOf_any lo hi 2 x)
    have I3 := hide (iCodeOf_any lo hi 3 x)
    have S1 := hide (sCodeOf_any lo hi 1 x)
    have S2 := hide (sCodeOf_any lo hi 2 x)
    have S3 := hide (sCodeOf_any lo hi 3 x)
    cases hh : hasB lo hi x
    · rw [show codeB lo hi 1 x = -1 from by unfold codeB; rw [hh]; rfl] at I1 S1
      rw [show codeB lo hi 2 x = -1 from by unfold codeB; rw [hh]; rfl] at I2 S2
      rw [show codeB lo hi 3 x = -1 from by unfold codeB; rw [hh]; rfl] at I3 S3
      go_wp2_with fail
      refine (I1.out _).mono ?_
      rintro e w2 ⟨rfl, hb⟩
      have hz := hb.size
      (try simp at hz)
      have g0 : w1.heap.size < w2.heap.size := (by omega)
      have c00 : w2.cell? ⟨w1.heap.size, 0, none⟩ = some (.int .i64 (lo)) := (hb.cell (p := ⟨w1.heap.size, 0, none⟩) (by first | assumption | (simp; done) | (simp; omega) | (show _ < _; omega))).trans (by first | assumption | (simp [go_sem]; done) | (rw [World.cell?_alloc_past _ _ _ (by first | assumption | omega)]; first | assumption | (simp [go_sem]; done)) | (simp [go_sem, *]; done))
      have c01 : w2.cell? ⟨w1.heap.size, 1, none⟩ = some (.int .i64 (hi)) := (hb.cell (p := ⟨w1.heap.size, 1, none⟩) (by first | assumption | (simp; done) | (simp; omega) | (show _ < _; omega))).trans (by first | assumption | (simp [go_sem]; done) | (rw [World.cell?_alloc_past _ _ _ (by first | assumption | omega)]; first | assumption | (simp [go_sem]; done)) | (simp [go_sem, *]; done))
      have b_w2 := hb
      clear hb
      go_wp2_with fail
      refine (I2.out _).mono ?_
      rintro e w3 ⟨rfl, hb⟩
      have hz := hb.size
      (try simp at hz)
      have g0 : w1.heap.size < w3.heap.size := (by omega)
      have c00 : w3.cell? ⟨w1.heap.size, 0, none⟩ = some (.int .i64 (lo)) := (hb.cell (p := ⟨w1.heap.size, 0, none⟩) (by first | assumption | (simp; done) | (simp; omega) | (show _ < _; omega))).trans (by first | assumption | (simp [go_sem]; done) | (rw [World.cell?_alloc_past _ _ _ (by first | assumption | omega)]; first | assumption | (simp [go_sem]; done)) | (simp [go_sem, *]; done))
      have c01 : w3.cell? ⟨w1.heap.size, 1, none⟩ = some (.int .i64 (hi)) := (hb.cell (p := ⟨w1.heap.size, 1, none⟩) (by first | assumption | (simp; done) | (simp; omega) | (show _ < _; omega))).trans (by first | assumption | (simp [go_sem]; done) | (rw [World.cell?_alloc_past _ _ _ (by first | assumption | omega)]; first | assumption | (simp [go_sem]; done)) | (simp [go_sem, *]; done))
      have b_w3 := hb
      clear hb
      go_wp2_with fail
      refine (I3.out _).mono ?_
      rintro e w4 ⟨rfl, hb⟩
      have hz := hb.size
      (try simp at hz)
      have g0 : w1.heap.size < w4.heap.size := (by omega)
      have c00 : w4.cell? ⟨w1.heap.size, 0, none⟩ = some (.int .i64 (lo)) := (hb.cell (p := ⟨w1.heap.size, 0, none⟩) (by first | assumption | (simp; done) | (simp; omega) | (show _ < _; omega))).trans (by first | assumption | (simp [go_sem]; done) | (rw [World.cell?_alloc_past _ _ _ (by first | assumption | omega)]; first | assumption | (simp [go_sem]; done)) | (simp [go_sem, *]; done))
      have c01 : w4.cell? ⟨w1.heap.size, 1, none⟩ = some (.int .i64 (hi)) := (hb.cell (p := ⟨w1.heap.size, 1, none⟩) (by first | assumption | (simp; done) | (simp; omega) | (show _ < _; omega))).trans (by first | assumption | (simp [go_sem]; done) | (rw [World.cell?_alloc_past _ _ _ (by first | assumption | omega)]; first | assumption | (simp [go_sem]; done)) | (simp [go_sem, *]; done))
      have b_w4 := hb
      clear hb
      go_wp2_with fail
      refine (S1.out _).mono ?_
      rintro e w5 ⟨rfl, hb⟩
      have hz := hb.size
      (try simp at hz)
      have g0 : w1.heap.size < w5.heap.size := (by omega)
      have c00 : w5.cell? ⟨w1.heap.size, 0, none⟩ = some (.int .i64 (lo)) := (hb.cell (p := ⟨w1.heap.size, 0, none⟩) (by first | assumption | (simp; done) | (simp; omega) | (show _ < _; omega))).trans (by first | assumption | (simp [go_sem]; done) | (rw [World.cell?_alloc_past _ _ _ (by first | assumption | omega)]; first | assumption | (simp [go_sem]; done)) | (simp [go_sem, *]; done))
      have c01 : w5.cell? ⟨w1.heap.size, 1, none⟩ = some (.int .i64 (hi)) := (hb.cell (p := ⟨w1.heap.size, 1, none⟩) (by first | assumption | (simp; done) | (simp; omega) | (show _ < _; omega))).trans (by first | assumption | (simp [go_sem]; done) | (rw [World.cell?_alloc_past _ _ _ (by first | assumption | omega)]; first | assumption | (simp [go_sem]; done)) | (simp [go_sem, *]; done))
      have b_w5 := hb
      clear hb
      go_wp2_with fail
      refine (S2.out _).mono ?_
      rintro e w6 ⟨rfl, hb⟩
      have hz := hb.size
      (try simp at hz)
      have g0 : w1.heap.size < w6.heap.size := (by omega)
      have c00 : w6.cell? ⟨w1.heap.size, 0, none⟩ = some (.int .i64 (lo)) := (hb.cell (p := ⟨w1.heap.size, 0, none⟩) (by first | assumption | (simp; done) | (simp; omega) | (show _ < _; omega))).trans (by first | assumption | (simp [go_sem]; done) | (rw [World.cell?_alloc_past _ _ _ (by first | assumption | omega)]; first | assumption | (simp [go_sem]; done)) | (simp [go_sem, *]; done))
      have c01 : w6.cell? ⟨w1.heap.size, 1, none⟩ = some (.int .i64 (hi)) := (hb.cell (p := ⟨w1.heap.size, 1, none⟩) (by first | assumption | (simp; done) | (simp; omega) | (show _ < _; omega))).trans (by first | assumption | (simp [go_sem]; done) | (rw [World.cell?_alloc_past _ _ _ (by first | assumption | omega)]; first | assumption | (simp [go_sem]; done)) | (simp [go_sem, *]; done))
      have b_w6 := hb
      clear hb
      go_wp2_with fail
      refine (S3.out _).mono ?_
      rintro e w7 ⟨rfl, hb⟩
      have hz := hb.size
      (try simp at hz)
      have g0 : w1.heap.size < w7.heap.size := (by omega)
      have c00 : w7.cell? ⟨w1.heap.size, 0, none⟩ = some (.int .i64 (lo)) := (hb.cell (p := ⟨w1.heap.size, 0, none⟩) (by first | assumption | (simp; done) | (simp; omega) | (show _ < _; omega))).trans (by first | assumption | (simp [go_sem]; done) | (rw [World.cell?_alloc_past _ _ _ (by first | assumption | omega)]; first | assumption | (simp [go_sem]; done)) | (simp [go_sem, *]; done))
      have c01 : w7.cell? ⟨w1.heap.size, 1, none⟩ = some (.int .i64 (hi)) := (hb.cell (p := ⟨w1.heap.size, 1, none⟩) (by first | assumption | (simp; done) | (simp; omega) | (show _ < _; omega))).trans (by first | assumption | (simp [go_sem]; done) | (rw [World.cell?_alloc_past _ _ _ (by first | assumption | omega)]; first | assumption | (simp [go_sem]; done)) | (simp [go_sem, *]; done))
      have b_w7 := hb
      clear hb
      go_wp2_with fail
      refine (S1.out _).mono ?_
      rintro e w8 ⟨rfl, hb⟩
      have hz := hb.size
      (try simp at hz)
      have g0 : w1.heap.size < w8.heap.size := (by omega)
      have c00 : w8.cell? ⟨w1.heap.size, 0, none⟩ = some (.int .i64 (lo)) := (hb.cell (p := ⟨w1.heap.size, 0, none⟩) (by first | assumption | (simp; done) | (simp; omega) | (show _ < _; omega))).trans (by first | assumption | (simp [go_sem]; done) | (rw [World.cell?_alloc_past _ _ _ (by first | assumption | omega)]; first | assumption | (simp [go_sem]; done)) | (simp [go_sem, *]; done))
      have c01 : w8.cell? ⟨w1.heap.size, 1, none⟩ = some (.int .i64 (hi)) := (hb.cell (p := ⟨w1.heap.size, 1, none⟩) (by first | assumption | (simp; done) | (simp; omega) | (show _ < _; omega))).trans (by first | assumption | (simp [go_sem]; done) | (rw [World.cell?_alloc_past _ _ _ (by first | assumption | omega)]; first | assumption | (simp [go_sem]; done)) | (simp [go_sem, *]; done))
      have b_w8 := hb
      clear hb
      go_wp2_with fail
      refine (S2.out _).mono ?_
      rintro e w9 ⟨rfl, hb⟩
      have hz := hb.size
      (try simp at hz)
      have g0 : w1.heap.size < w9.heap.size := (by omega)
      have c00 : w9.cell? ⟨w1.heap.size, 0, none⟩ = some (.int .i64 (lo)) := (hb.cell (p := ⟨w1.heap.size, 0, none⟩) (by first | assumption | (simp; done) | (simp; omega) | (show _ < _; omega))).trans (by first | assumption | (simp [go_sem]; done) | (rw [World.cell?_alloc_past _ _ _ (by first | assumption | omega)]; first | assumption | (simp [go_sem]; done)) | (simp [go_sem, *]; done))
      have c01 : w9.cell? ⟨w1.heap.size, 1, none⟩ = some (.int .i64 (hi)) := (hb.cell (p := ⟨w1.heap.size, 1, none⟩) (by first | assumption | (simp; done) | (simp; omega) | (show _ < _; omega))).trans (by first | assumption | (simp [go_sem]; done) | (rw [World.cell?_alloc_past _ _ _ (by first | assumption | omega)]; first | assumption | (simp [go_sem]; done)) | (simp [go_sem, *]; done))
      have b_w9 := hb
      clear hb
      go_wp2_with fail
      refine (S3.out _).mono ?_
      rintro e w10 ⟨rfl, hb⟩
      have hz := hb.size
      (try simp at hz)
      have g0 : w1.heap.size < w10.heap.size := (by omega)
      have c00 : w10.cell? ⟨w1.heap.size, 0, none⟩ = some (.int .i64 (lo)) := (hb.cell (p := ⟨w1.heap.size, 0, none⟩) (by first | assumption | (simp; done) | (simp; omega) | (show _ < _; omega))).trans (by first | assumption | (simp [go_sem]; done) | (rw [World.cell?_alloc_past _ _ _ (by first | assumption | omega)]; first | assumption | (simp [go_sem]; done)) | (simp [go_sem, *]; done))
      have c01 : w10.cell? ⟨w1.heap.size, 1, none⟩ = some (.int .i64 (hi)) := (hb.cell (p := ⟨w1.heap.size, 1, none⟩) (by first | assumption | (simp; done) | (simp; omega) | (show _ < _; omega))).trans (by first | assumption | (simp [go_sem]; done) | (rw [World.cell?_alloc_past _ _ _ (by first | assumption | omega)]; first | assumption | (simp [go_sem]; done)) | (simp [go_sem, *]; done))
      have b_w10 := hb
      clear hb
      go_wp2_with fail
      go_ret
      exact ⟨rfl, (by repeat' first | with_reducible exact Below.refl _ _ | with_reducible assumption | with_reducible refine below_drewN ?_ _ | with_reducible refine balloc ?_ _ | with_reducible refine Below.drew ?_ | with_reducible refine Below.setCell ?_ (by first | (simp; done) | (simp; omega) | omega) _ | with_reducible refine bstep ?_ (by assumption))⟩
    · rw [show codeB lo hi 1 x = codeN lo hi (cellsN 1) x from by unfold codeB; rw [hh]; rfl] at I1 S1
      rw [show codeB lo hi 2 x = codeN lo hi (cellsN 2) x from by unfold codeB; rw [hh]; rfl] at I2 S2
      rw [show codeB lo hi 3 x = codeN lo hi (cellsN 3) x from by unfold codeB; rw [hh]; rfl] at I3 S3
      have hr : rightB lo hi = true := by simp only [hasB, Bool.and_eq_true] at hh; exact hh.1
      have hx : lo ≤ x ∧ x ≤ hi := by simp only [hasB, inB, Bool.and_eq_true, decide_eq_true_eq] at hh; exact hh.2
      obtain ⟨c10, c11, cb1, _⟩ := code_cell lo hi 1 x hr hx.1 hx.2 rfl
      obtain ⟨c20, c21, cb2, _⟩ := code_cell lo hi 2 x hr hx.1 hx.2 rfl
      obtain ⟨c30, c31, cb3, _⟩ := code_cell lo hi 3 x hr hx.1 hx.2 rfl
      obtain ⟨n1, n2⟩ := nested lo hi 1 2 8 x hr hx.1 hx.2 rfl rfl (by omega) rfl
      obtain ⟨n3, n4⟩ := nested lo hi 2 3 16 x hr hx.1 hx.2 rfl rfl (by omega) rfl
      have E1 := hide (iCellOf_any lo hi 1 (codeN lo hi (cellsN 1) x))
      have E2 := hide (iCellOf_any lo hi 2 (codeN lo hi (cellsN 2) x))
      have E3 := hide (iCellOf_any lo hi 3 (codeN lo hi (cellsN 3) x))
      unfold cellT at E1 E2 E3
      rw [cb1] at E1
      rw [cb2] at E2
      rw [cb3] at E3
      have L1 := hide (iRangeLeq_any (cellLo lo hi 2 (codeN lo hi (cellsN 2) x)) (cellHi lo hi 2 (codeN lo hi (cellsN 2) x)) (cellLo lo hi 1 (codeN lo hi (cellsN 1) x)) (cellHi lo hi 1 (codeN lo hi (cellsN 1) x)))
      have L2 := hide (iRangeLeq_any (cellLo lo hi 3 (codeN lo hi (cellsN 3) x)) (cellHi lo hi 3 (codeN lo hi (cellsN 3) x)) (cellLo lo hi 2 (codeN lo hi (cellsN 2) x)) (cellHi lo hi 2 (codeN lo hi (cellsN 2) x)))
      rw [n2] at L1
      rw [n4] at L2
      generalize cellLo lo hi 1 (codeN lo hi (cellsN 1) x) = p1 at E1 L1
      generalize cellHi lo hi 1 (codeN lo hi (cellsN 1) x) = p2 at E1 L1
      generalize cellLo lo hi 2 (codeN lo hi (cellsN 2) x) = q1 at E2 L1 L2
      generalize cellHi lo hi 2 (codeN lo hi (cellsN 2) x) = q2 at E2 L1 L2
      generalize cellLo lo hi 3 (codeN lo hi (cellsN 3) x) = r1 at E3 L2
      generalize cellHi lo hi 3 (codeN lo hi (cellsN 3) x) = r2 at E3 L2
      clear n2 n4 cb1 cb2 cb3 hh hr
      have b1 : codeN lo hi (cellsN 1) x < 2 := c11
      have b2 : codeN lo hi (cellsN 2) x < 16 := c21
      have b3 : codeN lo hi (cellsN 3) x < 256 := c31
      clear c11 c21 c31
      generalize codeN lo hi (cellsN 1) x = ca at I1 S1 E1 c10 n1 b1
      generalize codeN lo hi (cellsN 2) x = cb at I2 S2 E2 c20 n1 n3 b2
      generalize codeN lo hi (cellsN 3) x = cc at I3 S3 E3 c30 n3 b3
      have t1 : (ca != ca) = false := by simp
      have t2 : (cb != cb) = false := by simp
      have t3 : (cc != cc) = false := by simp
      have t4 : ¬ ca < 0 := by omega
      go_wp2_with fail
      refine (I1.out _).mono ?_
      rintro e w2 ⟨rfl, hb⟩
      have hz := hb.size
      (try simp at hz)
      have g0 : w1.heap.size < w2.heap.size := (by omega)
      have c00 : w2.cell? ⟨w1.heap.size, 0, none⟩ = some (.int .i64 (lo)) := (hb.cell (p := ⟨w1.heap.size, 0, none⟩) (by first | assumption | (simp; done) | (simp; omega) | (show _ < _; omega))).trans (by first | assumption | (simp [go_sem]; done) | (rw [World.cell?_alloc_past _ _ _ (by first | assumption | omega)]; first | assumption | (simp [go_sem]; done)) | (simp [go_sem, *]; done))
      have c01 : w2.cell? ⟨w1.heap.size, 1, none⟩ = some (.int .i64 (hi)) := (hb.cell (p := ⟨w1.heap.size, 1, none⟩) (by first | assumption | (simp; done) | (simp; omega) | (show _ < _; omega))).trans (by first | assumption | (simp [go_sem]; done) | (rw [World.cell?_alloc_past _ _ _ (by first | assumption | omega)]; first | assumption | (simp [go_sem]; done)) | (simp [go_sem, *]; done))
      have b_w2 := hb
      clear hb
      go_wp2_with fail
      refine (I2.out _).mono ?_
      rintro e w3 ⟨rfl, hb⟩
      have hz := hb.size
      (try simp at hz)
      have g0 : w1.heap.size < w3.heap.size := (by omega)
      have c00 : w3.cell? ⟨w1.heap.size, 0, none⟩ = some (.int .i64 (lo)) := (hb.cell (p := ⟨w1.heap.size, 0, none⟩) (by first | assumption | (simp; done) | (simp; omega) | (show _ < _; omega))).trans (by first | assumption | (simp [go_sem]; done) | (rw [World.cell?_alloc_past _ _ _ (by first | assumption | omega)]; first | assumption | (simp [go_sem]; done)) | (simp [go_sem, *]; done))
      have c01 : w3.cell? ⟨w1.heap.size, 1, none⟩ = some (.int .i64 (hi)) := (hb.cell (p := ⟨w1.heap.size, 1, none⟩) (by first | assumption | (simp; done) | (simp; omega) | (show _ < _; omega))).trans (by first | assumption | (simp [go_sem]; done) | (rw [World.cell?_alloc_past _ _ _ (by first | assumption | omega)]; first | assumption | (simp [go_sem]; done)) | (simp [go_sem, *]; done))
      have b_w3 := hb
      clear hb
      go_wp2_with fail
      refine (I3.out _).mono ?_
      rintro e w4 ⟨rfl, hb⟩
      have hz := hb.size
      (try simp at hz)
      have g0 : w1.heap.size < w4.heap.size := (by omega)
      have c00 : w4.cell? ⟨w1.heap.size, 0, none⟩ = some (.int .i64 (lo)) := (hb.cell (p := ⟨w1.heap.size, 0, none⟩) (by first | assumption | (simp; done) | (simp; omega) | (show _ < _; omega))).trans (by first | assumption | (simp [go_sem]; done) | (rw [World.cell?_alloc_past _ _ _ (by first | assumption | omega)]; first | assumption | (simp [go_sem]; done)) | (simp [go_sem, *]; done))
      have c01 : w4.cell? ⟨w1.heap.size, 1, none⟩ = some (.int .i64 (hi)) := (hb.cell (p := ⟨w1.heap.size, 1, none⟩) (by first | assumption | (simp; done) | (simp; omega) | (show _ < _; omega))).trans (by first | assumption | (simp [go_sem]; done) | (rw [World.cell?_alloc_past _ _ _ (by first | assumption | omega)]; first | assumption | (simp [go_sem]; done)) | (simp [go_sem, *]; done))
      have b_w4 := hb
      clear hb
      go_wp2_with fail
      refine (S1.out _).mono ?_
      rintro e w5 ⟨rfl, hb⟩
      have hz := hb.size
      (try simp at hz)
      have g0 : w1.heap.size < w5.heap.size := (by omega)
      have c00 : w5.cell? ⟨w1.heap.size, 0, none⟩ = some (.int .i64 (lo)) := (hb.cell (p := ⟨w1.heap.size, 0, none⟩) (by first | assumption | (simp; done) | (simp; omega) | (show _ < _; omega))).trans (by first | assumption | (simp [go_sem]; done) | (rw [World.cell?_alloc_past _ _ _ (by first | assumption | omega)]; first | assumption | (simp [go_sem]; done)) | (simp [go_sem, *]; done))
      have c01 : w5.cell? ⟨w1.heap.size, 1, none⟩ = some (.int .i64 (hi)) := (hb.cell (p := ⟨w1.heap.size, 1, none⟩) (by first | assumption | (simp; done) | (simp; omega) | (show _ < _; omega))).trans (by first | assumption | (simp [go_sem]; done) | (rw [World.cell?_alloc_past _ _ _ (by first | assumption | omega)]; first | assumption | (simp [go_sem]; done)) | (simp [go_sem, *]; done))
      have b_w5 := hb
      clear hb
      go_wp2_with fail
      refine (S2.out _).mono ?_
      rintro e w6 ⟨rfl, hb⟩
      have hz := hb.size
      (try simp at hz)
      have g0 : w1.heap.size < w6.heap.size := (by omega)
      have c00 : w6.cell? ⟨w1.heap.size, 0, none⟩ = some (.int .i64 (lo)) := (hb.cell (p := ⟨w1.heap.size, 0, none⟩) (by first | assumption | (simp; done) | (simp; omega) | (show _ < _; omega))).trans (by first | assumption | (simp [go_sem]; done) | (rw [World.cell?_alloc_past _ _ _ (by first | assumption | omega)]; first | assumption | (simp [go_sem]; done)) | (simp [go_sem, *]; done))
      have c01 : w6.cell? ⟨w1.heap.size, 1, none⟩ = some (.int .i64 (hi)) := (hb.cell (p := ⟨w1.heap.size, 1, none⟩) (by first | assumption | (simp; done) | (simp; omega) | (show _ < _; omega))).trans (by first | assumption | (simp [go_sem]; done) | (rw [World.cell?_alloc_past _ _ _ (by first | assumption | omega)]; first | assumption | (simp [go_sem]; done)) | (simp [go_sem, *]; done))
      have b_w6 := hb
      clear hb
      go_wp2_with fail
      refine (S3.out _).mono ?_
      rintro e w7 ⟨rfl, hb⟩
      have hz := hb.size
      (try simp at hz)
      have g0 : w1.heap.size < w7.heap.size := (by omega)
      have c00 : w7.cell? ⟨w1.heap.size, 0, none⟩ = some (.int .i64 (lo)) := (hb.cell (p := ⟨w1.heap.size, 0, none⟩) (by first | assumption | (simp; done) | (simp; omega) | (show _ < _; omega))).trans (by first | assumption | (simp [go_sem]; done) | (rw [World.cell?_alloc_past _ _ _ (by first | assumption | omega)]; first | assumption | (simp [go_sem]; done)) | (simp [go_sem, *]; done))
      have c01 : w7.cell? ⟨w1.heap.size, 1, none⟩ = some (.int .i64 (hi)) := (hb.cell (p := ⟨w1.heap.size, 1, none⟩) (by first | assumption | (simp; done) | (simp; omega) | (show _ < _; omega))).trans (by first | assumption | (simp [go_sem]; done) | (rw [World.cell?_alloc_past _ _ _ (by first | assumption | omega)]; first | assumption | (simp [go_sem]; done)) | (simp [go_sem, *]; done))
      have b_w7 := hb
      clear hb
      go_wp2_with fail
      refine (E1.out _).mono ?_
      rintro e w8 ⟨rfl, hb⟩
      have hz := hb.size
      (try simp at hz)
      have g0 : w1.heap.size < w8.heap.size := (by omega)
      have c00 : w8.cell? ⟨w1.heap.size, 0, none⟩ = some (.int .i64 (lo)) := (hb.cell (p := ⟨w1.heap.size, 0, none⟩) (by first | assumption | (simp; done) | (simp; omega) | (show _ < _; omega))).trans (by first | assumption | (simp [go_sem]; done) | (rw [World.cell?_alloc_past _ _ _ (by first | assumption | omega)]; first | assumption | (simp [go_sem]; done)) | (simp [go_sem, *]; done))
      have c01 : w8.cell? ⟨w1.heap.size, 1, none⟩ = some (.int .i64 (hi)) := (hb.cell (p := ⟨w1.heap.size, 1, none⟩) (by first | assumption | (simp; done) | (simp; omega) | (show _ < _; omega))).trans (by first | assumption | (simp [go_sem]; done) | (rw [World.cell?_alloc_past _ _ _ (by first | assumption | omega)]; first | assumption | (simp [go_sem]; done)) | (simp [go_sem, *]; done))
      have b_w8 := hb
      clear hb
      go_wp2_with fail
      refine (E2.out _).mono ?_
      rintro e w9 ⟨rfl, hb⟩
      have hz := hb.size
      (try simp at hz)
      have g0 : w1.heap.size < w9.heap.size := (by omega)
      have c00 : w9.cell? ⟨w1.heap.size, 0, none⟩ = some (.int .i64 (lo)) := (hb.cell (p := ⟨w1.heap.size, 0, none⟩) (by first | assumption | (simp; done) | (simp; omega) | (show _ < _; omega))).trans (by first | assumption | (simp [go_sem]; done) | (rw [World.cell?_alloc_past _ _ _ (by first | assumption | omega)]; first | assumption | (simp [go_sem]; done)) | (simp [go_sem, *]; done))
      have c01 : w9.cell? ⟨w1.heap.size, 1, none⟩ = some (.int .i64 (hi)) := (hb.cell (p := ⟨w1.heap.size, 1, none⟩) (by first | assumption | (simp; done) | (simp; omega) | (show _ < _; omega))).trans (by first | assumption | (simp [go_sem]; done) | (rw [World.cell?_alloc_past _ _ _ (by first | assumption | omega)]; first | assumption | (simp [go_sem]; done)) | (simp [go_sem, *]; done))
      have g1 : w8.heap.size < w9.heap.size := (by omega)
      have c10 : w9.cell? ⟨w8.heap.size, 0, none⟩ = some (.int .i64 (p1)) := (hb.cell (p := ⟨w8.heap.size, 0, none⟩) (by first | assumption | (simp; done) | (simp; omega) | (show _ < _; omega))).trans (by first | assumption | (simp [go_sem]; done) | (rw [World.cell?_alloc_past _ _ _ (by first | assumption | omega)]; first | assumption | (simp [go_sem]; done)) | (simp [go_sem, *]; done))
      have c11 : w9.cell? ⟨w8.heap.size, 1, none⟩ = some (.int .i64 (p2)) := (hb.cell (p := ⟨w8.heap.size, 1, none⟩) (by first | assumption | (simp; done) | (simp; omega) | (show _ < _; omega))).trans (by first | assumption | (simp [go_sem]; done) | (rw [World.cell?_alloc_past _ _ _ (by first | assumption | omega)]; first | assumption | (simp [go_sem]; done)) | (simp [go_sem, *]; done))
      have b_w9 := hb
      clear hb
      go_wp2_with fail
      refine (E3.out _).mono ?_
      rintro e w10 ⟨rfl, hb⟩
      have hz := hb.size
      (try simp at hz)
      have g0 : w8.heap.size < w10.heap.size := (by omega)
      have c00 : w10.cell? ⟨w8.heap.size, 0, none⟩ = some (.int .i64 (p1)) := (hb.cell (p := ⟨w8.heap.size, 0, none⟩) (by first | assumption | (simp; done) | (simp; omega) | (show _ < _; omega))).trans (by first | assumption | (simp [go_sem]; done) | (rw [World.cell?_alloc_past _ _ _ (by first | assumption | omega)]; first | assumption | (simp [go_sem]; done)) | (simp [go_sem, *]; done))
      have c01 : w10.cell? ⟨w8.heap.size, 1, none⟩ = some (.int .i64 (p2)) := (hb.cell (p := ⟨w8.heap.size, 1, none⟩) (by first | assumption | (simp; done) | (simp; omega) | (show _ < _; omega))).trans (by first | assumption | (simp [go_sem]; done) | (rw [World.cell?_alloc_past _ _ _ (by first | assumption | omega)]; first | assumption | (simp [go_sem]; done)) | (simp [go_sem, *]; done))
      have g1 : w9.heap.size < w10.heap.size := (by omega)
      have c10 : w10.cell? ⟨w9.heap.size, 0, none⟩ = some (.int .i64 (q1)) := (hb.cell (p := ⟨w9.heap.size, 0, none⟩) (by first | assumption | (simp; done) | (simp; omega) | (show _ < _; omega))).trans (by first | assumption | (simp [go_sem]; done) | (rw [World.cell?_alloc_past _ _ _ (by first | assumption | omega)]; first | assumption | (simp [go_sem]; done)) | (simp [go_sem, *]; done))
      have c11 : w10.cell? ⟨w9.heap.size, 1, none⟩ = some (.int .i64 (q2)) := (hb.cell (p := ⟨w9.heap.size, 1, none⟩) (by first | assumption | (simp; done) | (simp; omega) | (show _ < _; omega))).trans (by first | assumption | (simp [go_sem]; done) | (rw [World.cell?_alloc_past _ _ _ (by first | assumption | omega)]; first | assumption | (simp [go_sem]; done)) | (simp [go_sem, *]; done))
      have b_w10 := hb
      clear hb
      go_wp2_with fail
      refine (L1.out _).mono ?_
      rintro e w11 ⟨rfl, hb⟩
      have hz := hb.size
      (try simp at hz)
      have g0 : w9.heap.size < w11.heap.size := (by omega)
      have c00 : w11.cell? ⟨w9.heap.size, 0, none⟩ = some (.int .i64 (q1)) := (hb.cell (p := ⟨w9.heap.size, 0, none⟩) (by first | assumption | (simp; done) | (simp; omega) | (show _ < _; omega))).trans (by first | assumption | (simp [go_sem]; done) | (rw [World.cell?_alloc_past _ _ _ (by first | assumption | omega)]; first | assumption | (simp [go_sem]; done)) | (simp [go_sem, *]; done))
      have c01 : w11.cell? ⟨w9.heap.size, 1, none⟩ = some (.int .i64 (q2)) := (hb.cell (p := ⟨w9.heap.size, 1, none⟩) (by first | assumption | (simp; done) | (simp; omega) | (show _ < _; omega))).trans (by first | assumption | (simp [go_sem]; done) | (rw [World.cell?_alloc_past _ _ _ (by first | assumption | omega)]; first | assumption | (simp [go_sem]; done)) | (simp [go_sem, *]; done))
      have g1 : w10.heap.size < w11.heap.size := (by omega)
      have c10 : w11.cell? ⟨w10.heap.size, 0, none⟩ = some (.int .i64 (r1)) := (hb.cell (p := ⟨w10.heap.size, 0, none⟩) (by first | assumption | (simp; done) | (simp; omega) | (show _ < _; omega))).trans (by first | assumption | (simp [go_sem]; done) | (rw [World.cell?_alloc_past _ _ _ (by first | assumption | omega)]; first | assumption | (simp [go_sem]; done)) | (simp [go_sem, *]; done))
      have c11 : w11.cell? ⟨w10.heap.size, 1, none⟩ = some (.int .i64 (r2)) := (hb.cell (p := ⟨w10.heap.size, 1, none⟩) (by first | assumption | (simp; done) | (simp; omega) | (show _ < _; omega))).trans (by first | assumption | (simp [go_sem]; done) | (rw [World.cell?_alloc_past _ _ _ (by first | assumption | omega)]; first | assumption | (simp [go_sem]; done)) | (simp [go_sem, *]; done))
      have b_w11 := hb
      clear hb
      go_wp2_with fail
      refine (L2.out _).mono ?_
      rintro e w12 ⟨rfl, hb⟩
      have hz := hb.size
      (try simp at hz)
      have b_w12 := hb
      clear hb
      go_wp2_with fail
      go_ret
      exact ⟨rfl, (by repeat' first | with_reducible exact Below.refl _ _ | with_reducible assumption | with_reducible refine below_drewN ?_ _ | with_reducible refine balloc ?_ _ | with_reducible refine Below.drew ?_ | with_reducible refine Below.setCell ?_ (by first | (simp; done) | (simp; omega) | omega) _ | with_reducible refine bstep ?_ (by assumption))⟩
  · rw [decide_eq_true (show 1048576 < n by omega)] at BG
    go_enter Try.func6, Try.ntmps6
    go_wp2_with fail
    refine BG.out.mono ?_
    rintro e w' ⟨rfl, rfl⟩
    go_wp2
    go_ret
    exact ⟨rfl, (by repeat' first | with_reducible exact Below.refl _ _ | with_reducible assumption | with_reducible refine below_drewN ?_ _ | with_reducible refine balloc ?_ _ | with_reducible refine Below.drew ?_ | with_reducible refine Below.setCell ?_ (by first | (simp; done) | (simp; omega) | omega) _ | with_reducible refine bstep ?_ (by assumption))⟩
end Go.Proofs.Ytbodiloipeebgaa
