/- The walk of FnFiner. -/
import Derived.Test.YtadedoogcdaimaaLK
namespace Go.Proofs.Ytadedoogcdaimaa
open Go.RowKit
set_option linter.unusedSimpArgs false
set_option linter.unusedVariables false

/-- What the finer cells of a cell begin and end with. -/
theorem finer_ends {lo hi c f t : Int} (h : finerB lo hi c f t = true) :
    cellB lo hi f c = true ∧
    cellB lo hi t (codeN lo hi (cellsN t) (cellLo lo hi f c)) = true ∧ cellLo lo hi t (codeN lo hi (cellsN t) (cellLo lo hi f c)) = cellLo lo hi f c ∧
    cellB lo hi t (codeN lo hi (cellsN t) (cellHi lo hi f c)) = true ∧ cellHi lo hi t (codeN lo hi (cellsN t) (cellHi lo hi f c)) = cellHi lo hi f c ∧
    codeN lo hi (cellsN t) (cellLo lo hi f c) ≤ codeN lo hi (cellsN t) (cellHi lo hi f c) := by
  simp only [finerB, Bool.and_eq_true, Bool.not_eq_true', decide_eq_false_iff_not, decide_eq_true_eq] at h
  obtain ⟨⟨⟨hb, hc⟩, ht⟩, hft⟩ := h
  obtain ⟨hr, hf, c0, c1, l1, l2⟩ := cell_nums hb hc
  obtain ⟨_, _, v1, v2, v3⟩ := cell_within hb hc
  obtain ⟨a1, a2, a3, a4, a5⟩ := right_nums hr
  obtain ⟨n0, n1⟩ := cells_pos ht
  obtain ⟨k, hk, hN⟩ : ∃ k : Int, 0 < k ∧ cellsN t = cellsN f * k := by
    rcases tier_cases hf with rfl | rfl | rfl <;> rcases tier_cases ht with rfl | rfl | rfl
    all_goals first | exact ⟨1, by decide, rfl⟩ | exact ⟨8, by decide, rfl⟩ | exact ⟨128, by decide, rfl⟩ | exact ⟨16, by decide, rfl⟩ | omega
  have F := fun i y => from_le lo hi (cellsN t) i y n0 a5
  have s1 := from_scale lo hi (cellsN f) k c hk
  have s2 := from_scale lo hi (cellsN f) k (c + 1) hk
  rw [← hN] at s1 s2
  obtain ⟨d0, d1, db, k1, k2, e1, e2, r1, r2⟩ := code_cell lo hi t (cellLo lo hi f c) hr (by omega) (by omega) ht
  obtain ⟨d0', d1', db', k1', k2', e1', e2', r1', r2'⟩ := code_cell lo hi t (cellHi lo hi f c) hr (by omega) (by omega) ht
  refine ⟨hb, db, ?_, db', ?_, code_mono lo hi (cellsN t) _ _ n0 a5 v2⟩
  · have p : c * k ≤ codeN lo hi (cellsN t) (cellLo lo hi f c) := (F _ _).1 (by omega)
    have q := from_mono lo hi (cellsN t) _ _ n0 a5 p
    omega
  · have p : ¬ (c + 1) * k ≤ codeN lo hi (cellsN t) (cellHi lo hi f c) := fun hh => by have := (F _ _).2 hh; omega
    have q := from_mono lo hi (cellsN t) (codeN lo hi (cellsN t) (cellHi lo hi f c) + 1) ((c + 1) * k) n0 a5 (by omega)
    omega

set_option maxHeartbeats 4000000 in
set_option maxRecDepth 4000 in
theorem finer_walk (a : Option Addr) (n cap : Nat) (zs : List Int) (w : World) (h : IsRow .u8 w a n cap zs) :
    Calls Try.prog 3 #[.slice a n cap] w fun e w' => e = .returned (.bool true) ∧ Below w.heap.size w w' := by
  have BG := hide (big_any a n cap w)
  by_cases hn : n ≤ 1048576
  · rw [decide_eq_false (show ¬ 1048576 < n by omega)] at BG
    have DR := hide (drawFiner_any a n cap w (h.code hn))
    clear h
    go_enter Try.func3, Try.ntmps3
    go_wp2_with fail
    refine BG.out.mono ?_
    rintro e w' ⟨rfl, hw⟩
    obtain rfl := hw.symm
    clear BG hw
    go_wp2_with fail
    refine DR.out.mono ?_
    rintro e w1 ⟨lo, hi, c, f, t, rfl, hb1⟩
    clear DR
    have FI := hide (iFiner_any lo hi c f t)
    have FSp := hide (sFiner_any lo hi c f t)
    cases hF : finerB lo hi c f t
    · rw [finerT_no hF] at FI FSp
      go_wp2_with fail
      refine (FI.out _).mono ?_
      rintro e w2 ⟨rfl, hb⟩
      have hz := hb.size
      (try simp at hz)
      have g0 : w1.heap.size < w2.heap.size := (by omega)
      have c00 : w2.cell? ⟨w1.heap.size, 0, none⟩ = some (.int .i64 (lo)) := (hb.cell (p := ⟨w1.heap.size, 0, none⟩) (by first | assumption | (simp; done) | (simp; omega) | (show _ < _; omega))).trans (by first | assumption | (simp [go_sem]; done) | (rw [World.cell?_alloc_past _ _ _ (by first | assumption | omega)]; first | assumption | (simp [go_sem]; done)) | (simp [go_sem, *]; done))
      have c01 : w2.cell? ⟨w1.heap.size, 1, none⟩ = some (.int .i64 (hi)) := (hb.cell (p := ⟨w1.heap.size, 1, none⟩) (by first | assumption | (simp; done) | (simp; omega) | (show _ < _; omega))).trans (by first | assumption | (simp [go_sem]; done) | (rw [World.cell?_alloc_past _ _ _ (by first | assumption | omega)]; first | assumption | (simp [go_sem]; done)) | (simp [go_sem, *]; done))
      have b_w2 := hb
      clear hb
      go_wp2_with fail
      refine (FSp.out _).mono ?_
      rintro e w3 ⟨rfl, hb⟩
      have hz := hb.size
      (try simp at hz)
      have b_w3 := hb
      clear hb
      go_wp2_with fail
      go_ret
      exact ⟨rfl, (by repeat' first | with_reducible exact Below.refl _ _ | with_reducible assumption | with_reducible refine below_drewN ?_ _ | with_reducible refine balloc ?_ _ | with_reducible refine Below.drew ?_ | with_reducible refine Below.setCell ?_ (by first | (simp; done) | (simp; omega) | omega) _ | with_reducible refine bstep ?_ (by assumption))⟩
    · simp only [finerT, hF, if_true] at FI FSp
      obtain ⟨hb, b1, b2, b3, b4, b5⟩ := finer_ends hF
      have E0 := hide (iCellOf_any lo hi f c)
      have E1 := hide (iCellOf_any lo hi t (codeN lo hi (cellsN t) (cellLo lo hi f c)))
      have E2 := hide (iCellOf_any lo hi t (codeN lo hi (cellsN t) (cellHi lo hi f c)))
      unfold cellT at E0 E1 E2
      rw [hb] at E0
      rw [b1, b2] at E1
      rw [b3, b4] at E2
      clear hb b1 b2 b3 b4 hF
      generalize cellHi lo hi t (codeN lo hi (cellsN t) (cellLo lo hi f c)) = r2 at E1
      generalize cellLo lo hi t (codeN lo hi (cellsN t) (cellHi lo hi f c)) = r1 at E2
      generalize codeN lo hi (cellsN t) (cellLo lo hi f c) = ca at FI FSp E1 b5
      generalize codeN lo hi (cellsN t) (cellHi lo hi f c) = cb at FI FSp E2 b5
      generalize cellLo lo hi f c = m1 at E0 E1
      generalize cellHi lo hi f c = m2 at E0 E2
      have t1 : (ca != ca) = false := by simp
      have t2 : (cb != cb) = false := by simp
      have t3 : (m1 == m1) = true := by simp
      have t4 : (m2 == m2) = true := by simp
      go_wp2_with fail
      refine (FI.out _).mono ?_
      rintro e w2 ⟨rfl, hb⟩
      have hz := hb.size
      (try simp at hz)
      have g0 : w1.heap.size < w2.heap.size := (by omega)
      have c00 : w2.cell? ⟨w1.heap.size, 0, none⟩ = some (.int .i64 (lo)) := (hb.cell (p := ⟨w1.heap.size, 0, none⟩) (by first | assumption | (simp; done) | (simp; omega) | (show _ < _; omega))).trans (by first | assumption | (simp [go_sem]; done) | (rw [World.cell?_alloc_past _ _ _ (by first | assumption | omega)]; first | assumption | (simp [go_sem]; done)) | (simp [go_sem, *]; done))
      have c01 : w2.cell? ⟨w1.heap.size, 1, none⟩ = some (.int .i64 (hi)) := (hb.cell (p := ⟨w1.heap.size, 1, none⟩) (by first | assumption | (simp; done) | (simp; omega) | (show _ < _; omega))).trans (by first | assumption | (simp [go_sem]; done) | (rw [World.cell?_alloc_past _ _ _ (by first | assumption | omega)]; first | assumption | (simp [go_sem]; done)) | (simp [go_sem, *]; done))
      have b_w2 := hb
      clear hb
      go_wp2_with fail
      refine (FSp.out _).mono ?_
      rintro e w3 ⟨rfl, hb⟩
      have hz := hb.size
      (try simp at hz)
      have g0 : w1.heap.size < w3.heap.size := (by omega)
      have c00 : w3.cell? ⟨w1.heap.size, 0, none⟩ = some (.int .i64 (lo)) := (hb.cell (p := ⟨w1.heap.size, 0, none⟩) (by first | assumption | (simp; done) | (simp; omega) | (show _ < _; omega))).trans (by first | assumption | (simp [go_sem]; done) | (rw [World.cell?_alloc_past _ _ _ (by first | assumption | omega)]; first | assumption | (simp [go_sem]; done)) | (simp [go_sem, *]; done))
      have c01 : w3.cell? ⟨w1.heap.size, 1, none⟩ = some (.int .i64 (hi)) := (hb.cell (p := ⟨w1.heap.size, 1, none⟩) (by first | assumption | (simp; done) | (simp; omega) | (show _ < _; omega))).trans (by first | assumption | (simp [go_sem]; done) | (rw [World.cell?_alloc_past _ _ _ (by first | assumption | omega)]; first | assumption | (simp [go_sem]; done)) | (simp [go_sem, *]; done))
      have b_w3 := hb
      clear hb
      go_wp2_with fail
      refine (E0.out _).mono ?_
      rintro e w4 ⟨rfl, hb⟩
      have hz := hb.size
      (try simp at hz)
      have g0 : w1.heap.size < w4.heap.size := (by omega)
      have c00 : w4.cell? ⟨w1.heap.size, 0, none⟩ = some (.int .i64 (lo)) := (hb.cell (p := ⟨w1.heap.size, 0, none⟩) (by first | assumption | (simp; done) | (simp; omega) | (show _ < _; omega))).trans (by first | assumption | (simp [go_sem]; done) | (rw [World.cell?_alloc_past _ _ _ (by first | assumption | omega)]; first | assumption | (simp [go_sem]; done)) | (simp [go_sem, *]; done))
      have c01 : w4.cell? ⟨w1.heap.size, 1, none⟩ = some (.int .i64 (hi)) := (hb.cell (p := ⟨w1.heap.size, 1, none⟩) (by first | assumption | (simp; done) | (simp; omega) | (show _ < _; omega))).trans (by first | assumption | (simp [go_sem]; done) | (rw [World.cell?_alloc_past _ _ _ (by first | assumption | omega)]; first | assumption | (simp [go_sem]; done)) | (simp [go_sem, *]; done))
      have b_w4 := hb
      clear hb
      go_wp2_with fail
      refine (E1.out _).mono ?_
      rintro e w5 ⟨rfl, hb⟩
      have hz := hb.size
      (try simp at hz)
      have g0 : w1.heap.size < w5.heap.size := (by omega)
      have c00 : w5.cell? ⟨w1.heap.size, 0, none⟩ = some (.int .i64 (lo)) := (hb.cell (p := ⟨w1.heap.size, 0, none⟩) (by first | assumption | (simp; done) | (simp; omega) | (show _ < _; omega))).trans (by first | assumption | (simp [go_sem]; done) | (rw [World.cell?_alloc_past _ _ _ (by first | assumption | omega)]; first | assumption | (simp [go_sem]; done)) | (simp [go_sem, *]; done))
      have c01 : w5.cell? ⟨w1.heap.size, 1, none⟩ = some (.int .i64 (hi)) := (hb.cell (p := ⟨w1.heap.size, 1, none⟩) (by first | assumption | (simp; done) | (simp; omega) | (show _ < _; omega))).trans (by first | assumption | (simp [go_sem]; done) | (rw [World.cell?_alloc_past _ _ _ (by first | assumption | omega)]; first | assumption | (simp [go_sem]; done)) | (simp [go_sem, *]; done))
      have g1 : w4.heap.size < w5.heap.size := (by omega)
      have c10 : w5.cell? ⟨w4.heap.size, 0, none⟩ = some (.int .i64 (m1)) := (hb.cell (p := ⟨w4.heap.size, 0, none⟩) (by first | assumption | (simp; done) | (simp; omega) | (show _ < _; omega))).trans (by first | assumption | (simp [go_sem]; done) | (rw [World.cell?_alloc_past _ _ _ (by first | assumption | omega)]; first | assumption | (simp [go_sem]; done)) | (simp [go_sem, *]; done))
      have c11 : w5.cell? ⟨w4.heap.size, 1, none⟩ = some (.int .i64 (m2)) := (hb.cell (p := ⟨w4.heap.size, 1, none⟩) (by first | assumption | (simp; done) | (simp; omega) | (show _ < _; omega))).trans (by first | assumption | (simp [go_sem]; done) | (rw [World.cell?_alloc_past _ _ _ (by first | assumption | omega)]; first | assumption | (simp [go_sem]; done)) | (simp [go_sem, *]; done))
      have b_w5 := hb
      clear hb
      go_wp2_with fail
      refine (E2.out _).mono ?_
      rintro e w6 ⟨rfl, hb⟩
      have hz := hb.size
      (try simp at hz)
      have g0 : w4.heap.size < w6.heap.size := (by omega)
      have c00 : w6.cell? ⟨w4.heap.size, 0, none⟩ = some (.int .i64 (m1)) := (hb.cell (p := ⟨w4.heap.size, 0, none⟩) (by first | assumption | (simp; done) | (simp; omega) | (show _ < _; omega))).trans (by first | assumption | (simp [go_sem]; done) | (rw [World.cell?_alloc_past _ _ _ (by first | assumption | omega)]; first | assumption | (simp [go_sem]; done)) | (simp [go_sem, *]; done))
      have c01 : w6.cell? ⟨w4.heap.size, 1, none⟩ = some (.int .i64 (m2)) := (hb.cell (p := ⟨w4.heap.size, 1, none⟩) (by first | assumption | (simp; done) | (simp; omega) | (show _ < _; omega))).trans (by first | assumption | (simp [go_sem]; done) | (rw [World.cell?_alloc_past _ _ _ (by first | assumption | omega)]; first | assumption | (simp [go_sem]; done)) | (simp [go_sem, *]; done))
      have g1 : w5.heap.size < w6.heap.size := (by omega)
      have c10 : w6.cell? ⟨w5.heap.size, 0, none⟩ = some (.int .i64 (m1)) := (hb.cell (p := ⟨w5.heap.size, 0, none⟩) (by first | assumption | (simp; done) | (simp; omega) | (show _ < _; omega))).trans (by first | assumption | (simp [go_sem]; done) | (rw [World.cell?_alloc_past _ _ _ (by first | assumption | omega)]; first | assumption | (simp [go_sem]; done)) | (simp [go_sem, *]; done))
      have c11 : w6.cell? ⟨w5.heap.size, 1, none⟩ = some (.int .i64 (r2)) := (hb.cell (p := ⟨w5.heap.size, 1, none⟩) (by first | assumption | (simp; done) | (simp; omega) | (show _ < _; omega))).trans (by first | assumption | (simp [go_sem]; done) | (rw [World.cell?_alloc_past _ _ _ (by first | assumption | omega)]; first | assumption | (simp [go_sem]; done)) | (simp [go_sem, *]; done))
      have b_w6 := hb
      clear hb
      go_wp2_with fail
      go_ret
      exact ⟨rfl, (by repeat' first | with_reducible exact Below.refl _ _ | with_reducible assumption | with_reducible refine below_drewN ?_ _ | with_reducible refine balloc ?_ _ | with_reducible refine Below.drew ?_ | with_reducible refine Below.setCell ?_ (by first | (simp; done) | (simp; omega) | omega) _ | with_reducible refine bstep ?_ (by assumption))⟩
  · rw [decide_eq_true (show 1048576 < n by omega)] at BG
    go_enter Try.func3, Try.ntmps3
    go_wp2_with fail
    refine BG.out.mono ?_
    rintro e w' ⟨rfl, rfl⟩
    go_wp2
    go_ret
    exact ⟨rfl, (by repeat' first | with_reducible exact Below.refl _ _ | with_reducible assumption | with_reducible refine below_drewN ?_ _ | with_reducible refine balloc ?_ _ | with_reducible refine Below.drew ?_ | with_reducible refine Below.setCell ?_ (by first | (simp; done) | (simp; omega) | omega) _ | with_reducible refine bstep ?_ (by assumption))⟩
end Go.Proofs.Ytadedoogcdaimaa
