/- The walk of FnCodeOrder. -/
import Derived.Test.YtbodiloipeebgaaLH
namespace Go.Proofs.Ytbodiloipeebgaa
open Go.RowKit
set_option linter.unusedSimpArgs false
set_option linter.unusedVariables false

/-- How two numbers of a range and their codes stand to each other, as tests of the program. -/
theorem order_tests (lo hi t x y : Int) (hr : rightB lo hi = true) (ht : tierB t = true) (hx0 : lo ≤ x) (hy0 : lo ≤ y) :
    ∃ ca cb : Int, codeN lo hi (cellsN t) x = ca ∧ codeN lo hi (cellsN t) y = cb ∧ 0 ≤ ca ∧ 0 ≤ cb ∧
      (((x == y) = true ∧ (ca == cb) = true) ∨ ((x == y) = false ∧ x < y ∧ ca ≤ cb) ∨ ((x == y) = false ∧ ¬ x < y ∧ y < x ∧ cb ≤ ca)) := by
  obtain ⟨a1, a2, a3, a4, a5⟩ := right_nums hr
  obtain ⟨n0, n1⟩ := cells_pos ht
  refine ⟨_, _, rfl, rfl, code_nonneg _ _ _ _ n0 hx0 a5, code_nonneg _ _ _ _ n0 hy0 a5, ?_⟩
  rcases Int.lt_trichotomy x y with h | h | h
  · exact .inr (.inl ⟨by simp; omega, h, code_mono _ _ _ _ _ n0 a5 (by omega)⟩)
  · subst h; exact .inl ⟨by simp, by simp⟩
  · exact .inr (.inr ⟨by simp; omega, by omega, h, code_mono _ _ _ _ _ n0 a5 (by omega)⟩)

set_option maxHeartbeats 4000000 in
set_option maxRecDepth 4000 in
theorem codeOrder_walk (a : Option Addr) (n cap : Nat) (zs : List Int) (a' : Option Addr) (n' cap' : Nat) (zs' : List Int) (w : World) (h : IsRow .u8 w a n cap zs) (h' : IsRow .u8 w a' n' cap' zs') :
    Calls Try.prog 8 #[.slice a n cap, .slice a' n' cap'] w fun e w' => e = .returned (.bool true) ∧ Below w.heap.size w w' := by
  have BG := hide (big_any a n cap w)
  have BG' := hide (big_any a' n' cap' w)
  by_cases hn : n ≤ 1048576
  · rw [decide_eq_false (show ¬ 1048576 < n by omega)] at BG
    by_cases hn' : n' ≤ 1048576
    · rw [decide_eq_false (show ¬ 1048576 < n' by omega)] at BG'
      have hcode := h'.code hn'
      have DR := hide (drawCodeOf_any a n cap w (h.code hn))
      have DR' := hide (fun w1 (hb : Below w.heap.size w w1) => drawCodeOf_any a' n' cap' w1 (hcode.below hb))
      clear h h' hcode
      go_enter Try.func8, Try.ntmps8
      go_wp2_with fail
      refine BG.out.mono ?_
      rintro e w' ⟨rfl, hw⟩
      obtain rfl := hw.symm
      clear BG hw
      go_wp2_with fail
      refine BG'.out.mono ?_
      rintro e w' ⟨rfl, hw⟩
      obtain rfl := hw.symm
      clear BG' hw
      go_wp2_with fail
      refine DR.out.mono ?_
      rintro e w1 ⟨lo, hi, t, x, rfl, hb1⟩
      clear DR
      go_wp2_with fail
      refine (DR'.out _ (by repeat' first | with_reducible exact Below.refl _ _ | with_reducible assumption | with_reducible refine below_drewN ?_ _ | with_reducible refine balloc ?_ _ | with_reducible refine Below.drew ?_ | with_reducible refine Below.setCell ?_ (by first | (simp; done) | (simp; omega) | omega) _ | with_reducible refine bstep ?_ (by assumption))).mono ?_
      rintro e w2 ⟨ul, uh, ut, m, rfl, hb2⟩
      clear DR'
      have hz := hb2.size
      simp at hz
      have q0 : w2.cell? ⟨w1.heap.size, 0, none⟩ = some (.int .i64 lo) := (hb2.cell (p := ⟨w1.heap.size, 0, none⟩) (by simp)).trans (by simp [go_sem])
      have q1 : w2.cell? ⟨w1.heap.size, 1, none⟩ = some (.int .i64 hi) := (hb2.cell (p := ⟨w1.heap.size, 1, none⟩) (by simp)).trans (by simp [go_sem])
      have g0 : w1.heap.size < w2.heap.size := by omega
      have CI := hide (iCodeOf_any lo hi t)
      have CS := hide (sCodeOf_any lo hi t x)
      have hne : (codeB lo hi t x != codeB lo hi t x) = false := by simp
      have heq : (codeB lo hi t x == codeB lo hi t x) = true := by simp
      have CX := hide (CI.out x)
      rcases code_split lo hi t x with hc | ⟨hr, hx0, hx1, ht, hc⟩
      · rw [hc] at CX CS hne heq
        clear CI
        go_wp2_with fail
        refine (CX.out _).mono ?_
        rintro e w3 ⟨rfl, hb⟩
        have hz := hb.size
        (try simp at hz)
        have g0 : w1.heap.size < w3.heap.size := (by omega)
        have c00 : w3.cell? ⟨w1.heap.size, 0, none⟩ = some (.int .i64 (lo)) := (hb.cell (p := ⟨w1.heap.size, 0, none⟩) (by first | assumption | (simp; done) | (simp; omega) | (show _ < _; omega))).trans (by first | assumption | (simp [go_sem]; done) | (rw [World.cell?_alloc_past _ _ _ (by first | assumption | omega)]; first | assumption | (simp [go_sem]; done)) | (simp [go_sem, *]; done))
        have c01 : w3.cell? ⟨w1.heap.size, 1, none⟩ = some (.int .i64 (hi)) := (hb.cell (p := ⟨w1.heap.size, 1, none⟩) (by first | assumption | (simp; done) | (simp; omega) | (show _ < _; omega))).trans (by first | assumption | (simp [go_sem]; done) | (rw [World.cell?_alloc_past _ _ _ (by first | assumption | omega)]; first | assumption | (simp [go_sem]; done)) | (simp [go_sem, *]; done))
        have b_w3 := hb
        clear hb
        go_wp2_with fail
        refine (CS.out _).mono ?_
        rintro e w4 ⟨rfl, hb⟩
        have hz := hb.size
        (try simp at hz)
        have g0 : w1.heap.size < w4.heap.size := (by omega)
        have c00 : w4.cell? ⟨w1.heap.size, 0, none⟩ = some (.int .i64 (lo)) := (hb.cell (p := ⟨w1.heap.size, 0, none⟩) (by first | assumption | (simp; done) | (simp; omega) | (show _ < _; omega))).trans (by first | assumption | (simp [go_sem]; done) | (rw [World.cell?_alloc_past _ _ _ (by first | assumption | omega)]; first | assumption | (simp [go_sem]; done)) | (simp [go_sem, *]; done))
        have c01 : w4.cell? ⟨w1.heap.size, 1, none⟩ = some (.int .i64 (hi)) := (hb.cell (p := ⟨w1.heap.size, 1, none⟩) (by first | assumption | (simp; done) | (simp; omega) | (show _ < _; omega))).trans (by first | assumption | (simp [go_sem]; done) | (rw [World.cell?_alloc_past _ _ _ (by first | assumption | omega)]; first | assumption | (simp [go_sem]; done)) | (simp [go_sem, *]; done))
        have b_w4 := hb
        clear hb
        go_wp2_with fail
        refine (CS.out _).mono ?_
        rintro e w5 ⟨rfl, hb⟩
        have hz := hb.size
        (try simp at hz)
        have g0 : w1.heap.size < w5.heap.size := (by omega)
        have c00 : w5.cell? ⟨w1.heap.size, 0, none⟩ = some (.int .i64 (lo)) := (hb.cell (p := ⟨w1.heap.size, 0, none⟩) (by first | assumption | (simp; done) | (simp; omega) | (show _ < _; omega))).trans (by first | assumption | (simp [go_sem]; done) | (rw [World.cell?_alloc_past _ _ _ (by first | assumption | omega)]; first | assumption | (simp [go_sem]; done)) | (simp [go_sem, *]; done))
        have c01 : w5.cell? ⟨w1.heap.size, 1, none⟩ = some (.int .i64 (hi)) := (hb.cell (p := ⟨w1.heap.size, 1, none⟩) (by first | assumption | (simp; done) | (simp; omega) | (show _ < _; omega))).trans (by first | assumption | (simp [go_sem]; done) | (rw [World.cell?_alloc_past _ _ _ (by first | assumption | omega)]; first | assumption | (simp [go_sem]; done)) | (simp [go_sem, *]; done))
        have b_w5 := hb
        clear hb
        go_wp2_with fail
        go_ret
        exact ⟨rfl, (by repeat' first | with_reducible exact Below.refl _ _ | with_reducible assumption | with_reducible refine below_drewN ?_ _ | with_reducible refine balloc ?_ _ | with_reducible refine Below.drew ?_ | with_reducible refine Below.setCell ?_ (by first | (simp; done) | (simp; omega) | omega) _ | with_reducible refine bstep ?_ (by assumption))⟩
      · obtain ⟨y, hy0, hy1, hy⟩ : ∃ y : Int, lo ≤ y ∧ y ≤ hi ∧ ((m < lo ∧ y = lo) ∨ (¬ m < lo ∧ m ≤ hi ∧ y = m) ∨ (¬ m < lo ∧ hi < m ∧ y = hi)) := by
          have h5 := (right_nums hr).2.2.2.2
          by_cases k1 : m < lo
          · exact ⟨lo, by omega, by omega, .inl ⟨k1, rfl⟩⟩
          · by_cases k2 : m ≤ hi
            · exact ⟨m, by omega, by omega, .inr (.inl ⟨k1, k2, rfl⟩)⟩
            · exact ⟨hi, by omega, by omega, .inr (.inr ⟨k1, by omega, rfl⟩)⟩
        have CY := hide (CI.out y)
        rw [show codeB lo hi t y = codeN lo hi (cellsN t) y from by
          unfold codeB
          rw [show hasB lo hi y = true from by simp only [hasB, hr, inB, Bool.true_and, decide_eq_true_eq]; omega, ht]; rfl] at CY
        have h5 := (right_nums hr).2.2.2.2
        obtain ⟨ca, cb, e1, e2, ca0, cb0, hT⟩ := order_tests lo hi t x y hr ht hx0 hy0
        rw [hc, e1] at CX CS hne heq
        rw [e2] at CY
        clear CI hc e1 e2 hr ht
        have hnl : ¬ ca < 0 := by omega
        go_wp2_with fail
        refine (CX.out _).mono ?_
        rintro e w3 ⟨rfl, hb⟩
        have hz := hb.size
        (try simp at hz)
        have g0 : w1.heap.size < w3.heap.size := (by omega)
        have c00 : w3.cell? ⟨w1.heap.size, 0, none⟩ = some (.int .i64 (lo)) := (hb.cell (p := ⟨w1.heap.size, 0, none⟩) (by first | assumption | (simp; done) | (simp; omega) | (show _ < _; omega))).trans (by first | assumption | (simp [go_sem]; done) | (rw [World.cell?_alloc_past _ _ _ (by first | assumption | omega)]; first | assumption | (simp [go_sem]; done)) | (simp [go_sem, *]; done))
        have c01 : w3.cell? ⟨w1.heap.size, 1, none⟩ = some (.int .i64 (hi)) := (hb.cell (p := ⟨w1.heap.size, 1, none⟩) (by first | assumption | (simp; done) | (simp; omega) | (show _ < _; omega))).trans (by first | assumption | (simp [go_sem]; done) | (rw [World.cell?_alloc_past _ _ _ (by first | assumption | omega)]; first | assumption | (simp [go_sem]; done)) | (simp [go_sem, *]; done))
        have b_w3 := hb
        clear hb
        go_wp2_with fail
        refine (CS.out _).mono ?_
        rintro e w4 ⟨rfl, hb⟩
        have hz := hb.size
        (try simp at hz)
        have g0 : w1.heap.size < w4.heap.size := (by omega)
        have c00 : w4.cell? ⟨w1.heap.size, 0, none⟩ = some (.int .i64 (lo)) := (hb.cell (p := ⟨w1.heap.size, 0, none⟩) (by first | assumption | (simp; done) | (simp; omega) | (show _ < _; omega))).trans (by first | assumption | (simp [go_sem]; done) | (rw [World.cell?_alloc_past _ _ _ (by first | assumption | omega)]; first | assumption | (simp [go_sem]; done)) | (simp [go_sem, *]; done))
        have c01 : w4.cell? ⟨w1.heap.size, 1, none⟩ = some (.int .i64 (hi)) := (hb.cell (p := ⟨w1.heap.size, 1, none⟩) (by first | assumption | (simp; done) | (simp; omega) | (show _ < _; omega))).trans (by first | assumption | (simp [go_sem]; done) | (rw [World.cell?_alloc_past _ _ _ (by first | assumption | omega)]; first | assumption | (simp [go_sem]; done)) | (simp [go_sem, *]; done))
        have b_w4 := hb
        clear hb
        clear CX CS
        rcases hy with ⟨k1, rfl⟩ | ⟨k1, k2, rfl⟩ | ⟨k1, k2, rfl⟩
        all_goals
          rcases hT with ⟨t1, t2⟩ | ⟨t1, t2, t3⟩ | ⟨t1, t2, t3, t4⟩
        all_goals try (exfalso; omega)
        all_goals
          go_wp2_with fail
          refine (CY.out _).mono ?_
          rintro e w5 ⟨rfl, hb5⟩
          go_wp2_with fail
          go_ret
          exact ⟨rfl, (by repeat' first | with_reducible exact Below.refl _ _ | with_reducible assumption | with_reducible refine below_drewN ?_ _ | with_reducible refine balloc ?_ _ | with_reducible refine Below.drew ?_ | with_reducible refine Below.setCell ?_ (by first | (simp; done) | (simp; omega) | omega) _ | with_reducible refine bstep ?_ (by assumption))⟩
    · rw [decide_eq_true (show 1048576 < n' by omega)] at BG'
      go_enter Try.func8, Try.ntmps8
      go_wp2_with fail
      refine BG.out.mono ?_
      rintro e w' ⟨rfl, rfl⟩
      go_wp2_with fail
      refine BG'.out.mono ?_
      rintro e w' ⟨rfl, rfl⟩
      go_wp2
      go_ret
      exact ⟨rfl, (by repeat' first | with_reducible exact Below.refl _ _ | with_reducible assumption | with_reducible refine below_drewN ?_ _ | with_reducible refine balloc ?_ _ | with_reducible refine Below.drew ?_ | with_reducible refine Below.setCell ?_ (by first | (simp; done) | (simp; omega) | omega) _ | with_reducible refine bstep ?_ (by assumption))⟩
  · rw [decide_eq_true (show 1048576 < n by omega)] at BG
    go_enter Try.func8, Try.ntmps8
    go_wp2_with fail
    refine BG.out.mono ?_
    rintro e w' ⟨rfl, rfl⟩
    go_wp2
    go_ret
    exact ⟨rfl, (by repeat' first | with_reducible exact Below.refl _ _ | with_reducible assumption | with_reducible refine below_drewN ?_ _ | with_reducible refine balloc ?_ _ | with_reducible refine Below.drew ?_ | with_reducible refine Below.setCell ?_ (by first | (simp; done) | (simp; omega) | omega) _ | with_reducible refine bstep ?_ (by assumption))⟩
end Go.Proofs.Ytbodiloipeebgaa
