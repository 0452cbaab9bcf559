/- The walk of FnCellWide. -/
import Derived.Test.YtbodiloipeebgaaLK
namespace Go.Proofs.Ytbodiloipeebgaa
open Go.RowKit
set_option linter.unusedSimpArgs false
set_option linter.unusedVariables false

set_option maxHeartbeats 4000000 in
set_option maxRecDepth 4000 in
theorem cellWide_walk (a : Option Addr) (n cap : Nat) (zs : List Int) (w : World) (h : IsRow .u8 w a n cap zs) :
    Calls Try.prog 5 #[.slice a n cap] w fun e w' => e = .returned (.bool true) ∧ Below w.heap.size w w' := by
  have BG := hide (big_any a n cap w)
  by_cases hn : n ≤ 1048576
  · rw [decide_eq_false (show ¬ 1048576 < n by omega)] at BG
    have DR := hide (drawCellOf_any a n cap w (h.code hn))
    clear h
    go_enter Try.func5, Try.ntmps5
    go_wp2_with fail
    refine BG.out.mono ?_
    rintro e w' ⟨rfl, hw⟩
    obtain rfl := hw.symm
    clear BG hw
    go_wp2_with fail
    refine DR.out.mono ?_
    rintro e w1 ⟨lo, hi, t, c, rfl, hb1⟩
    clear DR
    have EI := hide (iCellOf_any lo hi t c)
    have ES := hide (sCellOf_any lo hi t c)
    have NI := hide (iCellsOf_any t)
    unfold cellT at EI ES
    by_cases hok : cellB lo hi t c = true ∧ c ≠ -1
    · obtain ⟨hb, hc⟩ := hok
      obtain ⟨hr, ht, c0, c1, l1, l2⟩ := cell_nums hb hc
      have hcl : ¬ c < 0 := by omega
      have hw3 := cell_within hb hc
      obtain ⟨a1, a2, a3, a4, a5⟩ := right_nums hr
      have hwide := wide hb hc
      have hN : cellsN t = 2 ∨ cellsN t = 16 ∨ cellsN t = 256 := by rcases tier_cases ht with rfl | rfl | rfl <;> decide
      have v1 := hw3.2.2.1
      have v2 := hw3.2.2.2.1
      have v3 := hw3.2.2.2.2
      rw [hb] at EI ES
      clear hb hw3 hr ht l1 l2 c1
      generalize cellLo lo hi t c = m1 at EI ES hwide v1 v2 v3
      generalize cellHi lo hi t c = m2 at EI ES hwide v2 v3
      generalize cellsN t = N at NI hwide hN
      have hNz : ¬ N = 0 := by omega
      have u0 : 0 ≤ (hi - lo + 1) / N := by rcases hN with rfl | rfl | rfl <;> omega
      have u1 : (hi - lo + 1) / N ≤ 4000000 := by rcases hN with rfl | rfl | rfl <;> omega
      have f1 : IntKind.i64.wrap (m2 - m1) = m2 - m1 := wrapIn _ (by omega) (by omega)
      have f2 : IntKind.i64.wrap (m2 - m1 + 1) = m2 - m1 + 1 := wrapIn _ (by omega) (by omega)
      have f3 : IntKind.i64.wrap (hi - lo) = hi - lo := wrapIn _ (by omega) (by omega)
      have f4 : IntKind.i64.wrap (hi - lo + 1) = hi - lo + 1 := wrapIn _ (by omega) (by omega)
      have f5 : (hi - lo + 1).tdiv N = (hi - lo + 1) / N := Int.tdiv_eq_ediv_of_nonneg (by omega)
      have f6 : IntKind.i64.wrap ((hi - lo + 1) / N) = (hi - lo + 1) / N := wrapIn _ (by omega) (by omega)
      have f7 : IntKind.i64.wrap ((hi - lo + 1) / N + 1) = (hi - lo + 1) / N + 1 := wrapIn _ (by omega) (by omega)
      go_wp2_with fail
      refine (EI.out _).mono ?_
      rintro e w2 ⟨rfl, hb⟩
      have hz := hb.size
      (try simp at hz)
      have g0 : w1.heap.size < w2.heap.size := (by omega)
      have c00 : w2.cell? ⟨w1.heap.size, 0, none⟩ = some (.int .i64 (lo)) := (hb.cell (p := ⟨w1.heap.size, 0, none⟩) (by first | assumption | (simp; done) | (simp; omega) | (show _ < _; omega))).trans (by first | assumption | (simp [go_sem]; done) | (rw [World.cell?_alloc_past _ _ _ (by first | assumption | omega)]; first | assumption | (simp [go_sem]; done)) | (simp [go_sem, *]; done))
      have c01 : w2.cell? ⟨w1.heap.size, 1, none⟩ = some (.int .i64 (hi)) := (hb.cell (p := ⟨w1.heap.size, 1, none⟩) (by first | assumption | (simp; done) | (simp; omega) | (show _ < _; omega))).trans (by first | assumption | (simp [go_sem]; done) | (rw [World.cell?_alloc_past _ _ _ (by first | assumption | omega)]; first | assumption | (simp [go_sem]; done)) | (simp [go_sem, *]; done))
      have b_w2 := hb
      clear hb
      go_wp2_with fail
      refine (ES.out _).mono ?_
      rintro e w3 ⟨rfl, hb⟩
      have hz := hb.size
      (try simp at hz)
      have g0 : w1.heap.size < w3.heap.size := (by omega)
      have c00 : w3.cell? ⟨w1.heap.size, 0, none⟩ = some (.int .i64 (lo)) := (hb.cell (p := ⟨w1.heap.size, 0, none⟩) (by first | assumption | (simp; done) | (simp; omega) | (show _ < _; omega))).trans (by first | assumption | (simp [go_sem]; done) | (rw [World.cell?_alloc_past _ _ _ (by first | assumption | omega)]; first | assumption | (simp [go_sem]; done)) | (simp [go_sem, *]; done))
      have c01 : w3.cell? ⟨w1.heap.size, 1, none⟩ = some (.int .i64 (hi)) := (hb.cell (p := ⟨w1.heap.size, 1, none⟩) (by first | assumption | (simp; done) | (simp; omega) | (show _ < _; omega))).trans (by first | assumption | (simp [go_sem]; done) | (rw [World.cell?_alloc_past _ _ _ (by first | assumption | omega)]; first | assumption | (simp [go_sem]; done)) | (simp [go_sem, *]; done))
      have g1 : w2.heap.size < w3.heap.size := (by omega)
      have c10 : w3.cell? ⟨w2.heap.size, 0, none⟩ = some (.int .i64 (m1)) := (hb.cell (p := ⟨w2.heap.size, 0, none⟩) (by first | assumption | (simp; done) | (simp; omega) | (show _ < _; omega))).trans (by first | assumption | (simp [go_sem]; done) | (rw [World.cell?_alloc_past _ _ _ (by first | assumption | omega)]; first | assumption | (simp [go_sem]; done)) | (simp [go_sem, *]; done))
      have c11 : w3.cell? ⟨w2.heap.size, 1, none⟩ = some (.int .i64 (m2)) := (hb.cell (p := ⟨w2.heap.size, 1, none⟩) (by first | assumption | (simp; done) | (simp; omega) | (show _ < _; omega))).trans (by first | assumption | (simp [go_sem]; done) | (rw [World.cell?_alloc_past _ _ _ (by first | assumption | omega)]; first | assumption | (simp [go_sem]; done)) | (simp [go_sem, *]; done))
      have b_w3 := hb
      clear hb
      go_upto_region 8 with fail
      have e00 : (w3.alloc (.cells #[.int .i64 m1, .int .i64 m2] 25)).cell? ⟨w1.heap.size, 0, none⟩ = some (.int .i64 lo) := (World.cell?_alloc_past _ _ _ g0).trans c00
      have e01 : (w3.alloc (.cells #[.int .i64 m1, .int .i64 m2] 25)).cell? ⟨w1.heap.size, 1, none⟩ = some (.int .i64 hi) := (World.cell?_alloc_past _ _ _ g0).trans c01
      have e10 : (w3.alloc (.cells #[.int .i64 m1, .int .i64 m2] 25)).cell? ⟨w2.heap.size, 0, none⟩ = some (.int .i64 m1) := (World.cell?_alloc_past _ _ _ g1).trans c10
      have e11 : (w3.alloc (.cells #[.int .i64 m1, .int .i64 m2] 25)).cell? ⟨w2.heap.size, 1, none⟩ = some (.int .i64 m2) := (World.cell?_alloc_past _ _ _ g1).trans c11
      go_region_held3 (fun w' => w'.cell? ⟨w1.heap.size, 0, none⟩ = some (.int .i64 lo) ∧ w'.cell? ⟨w1.heap.size, 1, none⟩ = some (.int .i64 hi) ∧ w'.cell? ⟨w2.heap.size, 0, none⟩ = some (.int .i64 m1) ∧ w'.cell? ⟨w2.heap.size, 1, none⟩ = some (.int .i64 m2)) (refine ⟨?_, ?_, ?_, ?_⟩ <;> first | assumption | exact e00 | exact e01 | exact e10 | exact e11 | (simp [go_sem, *]; done) | (go_keep; done)) ((go_at_call 16; refine (NI.out _).mono ?_; rintro e wn ⟨rfl, hwn⟩; subst hwn))
      all_goals
        go_wp2_with fail
        go_ret
        exact ⟨rfl, (by repeat' first | with_reducible exact Below.refl _ _ | with_reducible assumption | with_reducible refine below_drewN ?_ _ | with_reducible refine balloc ?_ _ | with_reducible refine Below.drew ?_ | with_reducible refine Below.setCell ?_ (by first | (simp; done) | (simp; omega) | omega) _ | with_reducible refine bstep ?_ (by assumption))⟩
    · have hD : cellB lo hi t c = false ∨ (cellB lo hi t c = true ∧ c < 0) := by
        cases hb : cellB lo hi t c
        · exact .inl rfl
        · refine .inr ⟨rfl, ?_⟩
          have : c = -1 := by
            by_cases hq : c = -1
            · exact hq
            · exact absurd ⟨hb, hq⟩ hok
          omega
      clear hok
      generalize cellLo lo hi t c = m1 at EI ES
      generalize cellHi lo hi t c = m2 at EI ES
      generalize cellB lo hi t c = mb at EI ES hD
      rcases hD with rfl | ⟨rfl, hc⟩
      all_goals
        go_wp2_with fail
        refine (EI.out _).mono ?_
        rintro e w2 ⟨rfl, hb⟩
        have hz := hb.size
        (try simp at hz)
        have g0 : w1.heap.size < w2.heap.size := (by omega)
        have c00 : w2.cell? ⟨w1.heap.size, 0, none⟩ = some (.int .i64 (lo)) := (hb.cell (p := ⟨w1.heap.size, 0, none⟩) (by first | assumption | (simp; done) | (simp; omega) | (show _ < _; omega))).trans (by first | assumption | (simp [go_sem]; done) | (rw [World.cell?_alloc_past _ _ _ (by first | assumption | omega)]; first | assumption | (simp [go_sem]; done)) | (simp [go_sem, *]; done))
        have c01 : w2.cell? ⟨w1.heap.size, 1, none⟩ = some (.int .i64 (hi)) := (hb.cell (p := ⟨w1.heap.size, 1, none⟩) (by first | assumption | (simp; done) | (simp; omega) | (show _ < _; omega))).trans (by first | assumption | (simp [go_sem]; done) | (rw [World.cell?_alloc_past _ _ _ (by first | assumption | omega)]; first | assumption | (simp [go_sem]; done)) | (simp [go_sem, *]; done))
        have b_w2 := hb
        clear hb
        go_wp2_with fail
        refine (ES.out _).mono ?_
        rintro e w3 ⟨rfl, hb⟩
        have hz := hb.size
        (try simp at hz)
        have b_w3 := hb
        clear hb
        go_wp2_with fail
        go_ret
        exact ⟨rfl, (by repeat' first | with_reducible exact Below.refl _ _ | with_reducible assumption | with_reducible refine below_drewN ?_ _ | with_reducible refine balloc ?_ _ | with_reducible refine Below.drew ?_ | with_reducible refine Below.setCell ?_ (by first | (simp; done) | (simp; omega) | omega) _ | with_reducible refine bstep ?_ (by assumption))⟩
  · rw [decide_eq_true (show 1048576 < n by omega)] at BG
    go_enter Try.func5, Try.ntmps5
    go_wp2_with fail
    refine BG.out.mono ?_
    rintro e w' ⟨rfl, rfl⟩
    go_wp2
    go_ret
    exact ⟨rfl, (by repeat' first | with_reducible exact Below.refl _ _ | with_reducible assumption | with_reducible refine below_drewN ?_ _ | with_reducible refine balloc ?_ _ | with_reducible refine Below.drew ?_ | with_reducible refine Below.setCell ?_ (by first | (simp; done) | (simp; omega) | omega) _ | with_reducible refine bstep ?_ (by assumption))⟩
end Go.Proofs.Ytbodiloipeebgaa
