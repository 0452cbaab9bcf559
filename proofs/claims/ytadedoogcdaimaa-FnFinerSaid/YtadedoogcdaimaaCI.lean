/- Cells of the program and of the model: Finer. -/
import Derived.Test.YtadedoogcdaimaaCH
namespace Go.Proofs.Ytadedoogcdaimaa
open Go.RowKit
set_option linter.unusedSimpArgs false
set_option linter.unusedVariables false

def finerT (lo hi c f t : Int) : Value := if finerB lo hi c f t then .tuple #[.int .i64 (codeN lo hi (cellsN t) (cellLo lo hi f c)), .int .i64 (codeN lo hi (cellsN t) (cellHi lo hi f c)), .bool true] else .tuple #[.int .i64 0, .int .i64 0, .bool false]
theorem finerT_no {lo hi c f t : Int} (h : finerB lo hi c f t = false) : finerT lo hi c f t = .tuple #[.int .i64 0, .int .i64 0, .bool false] := by simp [finerT, h]

/-- A cell that has something lies within its range. -/
theorem cell_within {lo hi t c : Int} (h : cellB lo hi t c = true) (hc : c ≠ -1) : rightB lo hi = true ∧ tierB t = true ∧ lo ≤ cellLo lo hi t c ∧ cellLo lo hi t c ≤ cellHi lo hi t c ∧ cellHi lo hi t c ≤ hi := by
  have hr : rightB lo hi = true := by simp only [cellB, Bool.and_eq_true] at h; exact h.1.1
  have ht : tierB t = true := by simp only [cellB, Bool.and_eq_true] at h; exact h.1.2
  obtain ⟨a1, a2, a3, a4, a5⟩ := right_nums hr
  have hN : cellsN t = 2 ∨ cellsN t = 16 ∨ cellsN t = 256 := by rcases tier_cases ht with rfl | rfl | rfl <;> decide
  have h3 : 0 ≤ c ∧ c < cellsN t ∧ fromN lo hi (cellsN t) c ≤ fromN lo hi (cellsN t) (c + 1) - 1 := by
    simp only [cellB, hr, ht, hc, decide_false, Bool.true_and, Bool.false_or, Bool.and_eq_true, decide_eq_true_eq] at h
    exact ⟨h.1.1, h.1.2, h.2⟩
  obtain ⟨b1, b2⟩ := from_bounds lo hi (cellsN t) c (by omega) (by omega) (by omega) a5
  obtain ⟨b3, b4⟩ := from_bounds lo hi (cellsN t) (c + 1) (by omega) (by omega) (by omega) a5
  refine ⟨hr, ht, ?_⟩
  simp only [cellLo, cellHi, h, hc, if_true, if_false]
  omega

set_option maxHeartbeats 1600000 in
theorem iFiner_any (lo hi c f t : Int) (w : World) :
    Calls Try.prog 6 #[.agg #[.int .i64 lo, .int .i64 hi], .int .i64 c, .int .i64 f, .int .i64 t] w fun e w' => e = .returned (finerT lo hi c f t) ∧ Below w.heap.size w w' := by
  have HC := hide (iCellOf_any lo hi f c)
  have HG := hide (gridOf_any lo hi t)
  cases hb : finerB lo hi c f t
  · rw [finerT_no hb]
    obtain ⟨g1, g2, g3, hg⟩ : ∃ g1 g2 g3 : Int, (if gridB lo hi t then gridV lo hi t else .agg #[.int .i64 0, .int .i64 0, .int .u64 0]) = .agg #[.int .i64 g1, .int .i64 g2, .int .u64 g3] := by
      cases gridB lo hi t
      · exact ⟨0, 0, 0, rfl⟩
      · exact ⟨_, _, _, rfl⟩
    rw [hg] at HG
    have hgt : cellB lo hi f c = true → gridB lo hi t = tierB t := by
      intro q
      simp only [cellB, Bool.and_eq_true] at q
      simp [gridB, q.1.1]
    unfold cellT at HC
    unfold finerB at hb
    clear hg
    cases h1 : cellB lo hi f c
    · rw [h1] at HC
      clear hgt hb
      generalize gridB lo hi t = gb at HG
      generalize cellLo lo hi f c = m1 at HC
      generalize cellHi lo hi f c = m2 at HC
      go_enter Try.func6, Try.ntmps6
      go_wp2_with fail
      refine (HC.out _).mono ?_
      rintro e w1 ⟨rfl, hb⟩
      have hz := hb.size
      (try simp at hz)
      have g0 : w.heap.size < w1.heap.size := (by omega)
      have c00 : w1.cell? ⟨w.heap.size, 0, none⟩ = some (.int .i64 (lo)) := (hb.cell (p := ⟨w.heap.size, 0, none⟩) (by first | assumption | (simp; done) | (simp; omega) | (show _ < _; omega))).trans (by first | assumption | (simp [go_sem]; done) | (rw [World.cell?_alloc_past _ _ _ (by first | assumption | omega)]; first | assumption | (simp [go_sem]; done)) | (simp [go_sem, *]; done))
      have c01 : w1.cell? ⟨w.heap.size, 1, none⟩ = some (.int .i64 (hi)) := (hb.cell (p := ⟨w.heap.size, 1, none⟩) (by first | assumption | (simp; done) | (simp; omega) | (show _ < _; omega))).trans (by first | assumption | (simp [go_sem]; done) | (rw [World.cell?_alloc_past _ _ _ (by first | assumption | omega)]; first | assumption | (simp [go_sem]; done)) | (simp [go_sem, *]; done))
      have b_w1 := hb
      clear hb
      go_wp2_with fail
      refine (HG.out _).mono ?_
      rintro e w2 ⟨rfl, hb⟩
      have hz := hb.size
      (try simp at hz)
      have g0 : w.heap.size < w2.heap.size := (by omega)
      have b_w2 := hb
      clear hb
      go_wp2_with fail
      exact bodyPost_ret (v := .tuple #[.int .i64 0, .int .i64 0, .bool false]) (by simp [results, Try.results6, go_sem]) rfl ⟨rfl, (by repeat' first | with_reducible exact Below.refl _ _ | with_reducible assumption | with_reducible refine below_drewN ?_ _ | with_reducible refine balloc ?_ _ | with_reducible refine Below.drew ?_ | with_reducible refine Below.setCell ?_ (by first | (simp; done) | (simp; omega) | omega) _ | with_reducible refine bstep ?_ (by assumption))⟩
    · rw [h1] at HC hb
      have hgt := hgt h1
      rw [hgt] at HG
      clear hgt h1
      generalize cellLo lo hi f c = m1 at HC
      generalize cellHi lo hi f c = m2 at HC
      cases h2 : tierB t
      · rw [h2] at HG
        clear hb h2
        go_enter Try.func6, Try.ntmps6
        go_wp2_with fail
        refine (HC.out _).mono ?_
        rintro e w1 ⟨rfl, hb⟩
        have hz := hb.size
        (try simp at hz)
        have g0 : w.heap.size < w1.heap.size := (by omega)
        have c00 : w1.cell? ⟨w.heap.size, 0, none⟩ = some (.int .i64 (lo)) := (hb.cell (p := ⟨w.heap.size, 0, none⟩) (by first | assumption | (simp; done) | (simp; omega) | (show _ < _; omega))).trans (by first | assumption | (simp [go_sem]; done) | (rw [World.cell?_alloc_past _ _ _ (by first | assumption | omega)]; first | assumption | (simp [go_sem]; done)) | (simp [go_sem, *]; done))
        have c01 : w1.cell? ⟨w.heap.size, 1, none⟩ = some (.int .i64 (hi)) := (hb.cell (p := ⟨w.heap.size, 1, none⟩) (by first | assumption | (simp; done) | (simp; omega) | (show _ < _; omega))).trans (by first | assumption | (simp [go_sem]; done) | (rw [World.cell?_alloc_past _ _ _ (by first | assumption | omega)]; first | assumption | (simp [go_sem]; done)) | (simp [go_sem, *]; done))
        have b_w1 := hb
        clear hb
        go_wp2_with fail
        refine (HG.out _).mono ?_
        rintro e w2 ⟨rfl, hb⟩
        have hz := hb.size
        (try simp at hz)
        have g0 : w.heap.size < w2.heap.size := (by omega)
        have b_w2 := hb
        clear hb
        go_wp2_with fail
        exact bodyPost_ret (v := .tuple #[.int .i64 0, .int .i64 0, .bool false]) (by simp [results, Try.results6, go_sem]) rfl ⟨rfl, (by repeat' first | with_reducible exact Below.refl _ _ | with_reducible assumption | with_reducible refine below_drewN ?_ _ | with_reducible refine balloc ?_ _ | with_reducible refine Below.drew ?_ | with_reducible refine Below.setCell ?_ (by first | (simp; done) | (simp; omega) | omega) _ | with_reducible refine bstep ?_ (by assumption))⟩
      · rw [h2] at HG hb
        by_cases hc : c = -1
        · subst hc
          clear hb h2
          go_enter Try.func6, Try.ntmps6
          go_wp2_with fail
          refine (HC.out _).mono ?_
          rintro e w1 ⟨rfl, hb⟩
          have hz := hb.size
          (try simp at hz)
          have g0 : w.heap.size < w1.heap.size := (by omega)
          have c00 : w1.cell? ⟨w.heap.size, 0, none⟩ = some (.int .i64 (lo)) := (hb.cell (p := ⟨w.heap.size, 0, none⟩) (by first | assumption | (simp; done) | (simp; omega) | (show _ < _; omega))).trans (by first | assumption | (simp [go_sem]; done) | (rw [World.cell?_alloc_past _ _ _ (by first | assumption | omega)]; first | assumption | (simp [go_sem]; done)) | (simp [go_sem, *]; done))
          have c01 : w1.cell? ⟨w.heap.size, 1, none⟩ = some (.int .i64 (hi)) := (hb.cell (p := ⟨w.heap.size, 1, none⟩) (by first | assumption | (simp; done) | (simp; omega) | (show _ < _; omega))).trans (by first | assumption | (simp [go_sem]; done) | (rw [World.cell?_alloc_past _ _ _ (by first | assumption | omega)]; first | assumption | (simp [go_sem]; done)) | (simp [go_sem, *]; done))
          have b_w1 := hb
          clear hb
          go_wp2_with fail
          refine (HG.out _).mono ?_
          rintro e w2 ⟨rfl, hb⟩
          have hz := hb.size
          (try simp at hz)
          have g0 : w.heap.size < w2.heap.size := (by omega)
          have b_w2 := hb
          clear hb
          go_wp2_with fail
          exact bodyPost_ret (v := .tuple #[.int .i64 0, .int .i64 0, .bool false]) (by simp [results, Try.results6, go_sem]) rfl ⟨rfl, (by repeat' first | with_reducible exact Below.refl _ _ | with_reducible assumption | with_reducible refine below_drewN ?_ _ | with_reducible refine balloc ?_ _ | with_reducible refine Below.drew ?_ | with_reducible refine Below.setCell ?_ (by first | (simp; done) | (simp; omega) | omega) _ | with_reducible refine bstep ?_ (by assumption))⟩
        · have hlt : t < f := by simp [hc] at hb; exact hb
          have hce : (c == -1) = false := by simp; omega
          clear hb h2
          go_enter Try.func6, Try.ntmps6
          go_wp2_with fail
          refine (HC.out _).mono ?_
          rintro e w1 ⟨rfl, hb⟩
          have hz := hb.size
          (try simp at hz)
          have g0 : w.heap.size < w1.heap.size := (by omega)
          have c00 : w1.cell? ⟨w.heap.size, 0, none⟩ = some (.int .i64 (lo)) := (hb.cell (p := ⟨w.heap.size, 0, none⟩) (by first | assumption | (simp; done) | (simp; omega) | (show _ < _; omega))).trans (by first | assumption | (simp [go_sem]; done) | (rw [World.cell?_alloc_past _ _ _ (by first | assumption | omega)]; first | assumption | (simp [go_sem]; done)) | (simp [go_sem, *]; done))
          have c01 : w1.cell? ⟨w.heap.size, 1, none⟩ = some (.int .i64 (hi)) := (hb.cell (p := ⟨w.heap.size, 1, none⟩) (by first | assumption | (simp; done) | (simp; omega) | (show _ < _; omega))).trans (by first | assumption | (simp [go_sem]; done) | (rw [World.cell?_alloc_past _ _ _ (by first | assumption | omega)]; first | assumption | (simp [go_sem]; done)) | (simp [go_sem, *]; done))
          have b_w1 := hb
          clear hb
          go_wp2_with fail
          refine (HG.out _).mono ?_
          rintro e w2 ⟨rfl, hb⟩
          have hz := hb.size
          (try simp at hz)
          have g0 : w.heap.size < w2.heap.size := (by omega)
          have b_w2 := hb
          clear hb
          go_wp2_with fail
          exact bodyPost_ret (v := .tuple #[.int .i64 0, .int .i64 0, .bool false]) (by simp [results, Try.results6, go_sem]) rfl ⟨rfl, (by repeat' first | with_reducible exact Below.refl _ _ | with_reducible assumption | with_reducible refine below_drewN ?_ _ | with_reducible refine balloc ?_ _ | with_reducible refine Below.drew ?_ | with_reducible refine Below.setCell ?_ (by first | (simp; done) | (simp; omega) | omega) _ | with_reducible refine bstep ?_ (by assumption))⟩
  · simp only [finerT, hb, if_true]
    simp only [finerB, Bool.and_eq_true, Bool.not_eq_true', decide_eq_false_iff_not, decide_eq_true_eq] at hb
    obtain ⟨⟨⟨h1, hc⟩, h2⟩, h3⟩ := hb
    obtain ⟨hr, htf, k1, k2, k3⟩ := cell_within h1 hc
    have hgt : gridB lo hi t = true := by simp [gridB, hr, h2]
    have HK := hide (fun x w h0 h1 => gcodeOf_any lo hi t x w hr h2 h0 h1)
    rw [hgt] at HG
    unfold cellT at HC
    rw [h1] at HC
    simp only [if_true] at HG
    unfold gridV at HG HK
    generalize cellLo lo hi f c = m1 at HC k1 k2 ⊢
    generalize cellHi lo hi f c = m2 at HC k2 k3 ⊢
    generalize cellsN t = N at HK ⊢
    generalize bitsN t = B at HG HK
    have hce : (c == -1) = false := by simp; omega
    have hlt : ¬ t < f := by omega
    clear h1 h2 hr htf hgt h3
    go_enter Try.func6, Try.ntmps6
    go_wp2_with fail
    refine (HC.out _).mono ?_
    rintro e w1 ⟨rfl, hb⟩
    have hz := hb.size
    (try simp at hz)
    have g0 : w.heap.size < w1.heap.size := (by omega)
    have c00 : w1.cell? ⟨w.heap.size, 0, none⟩ = some (.int .i64 (lo)) := (hb.cell (p := ⟨w.heap.size, 0, none⟩) (by first | assumption | (simp; done) | (simp; omega) | (show _ < _; omega))).trans (by first | assumption | (simp [go_sem]; done) | (rw [World.cell?_alloc_past _ _ _ (by first | assumption | omega)]; first | assumption | (simp [go_sem]; done)) | (simp [go_sem, *]; done))
    have c01 : w1.cell? ⟨w.heap.size, 1, none⟩ = some (.int .i64 (hi)) := (hb.cell (p := ⟨w.heap.size, 1, none⟩) (by first | assumption | (simp; done) | (simp; omega) | (show _ < _; omega))).trans (by first | assumption | (simp [go_sem]; done) | (rw [World.cell?_alloc_past _ _ _ (by first | assumption | omega)]; first | assumption | (simp [go_sem]; done)) | (simp [go_sem, *]; done))
    have b_w1 := hb
    clear hb
    go_wp2_with fail
    refine (HG.out _).mono ?_
    rintro e w2 ⟨rfl, hb⟩
    have hz := hb.size
    (try simp at hz)
    have g0 : w.heap.size < w2.heap.size := (by omega)
    have g1 : w1.heap.size < w2.heap.size := (by omega)
    have c10 : w2.cell? ⟨w1.heap.size, 0, none⟩ = some (.int .i64 (m1)) := (hb.cell (p := ⟨w1.heap.size, 0, none⟩) (by first | assumption | (simp; done) | (simp; omega) | (show _ < _; omega))).trans (by first | assumption | (simp [go_sem]; done) | (rw [World.cell?_alloc_past _ _ _ (by first | assumption | omega)]; first | assumption | (simp [go_sem]; done)) | (simp [go_sem, *]; done))
    have c11 : w2.cell? ⟨w1.heap.size, 1, none⟩ = some (.int .i64 (m2)) := (hb.cell (p := ⟨w1.heap.size, 1, none⟩) (by first | assumption | (simp; done) | (simp; omega) | (show _ < _; omega))).trans (by first | assumption | (simp [go_sem]; done) | (rw [World.cell?_alloc_past _ _ _ (by first | assumption | omega)]; first | assumption | (simp [go_sem]; done)) | (simp [go_sem, *]; done))
    have b_w2 := hb
    clear hb
    go_upto_region 5 with fail
    have e10 : (w2.alloc (.cells #[.int .i64 lo, .int .i64 hi, .int .u64 B] 39)).cell? ⟨w1.heap.size, 0, none⟩ = some (.int .i64 m1) := (World.cell?_alloc_past _ _ _ g1).trans c10
    have e11 : (w2.alloc (.cells #[.int .i64 lo, .int .i64 hi, .int .u64 B] 39)).cell? ⟨w1.heap.size, 1, none⟩ = some (.int .i64 m2) := (World.cell?_alloc_past _ _ _ g1).trans c11
    go_region_held3 (fun w' => w1.heap.size < w'.heap.size ∧ w'.cell? ⟨w1.heap.size, 0, none⟩ = some (.int .i64 m1) ∧ w'.cell? ⟨w1.heap.size, 1, none⟩ = some (.int .i64 m2) ∧ w2.heap.size < w'.heap.size ∧ w'.cell? ⟨w2.heap.size, 0, none⟩ = some (.int .i64 lo) ∧ w'.cell? ⟨w2.heap.size, 1, none⟩ = some (.int .i64 hi) ∧ w'.cell? ⟨w2.heap.size, 2, none⟩ = some (.int .u64 B)) ((repeat' apply And.intro) <;> first | assumption | (simp [go_sem]; done) | (simp [go_sem]; omega) | (go_keep; done)) (first | (go_at_call 13; refine (HK.out _ _ (by omega) (by omega)).mono ?_; rintro e wn ⟨rfl, hb⟩; have hz := hb.size; (try simp at hz); have g0 : w1.heap.size < wn.heap.size := (by omega); have c00 : wn.cell? ⟨w1.heap.size, 0, none⟩ = some (.int .i64 (m1)) := (hb.cell (p := ⟨w1.heap.size, 0, none⟩) (by first | assumption | (simp; done) | (simp; omega) | (show _ < _; omega))).trans (by first | assumption | (simp [go_sem]; done) | (rw [World.cell?_alloc_past _ _ _ (by first | assumption | omega)]; first | assumption | (simp [go_sem]; done)) | (simp [go_sem, *]; done)); have c01 : wn.cell? ⟨w1.heap.size, 1, none⟩ = some (.int .i64 (m2)) := (hb.cell (p := ⟨w1.heap.size, 1, none⟩) (by first | assumption | (simp; done) | (simp; omega) | (show _ < _; omega))).trans (by first | assumption | (simp [go_sem]; done) | (rw [World.cell?_alloc_past _ _ _ (by first | assumption | omega)]; first | assumption | (simp [go_sem]; done)) | (simp [go_sem, *]; done)); have g1 : w2.heap.size < wn.heap.size := (by omega); have c10 : wn.cell? ⟨w2.heap.size, 0, none⟩ = some (.int .i64 (lo)) := (hb.cell (p := ⟨w2.heap.size, 0, none⟩) (by first | assumption | (simp; done) | (simp; omega) | (show _ < _; omega))).trans (by first | assumption | (simp [go_sem]; done) | (rw [World.cell?_alloc_past _ _ _ (by first | assumption | omega)]; first | assumption | (simp [go_sem]; done)) | (simp [go_sem, *]; done)); have c11 : wn.cell? ⟨w2.heap.size, 1, none⟩ = some (.int .i64 (hi)) := (hb.cell (p := ⟨w2.heap.size, 1, none⟩) (by first | assumption | (simp; done) | (simp; omega) | (show _ < _; omega))).trans (by first | assumption | (simp [go_sem]; done) | (rw [World.cell?_alloc_past _ _ _ (by first | assumption | omega)]; first | assumption | (simp [go_sem]; done)) | (simp [go_sem, *]; done)); have c12 : wn.cell? ⟨w2.heap.size, 2, none⟩ = some (.int .u64 (B)) := (hb.cell (p := ⟨w2.heap.size, 2, none⟩) (by first | assumption | (simp; done) | (simp; omega) | (show _ < _; omega))).trans (by first | assumption | (simp [go_sem]; done) | (rw [World.cell?_alloc_past _ _ _ (by first | assumption | omega)]; first | assumption | (simp [go_sem]; done)) | (simp [go_sem, *]; done))))
    all_goals
      go_wp2_with fail
      exact bodyPost_ret (v := .tuple #[.int .i64 (codeN lo hi N m1), .int .i64 (codeN lo hi N m2), .bool true]) (by simp [results, Try.results6, go_sem]) rfl ⟨rfl, (by repeat' first | with_reducible exact Below.refl _ _ | with_reducible assumption | with_reducible refine below_drewN ?_ _ | with_reducible refine balloc ?_ _ | with_reducible refine Below.drew ?_ | with_reducible refine Below.setCell ?_ (by first | (simp; done) | (simp; omega) | omega) _ | with_reducible refine bstep ?_ (by assumption))⟩
end Go.Proofs.Ytadedoogcdaimaa
