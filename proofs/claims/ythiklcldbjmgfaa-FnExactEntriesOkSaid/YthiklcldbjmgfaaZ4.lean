/- Cells of the model and of the program: CellOf. -/
import Derived.Test.YthiklcldbjmgfaaZ3
namespace Go.Proofs.Ythiklcldbjmgfaa
open Go.RowKit
set_option maxRecDepth 8000
set_option linter.unusedSimpArgs false
set_option linter.unusedVariables false

def cellT (lo hi t c : Int) : Value := .tuple #[.agg #[.int .i64 (cellLo lo hi t c), .int .i64 (cellHi lo hi t c)], .bool (cellB lo hi t c)]

theorem cellT_no {lo hi t c : Int} (h : cellB lo hi t c = false) : cellT lo hi t c = .tuple #[.agg #[.int .i64 0, .int .i64 0], .bool false] := by
  simp [cellT, cellLo, cellHi, h]

theorem cellT_all {lo hi t : Int} (hr : rightB lo hi = true) (ht : tierB t = true) : cellT lo hi t (-1) = .tuple #[.agg #[.int .i64 (-1048576), .int .i64 1048576], .bool true] := by
  simp [cellT, cellLo, cellHi, cellB, hr, ht]

theorem cellT_in {lo hi t c : Int} (hr : rightB lo hi = true) (ht : tierB t = true) (hc : c ≠ -1) : cellT lo hi t c = .tuple #[if inCell lo hi t c then .agg #[.int .i64 (fromN lo hi (cellsN t) c), .int .i64 (fromN lo hi (cellsN t) (c + 1) - 1)] else .agg #[.int .i64 0, .int .i64 0], .bool (inCell lo hi t c)] := by
  have hb : cellB lo hi t c = inCell lo hi t c := by simp [cellB, inCell, hr, ht, hc]
  cases hi' : inCell lo hi t c
  · rw [cellT_no (hb.trans hi')]; simp
  · simp [cellT, cellLo, cellHi, hb, hi', hc]

set_option maxHeartbeats 800000 in
theorem iCellOf_any (lo hi t c : Int) (w : World) :
    Calls Try.prog 62 #[.agg #[.int .i64 lo, .int .i64 hi], .int .i64 t, .int .i64 c] w fun e w' => e = .returned (cellT lo hi t c) ∧ Below w.heap.size w w' := by
  have HG := hide (gridOf_any lo hi t)
  cases hg : gridB lo hi t
  · have hz : cellB lo hi t c = false := by
      simp only [gridB] at hg
      unfold cellB
      cases h1 : rightB lo hi <;> cases h2 : tierB t <;> simp_all
    rw [cellT_no hz]
    rw [hg] at HG
    simp only [if_false, Bool.false_eq_true] at HG
    go_enter Try.func62, Try.ntmps62
    go_wp2_with fail
    refine (HG.out _).mono ?_
    rintro e w1 ⟨rfl, hb⟩
    have hz := hb.size
    (try simp at hz)
    have g0 : w.heap.size < w1.heap.size := (by omega)
    have g1 : w.heap.size + 1 < w1.heap.size := (by omega)
    have c10 : w1.cell? ⟨w.heap.size + 1, 0, none⟩ = some (.int .i64 (0)) := (hb.cell (p := ⟨w.heap.size + 1, 0, none⟩) (by first | assumption | (simp; done) | (simp; omega) | (show _ < _; omega))).trans (by first | assumption | (simp [go_sem]; done) | (rw [World.cell?_alloc_past _ _ _ (by first | assumption | omega)]; first | assumption | (simp [go_sem]; done)) | (simp [go_sem, *]; done))
    have f10 : w1.frozen? ⟨w.heap.size + 1, 0, none⟩ = false := (hb.frozen (p := ⟨w.heap.size + 1, 0, none⟩) (by first | assumption | (simp; done) | (simp; omega) | (show _ < _; omega))).trans (by first | assumption | (simp [go_sem]; done) | (rw [World.frozen?_alloc_past _ _ _ (by first | assumption | omega)]; first | assumption | (simp [go_sem]; done)) | (simp [go_sem, *]; done))
    have c11 : w1.cell? ⟨w.heap.size + 1, 1, none⟩ = some (.int .i64 (0)) := (hb.cell (p := ⟨w.heap.size + 1, 1, none⟩) (by first | assumption | (simp; done) | (simp; omega) | (show _ < _; omega))).trans (by first | assumption | (simp [go_sem]; done) | (rw [World.cell?_alloc_past _ _ _ (by first | assumption | omega)]; first | assumption | (simp [go_sem]; done)) | (simp [go_sem, *]; done))
    have f11 : w1.frozen? ⟨w.heap.size + 1, 1, none⟩ = false := (hb.frozen (p := ⟨w.heap.size + 1, 1, none⟩) (by first | assumption | (simp; done) | (simp; omega) | (show _ < _; omega))).trans (by first | assumption | (simp [go_sem]; done) | (rw [World.frozen?_alloc_past _ _ _ (by first | assumption | omega)]; first | assumption | (simp [go_sem]; done)) | (simp [go_sem, *]; done))
    have b_w1 := hb
    clear hb
    go_wp2_with fail
    refine bodyPost_ret (v := .tuple #[.agg #[.int .i64 0, .int .i64 0], .bool false]) ?_ rfl ⟨rfl, (by repeat' first | with_reducible exact Below.refl _ _ | with_reducible assumption | with_reducible refine below_drewN ?_ _ | with_reducible refine balloc ?_ _ | with_reducible refine Below.drew ?_ | with_reducible refine Below.setCell ?_ (by first | (simp; done) | (simp; omega) | omega) _ | with_reducible refine bstep ?_ (by assumption))⟩
    simp [results, Try.results62, go_sem, *]
  · have hr : rightB lo hi = true := by simp only [gridB, Bool.and_eq_true] at hg; exact hg.2
    have ht : tierB t = true := by simp only [gridB, Bool.and_eq_true] at hg; exact hg.1
    rw [hg] at HG
    simp only [if_true] at HG
    by_cases hc : c = -1
    · subst hc
      rw [cellT_all hr ht]
      unfold gridV at HG
      generalize bitsN t = B at HG
      go_enter Try.func62, Try.ntmps62
      go_wp2_with fail
      refine (HG.out _).mono ?_
      rintro e w1 ⟨rfl, hb⟩
      have hz := hb.size
      (try simp at hz)
      have g0 : w.heap.size < w1.heap.size := (by omega)
      have g1 : w.heap.size + 1 < w1.heap.size := (by omega)
      have c10 : w1.cell? ⟨w.heap.size + 1, 0, none⟩ = some (.int .i64 (0)) := (hb.cell (p := ⟨w.heap.size + 1, 0, none⟩) (by first | assumption | (simp; done) | (simp; omega) | (show _ < _; omega))).trans (by first | assumption | (simp [go_sem]; done) | (rw [World.cell?_alloc_past _ _ _ (by first | assumption | omega)]; first | assumption | (simp [go_sem]; done)) | (simp [go_sem, *]; done))
      have f10 : w1.frozen? ⟨w.heap.size + 1, 0, none⟩ = false := (hb.frozen (p := ⟨w.heap.size + 1, 0, none⟩) (by first | assumption | (simp; done) | (simp; omega) | (show _ < _; omega))).trans (by first | assumption | (simp [go_sem]; done) | (rw [World.frozen?_alloc_past _ _ _ (by first | assumption | omega)]; first | assumption | (simp [go_sem]; done)) | (simp [go_sem, *]; done))
      have c11 : w1.cell? ⟨w.heap.size + 1, 1, none⟩ = some (.int .i64 (0)) := (hb.cell (p := ⟨w.heap.size + 1, 1, none⟩) (by first | assumption | (simp; done) | (simp; omega) | (show _ < _; omega))).trans (by first | assumption | (simp [go_sem]; done) | (rw [World.cell?_alloc_past _ _ _ (by first | assumption | omega)]; first | assumption | (simp [go_sem]; done)) | (simp [go_sem, *]; done))
      have f11 : w1.frozen? ⟨w.heap.size + 1, 1, none⟩ = false := (hb.frozen (p := ⟨w.heap.size + 1, 1, none⟩) (by first | assumption | (simp; done) | (simp; omega) | (show _ < _; omega))).trans (by first | assumption | (simp [go_sem]; done) | (rw [World.frozen?_alloc_past _ _ _ (by first | assumption | omega)]; first | assumption | (simp [go_sem]; done)) | (simp [go_sem, *]; done))
      have b_w1 := hb
      clear hb
      go_wp2_with fail
      refine bodyPost_ret (v := .tuple #[.agg #[.int .i64 (-1048576), .int .i64 1048576], .bool true]) ?_ rfl ⟨rfl, (by repeat' first | with_reducible exact Below.refl _ _ | with_reducible assumption | with_reducible refine below_drewN ?_ _ | with_reducible refine balloc ?_ _ | with_reducible refine Below.drew ?_ | with_reducible refine Below.setCell ?_ (by first | (simp; done) | (simp; omega) | omega) _ | with_reducible refine bstep ?_ (by assumption))⟩
      simp [results, Try.results62, go_sem, *]
    · have HC := hide (fun w => gcell_any lo hi t c w hr ht (by omega))
      rw [cellT_in hr ht hc]
      obtain ⟨m1, m2, mb, hm⟩ : ∃ (m1 m2 : Int) (mb : Bool), Value.tuple #[if inCell lo hi t c then .agg #[.int .i64 (fromN lo hi (cellsN t) c), .int .i64 (fromN lo hi (cellsN t) (c + 1) - 1)] else .agg #[.int .i64 0, .int .i64 0], .bool (inCell lo hi t c)] = .tuple #[.agg #[.int .i64 m1, .int .i64 m2], .bool mb] := by
        cases inCell lo hi t c
        · exact ⟨0, 0, false, rfl⟩
        · exact ⟨_, _, true, rfl⟩
      rw [hm] at HC ⊢
      clear hm
      unfold gridV at HG HC
      generalize bitsN t = B at HG HC
      have hce : (c == -1) = false := by simp; omega
      go_enter Try.func62, Try.ntmps62
      go_wp2_with fail
      refine (HG.out _).mono ?_
      rintro e w1 ⟨rfl, hb⟩
      have hz := hb.size
      (try simp at hz)
      have g0 : w.heap.size < w1.heap.size := (by omega)
      have g1 : w.heap.size + 1 < w1.heap.size := (by omega)
      have c10 : w1.cell? ⟨w.heap.size + 1, 0, none⟩ = some (.int .i64 (0)) := (hb.cell (p := ⟨w.heap.size + 1, 0, none⟩) (by first | assumption | (simp; done) | (simp; omega) | (show _ < _; omega))).trans (by first | assumption | (simp [go_sem]; done) | (rw [World.cell?_alloc_past _ _ _ (by first | assumption | omega)]; first | assumption | (simp [go_sem]; done)) | (simp [go_sem, *]; done))
      have f10 : w1.frozen? ⟨w.heap.size + 1, 0, none⟩ = false := (hb.frozen (p := ⟨w.heap.size + 1, 0, none⟩) (by first | assumption | (simp; done) | (simp; omega) | (show _ < _; omega))).trans (by first | assumption | (simp [go_sem]; done) | (rw [World.frozen?_alloc_past _ _ _ (by first | assumption | omega)]; first | assumption | (simp [go_sem]; done)) | (simp [go_sem, *]; done))
      have c11 : w1.cell? ⟨w.heap.size + 1, 1, none⟩ = some (.int .i64 (0)) := (hb.cell (p := ⟨w.heap.size + 1, 1, none⟩) (by first | assumption | (simp; done) | (simp; omega) | (show _ < _; omega))).trans (by first | assumption | (simp [go_sem]; done) | (rw [World.cell?_alloc_past _ _ _ (by first | assumption | omega)]; first | assumption | (simp [go_sem]; done)) | (simp [go_sem, *]; done))
      have f11 : w1.frozen? ⟨w.heap.size + 1, 1, none⟩ = false := (hb.frozen (p := ⟨w.heap.size + 1, 1, none⟩) (by first | assumption | (simp; done) | (simp; omega) | (show _ < _; omega))).trans (by first | assumption | (simp [go_sem]; done) | (rw [World.frozen?_alloc_past _ _ _ (by first | assumption | omega)]; first | assumption | (simp [go_sem]; done)) | (simp [go_sem, *]; done))
      have b_w1 := hb
      clear hb
      go_wp2_with fail
      refine (HC.out _).mono ?_
      rintro e w2 ⟨rfl, hb⟩
      have hz := hb.size
      (try simp at hz)
      have g0 : w.heap.size < w2.heap.size := (by omega)
      have g1 : w.heap.size + 1 < w2.heap.size := (by omega)
      have c10 : w2.cell? ⟨w.heap.size + 1, 0, none⟩ = some (.int .i64 (0)) := (hb.cell (p := ⟨w.heap.size + 1, 0, none⟩) (by first | assumption | (simp; done) | (simp; omega) | (show _ < _; omega))).trans (by first | assumption | (simp [go_sem]; done) | (rw [World.cell?_alloc_past _ _ _ (by first | assumption | omega)]; first | assumption | (simp [go_sem]; done)) | (simp [go_sem, *]; done))
      have f10 : w2.frozen? ⟨w.heap.size + 1, 0, none⟩ = false := (hb.frozen (p := ⟨w.heap.size + 1, 0, none⟩) (by first | assumption | (simp; done) | (simp; omega) | (show _ < _; omega))).trans (by first | assumption | (simp [go_sem]; done) | (rw [World.frozen?_alloc_past _ _ _ (by first | assumption | omega)]; first | assumption | (simp [go_sem]; done)) | (simp [go_sem, *]; done))
      have c11 : w2.cell? ⟨w.heap.size + 1, 1, none⟩ = some (.int .i64 (0)) := (hb.cell (p := ⟨w.heap.size + 1, 1, none⟩) (by first | assumption | (simp; done) | (simp; omega) | (show _ < _; omega))).trans (by first | assumption | (simp [go_sem]; done) | (rw [World.cell?_alloc_past _ _ _ (by first | assumption | omega)]; first | assumption | (simp [go_sem]; done)) | (simp [go_sem, *]; done))
      have f11 : w2.frozen? ⟨w.heap.size + 1, 1, none⟩ = false := (hb.frozen (p := ⟨w.heap.size + 1, 1, none⟩) (by first | assumption | (simp; done) | (simp; omega) | (show _ < _; omega))).trans (by first | assumption | (simp [go_sem]; done) | (rw [World.frozen?_alloc_past _ _ _ (by first | assumption | omega)]; first | assumption | (simp [go_sem]; done)) | (simp [go_sem, *]; done))
      have b_w2 := hb
      clear hb
      go_wp2_with fail
      refine bodyPost_ret (v := .tuple #[.agg #[.int .i64 m1, .int .i64 m2], .bool mb]) ?_ rfl ⟨rfl, (by repeat' first | with_reducible exact Below.refl _ _ | with_reducible assumption | with_reducible refine below_drewN ?_ _ | with_reducible refine balloc ?_ _ | with_reducible refine Below.drew ?_ | with_reducible refine Below.setCell ?_ (by first | (simp; done) | (simp; omega) | omega) _ | with_reducible refine bstep ?_ (by assumption))⟩
      simp [results, Try.results62, go_sem, *]
end Go.Proofs.Ythiklcldbjmgfaa

/- Cells of the model: CellOf. -/
namespace Go.Proofs.Ythiklcldbjmgfaa
open Go.RowKit
set_option maxRecDepth 8000
set_option linter.unusedSimpArgs false
set_option linter.unusedVariables false



end Go.Proofs.Ythiklcldbjmgfaa