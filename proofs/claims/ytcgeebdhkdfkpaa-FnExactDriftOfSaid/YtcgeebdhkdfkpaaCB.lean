/- Cells: how many, of the program and of the model. -/
import Derived.Test.YtcgeebdhkdfkpaaCA
namespace Go.Proofs.Ytcgeebdhkdfkpaa
open Go.RowKit
set_option maxRecDepth 8000
set_option linter.unusedSimpArgs false

theorem tier_cases {t : Int} (h : tierB t = true) : t = 1 ∨ t = 2 ∨ t = 3 := by simp only [tierB, decide_eq_true_eq] at h; omega

theorem tier_no {t : Int} (h : tierB t = false) : (t == 1) = false ∧ (t == 2) = false ∧ (t == 3) = false := by
  simp only [tierB, decide_eq_false_iff_not] at h
  refine ⟨?_, ?_, ?_⟩ <;> (simp; omega)

set_option maxHeartbeats 400000 in
theorem bitsOf_any (t : Int) (w : World) :
    Calls Try.prog 44 #[.int .i64 t] w fun e w' => e = .returned (.tuple #[.int .u64 (bitsN t), .bool (tierB t)]) ∧ w' = w := by
  cases h : tierB t
  · obtain ⟨h1, h2, h3⟩ := tier_no h
    have hb : bitsN t = 0 := by simp at h1 h2 h3; simp [bitsN, h1, h2, h3]
    rw [hb]; clear hb
    go_enter Try.func44, Try.ntmps44
    go_wp2
    exact bodyPost_ret (v := .tuple #[.int .u64 0, .bool false]) (by simp [results, Try.results44, go_sem]) rfl ⟨rfl, rfl⟩
  · rcases tier_cases h with rfl | rfl | rfl
    all_goals
      go_enter Try.func44, Try.ntmps44
      go_wp2
      exact bodyPost_ret (by simp [results, Try.results44, go_sem]; rfl) rfl ⟨rfl, rfl⟩

set_option maxHeartbeats 400000 in
theorem l3Tier_any (t : Int) (w : World) :
    Calls Try.prog 37 #[.int .i64 t] w fun e w' => e = .returned (.bool (tierB t)) ∧ w' = w := by
  go_enter Try.func37, Try.ntmps37
  go_wp2_with (go_at_call 24; refine (l1In_any _ _ _ _).mono ?_; rintro e w' ⟨rfl, rfl⟩)
  go_ret
  exact ⟨rfl, rfl⟩



set_option maxHeartbeats 400000 in
theorem sCellsOf_any (t : Int) (w : World) :
    Calls Try.prog 38 #[.int .i64 t] w fun e w' => e = .returned (.int .i64 (cellsN t)) ∧ Below w.heap.size w w' := by
  have B := l3Tier_any t w
  cases h : tierB t
  · obtain ⟨h1, h2, h3⟩ := tier_no h
    have hb : cellsN t = 0 := by simp at h1 h2 h3; simp [cellsN, h1, h2, h3]
    rw [hb]; clear hb
    rw [h] at B
    go_enter Try.func38, Try.ntmps38
    go_wp2_with fail
    refine B.mono ?_
    rintro e w' ⟨rfl, rfl⟩
    go_wp2
    go_ret
    exact ⟨rfl, (by repeat' first | with_reducible exact Below.refl _ _ | with_reducible assumption | with_reducible refine below_drewN ?_ _ | with_reducible refine balloc ?_ _ | with_reducible refine Below.drew ?_ | with_reducible refine Below.setCell ?_ (by first | (simp; done) | (simp; omega) | omega) _ | with_reducible refine bstep ?_ (by assumption))⟩
  · rw [h] at B
    rcases tier_cases h with rfl | rfl | rfl
    all_goals
      simp only [show cellsN 1 = 2 from rfl, show cellsN 2 = 16 from rfl, show cellsN 3 = 256 from rfl]
      go_enter Try.func38, Try.ntmps38
      go_wp2_with fail
      refine B.mono ?_
      rintro e w' ⟨rfl, rfl⟩
      go_wp2
      go_ret
      exact ⟨rfl, (by repeat' first | with_reducible exact Below.refl _ _ | with_reducible assumption | with_reducible refine below_drewN ?_ _ | with_reducible refine balloc ?_ _ | with_reducible refine Below.drew ?_ | with_reducible refine Below.setCell ?_ (by first | (simp; done) | (simp; omega) | omega) _ | with_reducible refine bstep ?_ (by assumption))⟩
end Go.Proofs.Ytcgeebdhkdfkpaa
