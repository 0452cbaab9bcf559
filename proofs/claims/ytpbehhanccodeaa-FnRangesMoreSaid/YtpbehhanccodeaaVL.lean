/- VecNeg, VecAdd of the program. -/
import Derived.Test.YtpbehhanccodeaaVK
import Derived.Test.YtpbehhanccodeaaVE
namespace Go.Proofs.Ytpbehhanccodeaa
open Go.RowKit
set_option maxRecDepth 8000
set_option linter.unusedSimpArgs false

theorem bd8 {xs : List Int} {n : Nat} (h : vecOkB xs = true) (hl : xs.length = n) : ∀ j, j < 8 → -1048576 ≤ nth xs j ∧ nth xs j ≤ 1048576 := by
  intro j hj
  obtain ⟨_, _, hc⟩ := vecOk_bd h hl
  by_cases hjn : j < n
  · exact hc j hjn
  · rw [nth_past (by omega)]; omega

/-- A list of numbers made by f, read again by its places. -/
theorem ints_nth (f : Nat → Int) (n : Nat) : ints (nth (ints f n)) n = ints f n := by
  unfold ints
  exact List.map_congr_left fun j hj => nth_ints f n j (List.mem_range.1 hj)

/-- An answer of the program: nil, or a row of its own. -/
def Fresh (base : Nat) (w : World) (v : Value) (xs : List Int) : Prop :=
  (v = .slice none 0 0 ∧ xs = []) ∨ ∃ g, v = .slice (some ⟨g, 0, none⟩) xs.length xs.length ∧ base ≤ g ∧ Own w g xs

set_option maxHeartbeats 1000000 in
theorem iVecNeg_any (a : Option Addr) (n cap : Nat) (xs : List Int) (w : World) (h : Row w a n xs) (hn : n ≤ 1048576) :
    Calls Try.prog 11 #[.slice a n cap] w fun e w' => ∃ v, e = .returned v ∧ Fresh w.heap.size w' v (negL xs) ∧ Below w.heap.size w w' := by
  have H := vectorOf_any a n cap xs w h hn
  unfold negL
  cases hv : vecOkB xs
  · rw [hv] at H
    simp only [Bool.false_eq_true, if_false, vecV] at H ⊢
    have K := hide H
    clear H h
    go_enter Try.func11, Try.ntmps11
    go_wp2_with fail
    refine K.out.mono ?_
    rintro e w1 ⟨rfl, hb⟩
    go_wp2
    go_ret
    exact ⟨_, rfl, .inl ⟨rfl, rfl⟩, (by repeat' first | with_reducible exact Below.refl _ _ | with_reducible assumption | with_reducible refine below_drewN ?_ _ | with_reducible refine balloc ?_ _ | with_reducible refine Below.drew ?_ | with_reducible refine Below.setCell ?_ (by first | (simp; done) | (simp; omega) | omega) _ | with_reducible refine bstep ?_ (by assumption))⟩
  · rw [hv] at H
    obtain ⟨n1, n8, _⟩ := vecOk_bd hv h.len
    have hl := h.len
    have T := hide (fun w => turned_any xs n w (bd8 hv hl))
    have L := hide (fun w => list_any (ints (fun j => -(nth xs j)) 8) n w n1 n8)
    simp only [nth_ints _ 8 0 (by omega), nth_ints _ 8 1 (by omega), nth_ints _ 8 2 (by omega), nth_ints _ 8 3 (by omega), nth_ints _ 8 4 (by omega), nth_ints _ 8 5 (by omega), nth_ints _ 8 6 (by omega), nth_ints _ 8 7 (by omega)] at L
    have e8 : ints (nth (ints (fun j => -(nth xs j)) 8)) n = ints (fun j => -(nth xs j)) n := by
      unfold ints
      exact List.map_congr_left fun j hj => nth_ints _ 8 j (by have := List.mem_range.1 hj; omega)
    rw [e8] at L
    simp only [if_true, vecV] at H ⊢
    rw [hl]
    have K := hide H
    clear H h e8 hl
    go_enter Try.func11, Try.ntmps11
    go_wp2_with fail
    refine K.out.mono ?_
    rintro e w1 ⟨rfl, hb⟩
    go_wp2_with fail
    refine (T.out _).mono ?_
    rintro e w2 ⟨rfl, hb2⟩
    go_wp2_with fail
    refine (L.out _).mono ?_
    rintro e w3 ⟨g, rfl, hg, ho, hb3⟩
    go_wp2
    go_ret
    have hB : Below w.heap.size w w2 := (by repeat' first | with_reducible exact Below.refl _ _ | with_reducible assumption | with_reducible refine below_drewN ?_ _ | with_reducible refine balloc ?_ _ | with_reducible refine Below.drew ?_ | with_reducible refine Below.setCell ?_ (by first | (simp; done) | (simp; omega) | omega) _ | with_reducible refine bstep ?_ (by assumption))
    exact ⟨_, rfl, .inr ⟨g, by rw [ints_len]; rfl, by have := hB.size; omega, ho⟩, (by repeat' first | with_reducible exact Below.refl _ _ | with_reducible assumption | with_reducible refine below_drewN ?_ _ | with_reducible refine balloc ?_ _ | with_reducible refine Below.drew ?_ | with_reducible refine Below.setCell ?_ (by first | (simp; done) | (simp; omega) | omega) _ | with_reducible refine bstep ?_ (by assumption))⟩
end Go.Proofs.Ytpbehhanccodeaa
