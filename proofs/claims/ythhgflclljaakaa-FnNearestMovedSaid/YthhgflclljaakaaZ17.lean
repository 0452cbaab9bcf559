/- VecAdd of the program; the walk of the law FnExactVecAdd. -/
import Derived.Test.YthhgflclljaakaaZ6
import Derived.Test.YthhgflclljaakaaZ8
namespace Go.Proofs.Ythhgflclljaakaa
open Go.RowKit
set_option maxRecDepth 8000
set_option linter.unusedSimpArgs false

def IAddPost (w : World) (xs ys : List Int) (e : Ending) (w' : World) : Prop :=
  ∃ v, e = .returned (.tuple #[v, .bool (addOkB xs ys)]) ∧ Fresh w.heap.size w' v (addL xs ys) ∧ Below w.heap.size w w'

set_option maxHeartbeats 2000000 in
theorem iVecAdd_any (a a' : Option Addr) (n cap n' cap' : Nat) (xs ys : List Int) (w : World) (h : Row w a n xs) (h' : Row w a' n' ys) (hn : n ≤ 1048576) (hn' : n' ≤ 1048576) :
    Calls Try.prog 12 #[.slice a n cap, .slice a' n' cap'] w fun e w' => IAddPost w xs ys e w' := by
  have H := vectorsOf_any a a' n cap n' cap' xs ys w h h' hn hn'
  cases hp : pairB xs ys
  · rw [hp] at H
    have hao : addOkB xs ys = false := by unfold addOkB; unfold pairB at hp; rw [hp, Bool.false_and]
    simp only [Bool.false_eq_true, if_false, vecV] at H
    have K := hide H
    have HA := hide hao
    clear H h h' hao hp
    go_enter Try.func12, Try.ntmps12
    go_wp2_with fail
    refine K.out.mono ?_
    rintro e w1 ⟨rfl, hb⟩
    go_wp2
    go_ret2
    exact ⟨.slice none 0 0, by rw [HA.out]; rfl, .inl ⟨rfl, by unfold addL; rw [HA.out]; rfl⟩, (by repeat' first | with_reducible exact Below.refl _ _ | with_reducible assumption | with_reducible refine below_drewN ?_ _ | with_reducible refine balloc ?_ _ | with_reducible refine Below.drew ?_ | with_reducible refine Below.setCell ?_ (by first | (simp; done) | (simp; omega) | omega) _ | with_reducible refine bstep ?_ (by assumption))⟩
  · rw [hp] at H
    have hx : vecOkB xs = true := by unfold pairB at hp; simp only [Bool.and_eq_true] at hp; exact hp.1.1
    have hy : vecOkB ys = true := by unfold pairB at hp; simp only [Bool.and_eq_true] at hp; exact hp.1.2
    have hl := h.len
    have hl' := h'.len
    obtain ⟨n1, n8, _⟩ := vecOk_bd hx hl
    have P := hide (fun w => plus_any xs ys n n' w (bd8 hx hl) (bd8 hy hl'))
    have L := hide (fun w => list_any (ints (fun j => nth xs j + nth ys j) 8) n w n1 n8)
    simp only [nth_ints _ 8 0 (by omega), nth_ints _ 8 1 (by omega), nth_ints _ 8 2 (by omega), nth_ints _ 8 3 (by omega), nth_ints _ 8 4 (by omega), nth_ints _ 8 5 (by omega), nth_ints _ 8 6 (by omega), nth_ints _ 8 7 (by omega)] at L
    have e8 : ints (nth (ints (fun j => nth xs j + nth ys j) 8)) n = ints (sumF xs ys) n := by
      unfold ints
      exact List.map_congr_left fun j hj => nth_ints _ 8 j (by have := List.mem_range.1 hj; omega)
    rw [e8] at L
    have hao : addOkB xs ys = vecOkB (ints (sumF xs ys) n) := by unfold addOkB; unfold pairB at hp; rw [hp, Bool.true_and, hl]
    have V := hide (fun g w (ho : Own w g (ints (sumF xs ys) n)) => iVecOk_any (some ⟨g, 0, none⟩) n n (ints (sumF xs ys) n) w (by have := ho.row; rw [ints_len] at this; exact this) (by omega))
    simp only [if_true, vecV] at H
    have K := hide H
    have HA := hide hao
    clear H h h' e8 hp hx hy hao
    cases hok : vecOkB (ints (sumF xs ys) n)
    · rw [hok] at V HA
      go_enter Try.func12, Try.ntmps12
      go_wp2_with fail
      refine K.out.mono ?_
      rintro e w1 ⟨rfl, hb⟩
      go_wp2_with fail
      refine (P.out _).mono ?_
      rintro e w2 ⟨rfl, hb2⟩
      go_wp2_with fail
      refine (L.out _).mono ?_
      rintro e w3 ⟨g, rfl, hg, ho, hb3⟩
      go_wp2_with fail
      refine (V.out _ _ ho).mono ?_
      rintro e w4 ⟨rfl, hb4⟩
      go_wp2
      go_ret2
      exact ⟨.slice none 0 0, by rw [HA.out]; rfl, .inl ⟨rfl, by unfold addL; rw [HA.out]; rfl⟩, (by repeat' first | with_reducible exact Below.refl _ _ | with_reducible assumption | with_reducible refine below_drewN ?_ _ | with_reducible refine balloc ?_ _ | with_reducible refine Below.drew ?_ | with_reducible refine Below.setCell ?_ (by first | (simp; done) | (simp; omega) | omega) _ | with_reducible refine bstep ?_ (by assumption))⟩
    · rw [hok] at V HA
      go_enter Try.func12, Try.ntmps12
      go_wp2_with fail
      refine K.out.mono ?_
      rintro e w1 ⟨rfl, hb⟩
      go_wp2_with fail
      refine (P.out _).mono ?_
      rintro e w2 ⟨rfl, hb2⟩
      go_wp2_with fail
      refine (L.out _).mono ?_
      rintro e w3 ⟨g, rfl, hg, ho, hb3⟩
      go_wp2_with fail
      refine (V.out _ _ ho).mono ?_
      rintro e w4 ⟨rfl, hb4⟩
      go_wp2
      go_ret2
      have hB : Below w.heap.size w w2 := (by repeat' first | with_reducible exact Below.refl _ _ | with_reducible assumption | with_reducible refine below_drewN ?_ _ | with_reducible refine balloc ?_ _ | with_reducible refine Below.drew ?_ | with_reducible refine Below.setCell ?_ (by first | (simp; done) | (simp; omega) | omega) _ | with_reducible refine bstep ?_ (by assumption))
      have ho4 := ho.below hb4
      have eA : addL xs ys = ints (sumF xs ys) n := by unfold addL; rw [HA.out, if_pos rfl, hl]
      refine ⟨.slice (some ⟨g, 0, none⟩) n n, by rw [HA.out]; rfl, .inr ⟨g, ?_, by have := hB.size; omega, ?_⟩, (by repeat' first | with_reducible exact Below.refl _ _ | with_reducible assumption | with_reducible refine below_drewN ?_ _ | with_reducible refine balloc ?_ _ | with_reducible refine Below.drew ?_ | with_reducible refine Below.setCell ?_ (by first | (simp; done) | (simp; omega) | omega) _ | with_reducible refine bstep ?_ (by assumption))⟩
      · rw [eA, ints_len]
      · rw [eA]; exact ho4
end Go.Proofs.Ythhgflclljaakaa
