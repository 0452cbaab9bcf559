/- The plain facts of the law FnBetween: a number between two others parts their square. -/
import Derived.Test.YtkjkdafbfcfhfaaLA
namespace Go.Proofs.Ytkjkdafbfcfhfaa
open Go.RowKit
set_option linter.unusedSimpArgs false
set_option linter.unusedVariables false

/-- What the law appends: from the less one on, k of 256 parts of the way. -/
def midV (x y k : Int) : Int := min x y + (max (x - y) (y - x) * k) / 256
theorem part_bd {d k : Int} (hd : 0 ≤ d) (h0 : 0 ≤ k) (h1 : k ≤ 255) : 0 ≤ d * k / 256 ∧ d * k / 256 ≤ d := by
  have a := Int.mul_nonneg hd h0
  have b := Int.mul_le_mul_of_nonneg_left h1 hd
  omega
theorem midV_bd (x y : Int) {k : Int} (h0 : 0 ≤ k) (h1 : k ≤ 255) : min x y ≤ midV x y k ∧ midV x y k ≤ max x y := by
  have := part_bd (d := max (x - y) (y - x)) (by omega) h0 h1
  unfold midV
  omega
theorem midV_comp {x y k : Int} (hx : compB x = true) (hy : compB y = true) (h0 : 0 ≤ k) (h1 : k ≤ 255) : compB (midV x y k) = true := by
  have := midV_bd x y h0 h1
  simp only [compB, decide_eq_true_eq] at hx hy ⊢
  omega
theorem sq_add {p q : Int} (hp : 0 ≤ p) (hq : 0 ≤ q) : p * p + q * q ≤ (p + q) * (p + q) := by
  have := Int.mul_nonneg hp hq
  rw [Int.add_mul, Int.mul_add, Int.mul_add, Int.mul_comm q p]
  omega
theorem sq_neg (p : Int) : (-p) * (-p) = p * p := Int.neg_mul_neg p p
theorem sq_part {x m y : Int} (h : (x ≤ m ∧ m ≤ y) ∨ (y ≤ m ∧ m ≤ x)) : (x - m) * (x - m) + (m - y) * (m - y) ≤ (x - y) * (x - y) := by
  rcases h with ⟨h1, h2⟩ | ⟨h1, h2⟩
  · have := sq_add (p := m - x) (q := y - m) (by omega) (by omega)
    rw [show x - m = -(m - x) by omega, show m - y = -(y - m) by omega, show x - y = -(m - x + (y - m)) by omega, sq_neg, sq_neg, sq_neg]
    exact this
  · have := sq_add (p := x - m) (q := m - y) (by omega) (by omega)
    rw [show x - y = x - m + (m - y) by omega]
    exact this
theorem dsum_part {xs ms ys : List Int} : ∀ k : Nat, (∀ j, j < k → (nth xs j ≤ nth ms j ∧ nth ms j ≤ nth ys j) ∨ (nth ys j ≤ nth ms j ∧ nth ms j ≤ nth xs j)) → dsum xs ms k + dsum ms ys k ≤ dsum xs ys k
  | 0, _ => by simp [dsum]
  | k + 1, h => by
    have i := dsum_part k (fun j hj => h j (by omega))
    have s := sq_part (h k (by omega))
    simp only [dsum]
    omega
/-- The vector of the law: of xs and ys, by the bytes ks. -/
def midL (xs ys ks : List Int) : List Int := ints (fun j => midV (nth xs j) (nth ys j) (nth ks j)) xs.length
theorem distL_part {xs ys ks : List Int} (h : pairB xs ys = true) (hk : ∀ j, 0 ≤ nth ks j ∧ nth ks j ≤ 255) :
    pairB xs (midL xs ys ks) = true ∧ pairB (midL xs ys ks) ys = true ∧ distL xs (midL xs ys ks) + distL (midL xs ys ks) ys ≤ distL xs ys := by
  obtain ⟨hx, hy, hl⟩ := pairB_parts h
  obtain ⟨n1, n8, hc⟩ := vecOk_all hx rfl
  obtain ⟨_, _, hc'⟩ := vecOk_all hy hl.symm
  have hm : vecOkB (midL xs ys ks) = true := by
    unfold vecOkB midL
    rw [ints_len, decide_eq_true ⟨n1, n8⟩, Bool.true_and]
    refine all_nth ?_
    rw [ints_len]
    intro j hj
    rw [nth_ints _ _ _ hj]
    exact midV_comp (hc j hj) (hc' j hj) (hk j).1 (hk j).2
  have hml : (midL xs ys ks).length = xs.length := by unfold midL; rw [ints_len]
  have p1 : pairB xs (midL xs ys ks) = true := by unfold pairB; rw [hx, hm, decide_eq_true hml.symm]; rfl
  have p2 : pairB (midL xs ys ks) ys = true := by unfold pairB; rw [hy, hm, decide_eq_true (hml.trans hl)]; rfl
  refine ⟨p1, p2, ?_⟩
  unfold distL
  rw [p1, p2, h, if_pos rfl, if_pos rfl, if_pos rfl, hml]
  refine dsum_part _ fun j hj => ?_
  unfold midL
  rw [nth_ints _ _ _ hj]
  have := midV_bd (nth xs j) (nth ys j) (hk j).1 (hk j).2
  omega
end Go.Proofs.Ytkjkdafbfcfhfaa
