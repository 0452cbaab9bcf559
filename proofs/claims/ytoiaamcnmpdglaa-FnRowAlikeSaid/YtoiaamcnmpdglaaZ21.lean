/- The law FnDist: its plain facts, and its walk. -/
import Derived.Test.YtoiaamcnmpdglaaZ15
import Derived.Test.YtoiaamcnmpdglaaZ17
import Derived.Test.YtoiaamcnmpdglaaZ9
import Derived.Test.YtoiaamcnmpdglaaZ6
import Derived.OpenShut
namespace Go.Proofs.Ytoiaamcnmpdglaa
open Go.RowKit
set_option maxRecDepth 8000
set_option linter.unusedSimpArgs false
set_option linter.unusedVariables false

theorem dsum_comm (xs ys : List Int) : ∀ k, dsum xs ys k = dsum ys xs k
  | 0 => rfl
  | k + 1 => by
    have h : (nth xs k - nth ys k) * (nth xs k - nth ys k) = (nth ys k - nth xs k) * (nth ys k - nth xs k) := by
      rw [← Int.neg_mul_neg]; congr 1 <;> omega
    simp only [dsum, dsum_comm xs ys k, h]

theorem pairB_comm (xs ys : List Int) : pairB xs ys = pairB ys xs := by
  unfold pairB
  rw [Bool.and_comm (vecOkB xs)]
  congr 1
  exact decide_eq_decide.2 eq_comm

theorem distL_comm (xs ys : List Int) : distL xs ys = distL ys xs := by
  unfold distL
  rw [pairB_comm]
  cases h : pairB ys xs
  · rfl
  · have hl : ys.length = xs.length := by unfold pairB at h; simp only [Bool.and_eq_true, decide_eq_true_eq] at h; exact h.2
    simp only [if_true]
    rw [dsum_comm, hl]

theorem sq_zero {d : Int} (h : d * d = 0) : d = 0 := by
  rcases Int.mul_eq_zero.1 h with h | h <;> exact h

theorem dsum_zero {xs ys : List Int} {n : Nat} (hx : ∀ j, j < n → compB (nth xs j) = true) (hy : ∀ j, j < n → compB (nth ys j) = true) : ∀ k, k ≤ n → dsum xs ys k = 0 → ∀ j, j < k → nth xs j = nth ys j
  | 0, _, _ => fun j hj => absurd hj (by omega)
  | k + 1, hk, h => by
    have b0 := (dsum_bd hx hy k (by omega)).1
    have b1 := (sq_bd (hx k (by omega)) (hy k (by omega))).1
    simp only [dsum] at h
    have h1 : dsum xs ys k = 0 := by omega
    have h2 : (nth xs k - nth ys k) * (nth xs k - nth ys k) = 0 := by omega
    have h3 := sq_zero h2
    intro j hj
    rcases Nat.lt_succ_iff_lt_or_eq.1 hj with g | g
    · exact dsum_zero hx hy k (by omega) h1 j g
    · subst g; omega

theorem pairB_parts {xs ys : List Int} (h : pairB xs ys = true) : vecOkB xs = true ∧ vecOkB ys = true ∧ xs.length = ys.length := by
  unfold pairB at h
  simp only [Bool.and_eq_true, decide_eq_true_eq] at h
  exact ⟨h.1.1, h.1.2, h.2⟩

theorem distL_bd {xs ys : List Int} (h : pairB xs ys = true) : 0 ≤ distL xs ys ∧ distL xs ys ≤ 35184372088832 := by
  obtain ⟨hx, hy, hl⟩ := pairB_parts h
  obtain ⟨n1, n8, hc⟩ := vecOk_all hx rfl
  obtain ⟨_, _, hc'⟩ := vecOk_all hy hl.symm
  have := dsum_bd hc hc' xs.length (Nat.le_refl _)
  unfold distL
  rw [h, if_pos rfl]
  omega

theorem dsum_same (xs : List Int) : ∀ k, dsum xs xs k = 0
  | 0 => rfl
  | k + 1 => by simp [dsum, dsum_same xs k]

theorem distL_zero {xs ys : List Int} (h : pairB xs ys = true) : (distL xs ys == 0) = decide (xs = ys) := by
  obtain ⟨hx, hy, hl⟩ := pairB_parts h
  obtain ⟨n1, n8, hc⟩ := vecOk_all hx rfl
  obtain ⟨_, _, hc'⟩ := vecOk_all hy hl.symm
  unfold distL
  rw [h, if_pos rfl]
  by_cases e : xs = ys
  · subst e
    rw [decide_eq_true rfl, dsum_same]; rfl
  · rw [decide_eq_false e]
    rw [beq_eq_false_iff_ne]
    intro h0
    exact e (nth_ext hl (dsum_zero hc hc' xs.length (Nat.le_refl _) h0))

end Go.Proofs.Ytoiaamcnmpdglaa
/- The plain facts of the law FnBetween: a number between two others parts their square. -/
namespace Go.Proofs.Ytoiaamcnmpdglaa
open Go.RowKit
set_option maxRecDepth 8000
set_option linter.unusedSimpArgs false
set_option linter.unusedVariables false

/-- What the law appends: from the less one on, k of 256 parts of the way. -/
def midV (x y k : Int) : Int := min x y + (max (x - y) (y - x) * k) / 256

theorem part_bd {d k : Int} (hd : 0 ≤ d) (h0 : 0 ≤ k) (h1 : k ≤ 255) : 0 ≤ d * k / 256 ∧ d * k / 256 ≤ d := by
  have a := Int.mul_nonneg hd h0
  have b := Int.mul_le_mul_of_nonneg_left h1 hd
  omega

theorem midV_bd (x y : Int) {k : Int} (h0 : 0 ≤ k) (h1 : k ≤ 255) : min x y ≤ midV x y k ∧ midV x y k ≤ max x y := by
  have := part_bd (d := max (x - y) (y - x)) (by omega) h0 h1
  unfold midV
  omega

theorem midV_comp {x y k : Int} (hx : compB x = true) (hy : compB y = true) (h0 : 0 ≤ k) (h1 : k ≤ 255) : compB (midV x y k) = true := by
  have := midV_bd x y h0 h1
  simp only [compB, decide_eq_true_eq] at hx hy ⊢
  omega

theorem sq_add {p q : Int} (hp : 0 ≤ p) (hq : 0 ≤ q) : p * p + q * q ≤ (p + q) * (p + q) := by
  have := Int.mul_nonneg hp hq
  rw [Int.add_mul, Int.mul_add, Int.mul_add, Int.mul_comm q p]
  omega

theorem sq_neg (p : Int) : (-p) * (-p) = p * p := Int.neg_mul_neg p p

theorem sq_part {x m y : Int} (h : (x ≤ m ∧ m ≤ y) ∨ (y ≤ m ∧ m ≤ x)) : (x - m) * (x - m) + (m - y) * (m - y) ≤ (x - y) * (x - y) := by
  rcases h with ⟨h1, h2⟩ | ⟨h1, h2⟩
  · have := sq_add (p := m - x) (q := y - m) (by omega) (by omega)
    rw [show x - m = -(m - x) by omega, show m - y = -(y - m) by omega, show x - y = -(m - x + (y - m)) by omega, sq_neg, sq_neg, sq_neg]
    exact this
  · have := sq_add (p := x - m) (q := m - y) (by omega) (by omega)
    rw [show x - y = x - m + (m - y) by omega]
    exact this

theorem dsum_part {xs ms ys : List Int} : ∀ k : Nat, (∀ j, j < k → (nth xs j ≤ nth ms j ∧ nth ms j ≤ nth ys j) ∨ (nth ys j ≤ nth ms j ∧ nth ms j ≤ nth xs j)) → dsum xs ms k + dsum ms ys k ≤ dsum xs ys k
  | 0, _ => by simp [dsum]
  | k + 1, h => by
    have i := dsum_part k (fun j hj => h j (by omega))
    have s := sq_part (h k (by omega))
    simp only [dsum]
    omega
/-- The vector of the law: of xs and ys, by the bytes ks. -/
def midL (xs ys ks : List Int) : List Int := ints (fun j => midV (nth xs j) (nth ys j) (nth ks j)) xs.length

theorem distL_part {xs ys ks : List Int} (h : pairB xs ys = true) (hk : ∀ j, 0 ≤ nth ks j ∧ nth ks j ≤ 255) :
    pairB xs (midL xs ys ks) = true ∧ pairB (midL xs ys ks) ys = true ∧ distL xs (midL xs ys ks) + distL (midL xs ys ks) ys ≤ distL xs ys := by
  obtain ⟨hx, hy, hl⟩ := pairB_parts h
  obtain ⟨n1, n8, hc⟩ := vecOk_all hx rfl
  obtain ⟨_, _, hc'⟩ := vecOk_all hy hl.symm
  have hm : vecOkB (midL xs ys ks) = true := by
    unfold vecOkB midL
    rw [ints_len, decide_eq_true ⟨n1, n8⟩, Bool.true_and]
    refine all_nth ?_
    rw [ints_len]
    intro j hj
    rw [nth_ints _ _ _ hj]
    exact midV_comp (hc j hj) (hc' j hj) (hk j).1 (hk j).2
  have hml : (midL xs ys ks).length = xs.length := by unfold midL; rw [ints_len]
  have p1 : pairB xs (midL xs ys ks) = true := by unfold pairB; rw [hx, hm, decide_eq_true hml.symm]; rfl
  have p2 : pairB (midL xs ys ks) ys = true := by unfold pairB; rw [hy, hm, decide_eq_true (hml.trans hl)]; rfl
  refine ⟨p1, p2, ?_⟩
  unfold distL
  rw [p1, p2, h, if_pos rfl, if_pos rfl, if_pos rfl, hml]
  refine dsum_part _ fun j hj => ?_
  unfold midL
  rw [nth_ints _ _ _ hj]
  have := midV_bd (nth xs j) (nth ys j) (hk j).1 (hk j).2
  omega
end Go.Proofs.Ytoiaamcnmpdglaa

/- byteOf of the laws: a byte of a code, 0 where there is none. -/
namespace Go.Proofs.Ytoiaamcnmpdglaa
open Go.RowKit
set_option maxRecDepth 8000
set_option linter.unusedSimpArgs false
set_option linter.unusedVariables false

set_option maxHeartbeats 1000000 in
theorem byteOf_any (a : Option Addr) (n cap i : Nat) (w : World) (h : Code w a n) (hi : i ≤ 1048576) :
    Calls Try.prog 52 #[.slice a n cap, .int .i64 i] w fun e w' => (∃ z : Int, (0 ≤ z ∧ z ≤ 255) ∧ e = .returned (.int .i64 z)) ∧ w' = w := by
  have hn := h.small
  by_cases h0 : n = 0
  · subst h0
    go_enter Try.func52, Try.ntmps52
    go_wp2
    go_ret
    exact ⟨⟨0, by omega, rfl⟩, rfl⟩
  · rcases h.lies with hc | ⟨b, off, rfl, hb, hc⟩
    · exact absurd hc h0
    · have hm := Nat.mod_lt i (show 0 < n by omega)
      obtain ⟨z, z0, z1, hz⟩ := hc (i % n) hm
      have e1 : (i : Int) % (n : Int) = ((i % n : Nat) : Int) := rfl
      have hne : ((n : Int) == 0) = false := by simp; omega
      obtain ⟨j, hj⟩ : ∃ j, i % n = j := ⟨_, rfl⟩
      rw [hj] at e1 hz hm
      have hjn : (j : Int) < (n : Int) := by omega
      clear hc h
      go_enter Try.func52, Try.ntmps52
      go_wp2
      go_ret
      exact ⟨⟨z, ⟨z0, z1⟩, by simp⟩, rfl⟩
end Go.Proofs.Ytoiaamcnmpdglaa
