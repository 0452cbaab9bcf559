/- Rows of vectors, plain: they are right, and have as many codes of -1 as numbers that are in no range. -/
import Derived.Test.YtcgeebdhkdfkpaaKN
import Derived.Test.YtcgeebdhkdfkpaaKK
namespace Go.Proofs.Ytcgeebdhkdfkpaa
open Go.RowKit
set_option maxRecDepth 8000
set_option linter.unusedSimpArgs false
set_option linter.unusedVariables false

theorem code_mono0 (lo hi N x y : Int) (hN : 0 < N) (hS : lo ≤ hi) (h : x ≤ y) : codeN lo hi N x ≤ codeN lo hi N y := by
  unfold codeN
  refine Int.ediv_le_ediv (by omega) ?_
  have := Int.mul_le_mul_of_nonneg_right (show x - lo + 1 ≤ y - lo + 1 by omega) (show 0 ≤ N by omega)
  omega

theorem from_scale0 (lo hi N k i : Int) (hk : 0 < k) : fromN lo hi (N * k) (i * k) = fromN lo hi N i := by
  unfold fromN
  rw [← Int.mul_assoc, Int.mul_ediv_mul_of_pos_left _ _ hk]

theorem code_scale0 (lo hi N k x : Int) (hN : 0 < N) (hk : 0 < k) (hS : lo ≤ hi) : codeN lo hi (N * k) x / k = codeN lo hi N x := by
  have key : ∀ q : Int, q ≤ codeN lo hi (N * k) x / k ↔ q ≤ codeN lo hi N x := by
    intro q
    rw [Int.le_ediv_iff_mul_le hk, ← from_le lo hi (N * k) (q * k) x (Int.mul_pos hN hk) hS, from_scale0 lo hi N k q hk, from_le lo hi N q x hN hS]
  have a := (key (codeN lo hi (N * k) x / k)).1 (Int.le_refl _)
  have b := (key (codeN lo hi N x)).2 (Int.le_refl _)
  omega

theorem codeB_in {lo hi x t : Int} (hr : rightB lo hi = true) (h : lo ≤ x ∧ x ≤ hi) (ht : tierB t = true) : codeB lo hi t x = codeN lo hi (cellsN t) x := by
  unfold codeB hasB inB
  rw [hr, decide_eq_true h, ht]
  rfl
/-- A number's codes are those of a number. -/
theorem rowAt_code {lo hi x : Int} (hr : rightB lo hi = true) (hx : compB x = true) : rowAt lo hi (codeB lo hi 1 x) (codeB lo hi 2 x) (codeB lo hi 3 x) = true := by
  obtain ⟨a1, a2, a3, a4, a5⟩ := right_nums hr
  have hx' : -1048576 ≤ x ∧ x ≤ 1048576 := of_decide_eq_true hx
  by_cases h : lo ≤ x ∧ x ≤ hi
  · rw [codeB_in hr h rfl, codeB_in hr h rfl, codeB_in hr h rfl]
    show rowAt lo hi (codeN lo hi 2 x) (codeN lo hi 16 x) (codeN lo hi 256 x) = true
    have c0 := code_nonneg lo hi 256 x (by omega) h.1 a5
    have c1 := code_lt lo hi 256 x (by omega) h.2 a5
    have e1 : fromN lo hi 256 (codeN lo hi 256 x) ≤ x := (from_le lo hi 256 _ x (by omega) a5).2 (Int.le_refl _)
    have e2 : ¬ fromN lo hi 256 (codeN lo hi 256 x + 1) ≤ x := fun q => by have := (from_le lo hi 256 _ x (by omega) a5).1 q; omega
    have fb := from_bounds lo hi 256 (codeN lo hi 256 x) (by omega) c0 (by omega) a5
    have hcB : cellB lo hi 3 (codeN lo hi 256 x) = true := by
      simp only [cellB, hr, show tierB 3 = true from rfl, show cellsN 3 = 256 from rfl, Bool.true_and, Bool.or_eq_true, Bool.and_eq_true, decide_eq_true_eq]
      exact .inr ⟨⟨c0, c1⟩, by omega⟩
    have hne : ¬ codeN lo hi 256 x = -1 := by omega
    have hcl : cellLo lo hi 3 (codeN lo hi 256 x) = fromN lo hi 256 (codeN lo hi 256 x) := by simp only [cellLo, hcB, if_true, hne, if_false, show cellsN 3 = 256 from rfl]
    obtain ⟨y, hy⟩ : ∃ y, fromN lo hi 256 (codeN lo hi 256 x) = y := ⟨_, rfl⟩
    have e3 : codeN lo hi 256 y = codeN lo hi 256 x := by
      have p := (from_le lo hi 256 (codeN lo hi 256 x) y (by omega) a5).1 (by omega)
      have q := code_mono0 lo hi 256 y x (by omega) a5 (by omega)
      omega
    have e4 : codeN lo hi 16 y = codeN lo hi 16 x := by
      rw [← code_scale0 lo hi 16 16 y (by omega) (by omega) a5, ← code_scale0 lo hi 16 16 x (by omega) (by omega) a5]
      show codeN lo hi 256 y / 16 = codeN lo hi 256 x / 16
      rw [e3]
    have e5 : codeN lo hi 2 y = codeN lo hi 2 x := by
      rw [← code_scale0 lo hi 2 128 y (by omega) (by omega) a5, ← code_scale0 lo hi 2 128 x (by omega) (by omega) a5]
      show codeN lo hi 256 y / 128 = codeN lo hi 256 x / 128
      rw [e3]
    have hyi : lo ≤ y ∧ y ≤ hi := by omega
    unfold rowAt numIB numI
    rw [if_neg hne, if_neg hne, hcl, hy, hcB, codeB_in hr hyi rfl, codeB_in hr hyi rfl, codeB_in hr hyi rfl]
    show (true && ((codeN lo hi 2 y == codeN lo hi 2 x) && ((codeN lo hi 16 y == codeN lo hi 16 x) && (codeN lo hi 256 y == codeN lo hi 256 x)))) = true
    rw [e3, e4, e5]
    simp
  · rw [codeB_off h, codeB_off h, codeB_off h]
    unfold rowAt numIB numI
    rw [if_pos rfl, if_pos rfl]
    by_cases h1 : -1048576 < lo
    · rw [if_pos h1, codeB_off (x := lo - 1) (by omega), codeB_off (x := lo - 1) (by omega), codeB_off (x := lo - 1) (by omega), decide_eq_true h1]
      simp
    · have h2 : hi < 1048576 := by omega
      rw [if_neg h1, if_pos h2, codeB_off (x := hi + 1) (by omega), codeB_off (x := hi + 1) (by omega), codeB_off (x := hi + 1) (by omega), decide_eq_true h2]
      simp

theorem form_parts {n m : Nat} {f g : Nat → Int} {xs : List Int} (h : formB n f g m xs = true) : boxB n f g = true ∧ vecOkB xs = true ∧ n = m := by
  unfold formB at h
  simp only [Bool.and_eq_true, decide_eq_true_eq] at h
  exact ⟨h.1.1, h.1.2, h.2⟩

theorem row_right {n : Nat} {f g : Nat → Int} {xs : List Int} (h : formB n f g n xs = true) (hl : xs.length = n) : rowOkB n f g (ints (vcode f g xs 1) n) (ints (vcode f g xs 2) n) (ints (vcode f g xs 3) n) = true := by
  obtain ⟨hb, hv, _⟩ := form_parts h
  unfold rowOkB
  rw [hb, ints_len, ints_len, ints_len, decide_eq_true ⟨rfl, rfl, rfl⟩, Bool.true_and, Bool.true_and]
  refine allN_yes fun i hi => ?_
  rw [nth_ints _ n i hi, nth_ints _ n i hi, nth_ints _ n i hi]
  exact rowAt_code (boxB_at' hb hi) (vecOkB_at hv (by omega))
/-- How many of the first k numbers are in no range. -/
def missN (f g : Nat → Int) (xs : List Int) : Nat → Nat
  | 0 => 0
  | k + 1 => missN f g xs k + if hasB (f k) (g k) (nth xs k) then 0 else 1

theorem missN_le (f g : Nat → Int) (xs : List Int) : ∀ k, missN f g xs k ≤ k
  | 0 => Nat.le_refl _
  | k + 1 => by have := missN_le f g xs k; unfold missN; split <;> omega

theorem esc_miss {n : Nat} {f g : Nat → Int} {xs : List Int} (hr : ∀ i, i < n → rightB (f i) (g i) = true) : ∀ k, k ≤ n → escN (nth (ints (vcode f g xs 3) n)) k = missN f g xs k
  | 0, _ => rfl
  | k + 1, h => by
    have ih := esc_miss (xs := xs) hr k (by omega)
    show escN _ k + outD _ k = missN f g xs k + _
    rw [ih]
    congr 1
    unfold outD
    rw [nth_ints _ n k (by omega)]
    unfold vcode
    by_cases hx : f k ≤ nth xs k ∧ nth xs k ≤ g k
    · have hh : hasB (f k) (g k) (nth xs k) = true := by unfold hasB inB; rw [hr k (by omega), decide_eq_true hx]; rfl
      have := code_nonneg (f k) (g k) 256 (nth xs k) (by omega) hx.1 (right_nums (hr k (by omega))).2.2.2.2
      rw [codeB_in (hr k (by omega)) hx rfl, hh, if_neg (show ¬ codeN (f k) (g k) (cellsN 3) (nth xs k) = -1 by show ¬ codeN (f k) (g k) 256 (nth xs k) = -1; omega)]
      rfl
    · have hh : hasB (f k) (g k) (nth xs k) = false := by unfold hasB inB; rw [decide_eq_false hx, Bool.and_false]
      rw [codeB_off hx, hh]
      rfl
end Go.Proofs.Ytcgeebdhkdfkpaa
