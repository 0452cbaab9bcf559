/- EscapesOf of the program and of the model. -/
import Derived.Test.YtcgeebdhkdfkpaaKL
namespace Go.Proofs.Ytcgeebdhkdfkpaa
open Go.RowKit
set_option maxRecDepth 8000
set_option linter.unusedSimpArgs false
set_option linter.unusedVariables false

/-- How many of the first n are -1. -/
def escN (c : Nat → Int) : Nat → Nat
  | 0 => 0
  | k + 1 => escN c k + outD c k

theorem escN_le (c : Nat → Int) (n : Nat) : escN c n ≤ n := by
  induction n with
  | zero => simp [escN]
  | succ n ih => simp only [escN, outD]; split <;> omega
/-- How many bits of a byte are set. -/
def pop8 (D : Nat) : Nat := D % 2 + D / 2 % 2 + D / 4 % 2 + D / 8 % 2 + D / 16 % 2 + D / 32 % 2 + D / 64 % 2 + D / 128 % 2

theorem num2_bit (c : Nat → Int) (n i : Nat) : numN 2 (outD c) n / 2 ^ i % 2 = if i < n then outD c i else 0 := by
  have hd : ∀ j, j < n → outD c j < 2 := fun j _ => by simp only [outD]; split <;> omega
  by_cases h : i < n
  · rw [if_pos h]; exact num_digit (by omega) n hd i h
  · rw [if_neg h]
    have h1 := num_lt (base := 2) (by omega) hd n (Nat.le_refl _)
    have h2 : 2 ^ n ≤ 2 ^ i := Nat.pow_le_pow_right (by omega) (by omega)
    rw [Nat.div_eq_of_lt (by omega)]

theorem pop8_num (c : Nat → Int) (n : Nat) (h : n ≤ 8) : pop8 (numN 2 (outD c) n) = escN c n := by
  have b0 := num2_bit c n 0
  have b1 := num2_bit c n 1
  have b2 := num2_bit c n 2
  have b3 := num2_bit c n 3
  have b4 := num2_bit c n 4
  have b5 := num2_bit c n 5
  have b6 := num2_bit c n 6
  have b7 := num2_bit c n 7
  simp only [show (2 : Nat) ^ 0 = 1 from rfl, show (2 : Nat) ^ 1 = 2 from rfl, show (2 : Nat) ^ 2 = 4 from rfl, show (2 : Nat) ^ 3 = 8 from rfl, show (2 : Nat) ^ 4 = 16 from rfl, show (2 : Nat) ^ 5 = 32 from rfl, show (2 : Nat) ^ 6 = 64 from rfl, show (2 : Nat) ^ 7 = 128 from rfl, Nat.div_one] at b0 b1 b2 b3 b4 b5 b6 b7
  unfold pop8
  rw [b0, b1, b2, b3, b4, b5, b6, b7]
  rcases (show n = 0 ∨ n = 1 ∨ n = 2 ∨ n = 3 ∨ n = 4 ∨ n = 5 ∨ n = 6 ∨ n = 7 ∨ n = 8 by omega) with rfl | rfl | rfl | rfl | rfl | rfl | rfl | rfl | rfl <;> simp [escN] <;> omega

theorem lt256 (D : Nat) (h : D < 256) : (D : Int) < 256 := by omega



theorem escN_nat (c : Nat → Int) (n : Nat) (h : n ≤ 8) : numN 2 (outD c) n < 256 := by
  have hd : ∀ j, j < n → outD c j < 2 := fun j _ => by simp only [outD]; split <;> omega
  have h1 := num_lt (base := 2) (by omega) hd n (Nat.le_refl _)
  have h2 : 2 ^ n ≤ 2 ^ 8 := Nat.pow_le_pow_right (by omega) h
  omega

def escV (ok : Bool) (c : Nat → Int) (n : Nat) : Int := if ok then (escN c n : Int) else -1



set_option maxHeartbeats 4000000 in
theorem l5Escapes_some (b1 b2 : Value) (b off n cap : Nat) (xs : List Int) (w : World) (hn : n ≤ 8) (hb : b < w.heap.size) (hc : ∀ i, i < n → w.cell? ⟨b, off + i, none⟩ = some (.int .i64 (nth xs i))) :
    Calls Try.prog 15 #[.agg #[b1, b2, .slice (some ⟨b, off, none⟩) n cap]] w fun e w' => e = .returned (.int .i64 (escN (nth xs) n : Int)) ∧ Below w.heap.size w w' := by
  go_enter Try.func15, Try.ntmps15
  go_wp2_with fail
  go_loopw [3, 4] (fun s i wr => ∃ k : Nat, k ≤ n ∧ i = .int .i64 k ∧ s = .int .i64 (escN (nth xs) k : Int) ∧ TriW wr w.heap.size b1 b2 (.slice (some ⟨b, off, none⟩) n cap) ∧ Below w.heap.size w wr) (fun _ i _ => n - (intOf i).toNat)
  case atStart => exact ⟨0, Nat.zero_le _, rfl, rfl, TriW.new _ _ _ _ _ _ rfl, (by repeat' first | with_reducible exact Below.refl _ _ | with_reducible assumption | with_reducible refine below_drewN ?_ _ | with_reducible refine balloc ?_ _ | with_reducible refine Below.drew ?_ | with_reducible refine Below.setCell ?_ (by first | (simp; done) | (simp; omega) | omega) _ | with_reducible refine bstep ?_ (by assumption))⟩
  case round =>
    obtain ⟨k, hk, rfl, rfl, hT, hbel⟩ := hrel
    have HT := hide hT
    have HB := hide hbel
    have HC := hide hc
    have hle := escN_le (nth xs) k
    obtain ⟨_, t0, t1, t2, _, _, _⟩ := hT
    by_cases hlt : k < n
    · have z1 : wr.cell? ⟨b, off + k, none⟩ = some (.int .i64 (nth xs k)) := (hbel.cell (p := ⟨b, off + k, none⟩) hb).trans (hc k hlt)
      have hs : escN (nth xs) (k + 1) = escN (nth xs) k + outD (nth xs) k := rfl
      clear hc hbel
      by_cases he : nth xs k = -1
      · have g1 : (nth xs k == -1) = true := by simp [he]
        have HE := hide (show escN (nth xs) (k + 1) = escN (nth xs) k + 1 by rw [hs]; simp [outD, he])
        clear he hs
        generalize escN (nth xs) k = x at HE hle
        go_wp2_with fail
        go_roundw
        case rel => exact ⟨k + 1, by omega, by go_num, by rw [HE.out]; go_num, HT.out, HB.out⟩
        case measure => simp [intOf]; omega
      · have g1 : (nth xs k == -1) = false := by simp [he]
        have HE := hide (show escN (nth xs) (k + 1) = escN (nth xs) k by rw [hs]; simp [outD, he])
        clear he hs
        generalize escN (nth xs) k = x at HE hle
        go_wp2_with fail
        go_roundw
        case rel => exact ⟨k + 1, by omega, by go_num, by rw [HE.out], HT.out, HB.out⟩
        case measure => simp [intOf]; omega
    · obtain rfl : k = n := by omega
      clear hc hbel
      go_wp2_with fail
      go_ret
      exact ⟨rfl, HB.out⟩

end Go.Proofs.Ytcgeebdhkdfkpaa