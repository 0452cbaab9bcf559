/- A check sum's steps, by bits and by fours of bits; plain. -/
import Derived.Test.YtpnppabpogedeaaDoorProg
import Derived.ProofKit
namespace Go.Proofs.YtpnppabpogedeaaDoor
open Go.RowKit
set_option maxRecDepth 8000
set_option linter.unusedSimpArgs false
set_option linter.unusedVariables false

def sumsTab : List Int := [0, 498536548, 997073096, 651767980, 1994146192, 1802195444, 1303535960, 1342533948, 3988292384, 4027552580, 3604390888, 3412177804, 2607071920, 2262029012, 2685067896, 3183342108]
def sumT : Nat → Nat
  | 0 => 0
  | 1 => 498536548
  | 2 => 997073096
  | 3 => 651767980
  | 4 => 1994146192
  | 5 => 1802195444
  | 6 => 1303535960
  | 7 => 1342533948
  | 8 => 3988292384
  | 9 => 4027552580
  | 10 => 3604390888
  | 11 => 3412177804
  | 12 => 2607071920
  | 13 => 2262029012
  | 14 => 2685067896
  | _ => 3183342108

theorem sumT_lt (n : Nat) : sumT n < 4294967296 := by
  unfold sumT
  split <;> decide
/-- One bit. -/
def f1 (c : Nat) : Nat := if c % 2 = 1 then (c / 2) ^^^ 3988292384 else c / 2
/-- Four bits. -/
def g4 (c : Nat) : Nat := (c / 16) ^^^ sumT (c % 16)

theorem xor_half (x y : Nat) : (x ^^^ y) / 2 = x / 2 ^^^ y / 2 := by
  have := Nat.shiftRight_xor_distrib (a := x) (b := y) (i := 1)
  simpa [Nat.shiftRight_eq_div_pow] using this

theorem xor_low (x y : Nat) : (x ^^^ y) % 2 = x % 2 ^^^ y % 2 := by
  have := Nat.xor_mod_two_pow (a := x) (b := y) (n := 1)
  simpa using this

theorem f1_xor (x y : Nat) : f1 (x ^^^ y) = f1 x ^^^ f1 y := by
  unfold f1
  rw [xor_half, xor_low]
  rcases Nat.mod_two_eq_zero_or_one x with hx | hx <;> rcases Nat.mod_two_eq_zero_or_one y with hy | hy <;> rw [hx, hy]
  · simp
  · simp [Nat.xor_assoc]
  · simp
    rw [Nat.xor_assoc, Nat.xor_comm (y / 2) 3988292384, ← Nat.xor_assoc]
  · have : x / 2 ^^^ 3988292384 ^^^ (y / 2 ^^^ 3988292384) = x / 2 ^^^ y / 2 := by
      rw [Nat.xor_assoc, Nat.xor_comm 3988292384 (y / 2 ^^^ 3988292384), Nat.xor_assoc (y / 2), Nat.xor_self, Nat.xor_zero]
    rw [if_neg (by decide), if_pos rfl, if_pos rfl, this]

theorem f1_even (x : Nat) : f1 (2 * x) = x := by
  unfold f1
  rw [if_neg (by omega)]
  omega

theorem f4_hi (h : Nat) : f1 (f1 (f1 (f1 (16 * h)))) = h := by
  rw [show 16 * h = 2 * (2 * (2 * (2 * h))) by omega, f1_even, f1_even, f1_even, f1_even]

theorem f4_lo (n : Nat) (h : n < 16) : f1 (f1 (f1 (f1 n))) = sumT n := by
  have : ∀ n : Fin 16, f1 (f1 (f1 (f1 n.val))) = sumT n.val := by decide
  exact this ⟨n, h⟩

theorem parts16 (c : Nat) : c = 16 * (c / 16) ^^^ (c % 16) := by
  have d : (16 * (c / 16) ^^^ (c % 16)) / 16 = c / 16 := by
    have := Nat.shiftRight_xor_distrib (a := 16 * (c / 16)) (b := c % 16) (i := 4)
    rw [Nat.shiftRight_eq_div_pow, Nat.shiftRight_eq_div_pow, Nat.shiftRight_eq_div_pow] at this
    rw [show (2 : Nat) ^ 4 = 16 from rfl] at this
    rw [this, show 16 * (c / 16) / 16 = c / 16 by omega, show c % 16 / 16 = 0 by omega, Nat.xor_zero]
  have m : (16 * (c / 16) ^^^ (c % 16)) % 16 = c % 16 := by
    have := Nat.xor_mod_two_pow (a := 16 * (c / 16)) (b := c % 16) (n := 4)
    rw [show (2 : Nat) ^ 4 = 16 from rfl] at this
    rw [this, show 16 * (c / 16) % 16 = 0 by omega, Nat.zero_xor, Nat.mod_mod]
  omega

theorem f4_g (c : Nat) : f1 (f1 (f1 (f1 c))) = g4 c := by
  have e := parts16 c
  unfold g4
  calc f1 (f1 (f1 (f1 c))) = f1 (f1 (f1 (f1 (16 * (c / 16) ^^^ (c % 16))))) := by rw [← e]
    _ = f1 (f1 (f1 (f1 (16 * (c / 16))))) ^^^ f1 (f1 (f1 (f1 (c % 16)))) := by rw [f1_xor, f1_xor, f1_xor, f1_xor]
    _ = _ := by rw [f4_hi, f4_lo _ (by omega)]

theorem xor_lt32 {x y : Nat} (hx : x < 4294967296) (hy : y < 4294967296) : x ^^^ y < 4294967296 := Nat.xor_lt_two_pow (n := 32) hx hy

theorem f1_lt {c : Nat} (h : c < 4294967296) : f1 c < 4294967296 := by
  unfold f1
  split
  · exact xor_lt32 (by omega) (by decide)
  · omega

theorem g4_lt {c : Nat} (h : c < 4294967296) : g4 c < 4294967296 := xor_lt32 (by omega) (sumT_lt _)
/-- A byte more. -/
def sumS (c x : Nat) : Nat := g4 (g4 (c ^^^ x))

theorem sumS_lt {c x : Nat} (hc : c < 4294967296) (hx : x < 256) : sumS c x < 4294967296 := g4_lt (g4_lt (xor_lt32 hc (by omega)))
def sumL (l : List UInt8) : Nat := l.foldl (fun c x => sumS c x.toNat) 4294967295

theorem sumL_snoc (l : List UInt8) (x : UInt8) : sumL (l ++ [x]) = sumS (sumL l) x.toNat := by unfold sumL; rw [List.foldl_append]; rfl

theorem foldl_lt : ∀ (l : List UInt8) (c : Nat), c < 4294967296 → l.foldl (fun c x => sumS c x.toNat) c < 4294967296
  | [], c, h => h
  | x :: l, c, h => foldl_lt l _ (sumS_lt h (by have := x.toNat_lt; omega))

theorem sumL_lt (l : List UInt8) : sumL l < 4294967296 := foldl_lt l _ (by decide)
end Go.Proofs.YtpnppabpogedeaaDoor
