/- Packed rows, as arithmetic: digits laid into a number by '|', and taken out by '>>' and '&'. -/
import Derived.Test.YtcgeebdhkdfkpaaKA
namespace Go.Proofs.Ytcgeebdhkdfkpaa
open Go.RowKit
set_option maxRecDepth 8000
set_option linter.unusedSimpArgs false
set_option linter.unusedVariables false

def numN (base : Nat) (c : Nat → Nat) : Nat → Nat
  | 0 => 0
  | k + 1 => numN base c k + c k * base ^ k

theorem num_lt {base : Nat} {c : Nat → Nat} {m : Nat} (hb : 0 < base) (h : ∀ i, i < m → c i < base) : ∀ k, k ≤ m → numN base c k < base ^ k := by
  intro k
  induction k with
  | zero => intro _; simp [numN]
  | succ k ih =>
    intro hk
    have h1 := ih (by omega)
    have h2 : c k + 1 ≤ base := h k (by omega)
    have h3 : (c k + 1) * base ^ k ≤ base * base ^ k := Nat.mul_le_mul_right _ h2
    rw [Nat.add_mul, Nat.one_mul] at h3
    rw [Nat.pow_succ, Nat.mul_comm (base ^ k) base]
    simp only [numN]
    omega

theorem num_congr {base : Nat} {c d : Nat → Nat} {m : Nat} (h : ∀ i, i < m → c i = d i) : numN base c m = numN base d m := by
  induction m with
  | zero => rfl
  | succ m ih => simp only [numN]; rw [ih (fun i hi => h i (by omega)), h m (by omega)]

theorem num_digit {base : Nat} {c : Nat → Nat} (hb : 0 < base) : ∀ m, (∀ i, i < m → c i < base) → ∀ k, k < m → numN base c m / base ^ k % base = c k := by
  intro m
  induction m with
  | zero => intro _ k hk; omega
  | succ m ih =>
    intro h k hk
    have hp : 0 < base ^ k := Nat.pow_pos hb
    by_cases e : k = m
    · subst e
      have h1 := num_lt hb h k (by omega)
      simp only [numN]
      rw [Nat.add_mul_div_right _ _ hp, Nat.div_eq_of_lt h1, Nat.zero_add, Nat.mod_eq_of_lt (h k (by omega))]
    · have h1 := ih (fun i hi => h i (by omega)) k (by omega)
      simp only [numN]
      obtain ⟨d, rfl⟩ : ∃ d, m = k + 1 + d := ⟨m - k - 1, by omega⟩
      rw [show c (k + 1 + d) * base ^ (k + 1 + d) = c (k + 1 + d) * base ^ d * base * base ^ k from by rw [Nat.pow_add, Nat.pow_succ]; simp only [Nat.mul_assoc, Nat.mul_left_comm, Nat.mul_comm]]
      rw [Nat.add_mul_div_right _ _ hp, Nat.add_mul_mod_self_right]
      exact h1

theorem num_inj {base : Nat} {c d : Nat → Nat} (hb : 0 < base) {m : Nat} (hc : ∀ i, i < m → c i < base) (hd : ∀ i, i < m → d i < base) (h : numN base c m = numN base d m) : ∀ i, i < m → c i = d i := by
  intro i hi
  rw [← num_digit hb m hc i hi, ← num_digit hb m hd i hi, h]

theorem ofInt_nat (W a : Nat) (h : a < 2 ^ W) : (BitVec.ofInt W (a : Int)).toNat = a := by
  rw [BitVec.toNat_ofInt]
  have : ((a : Int) % ((2 ^ W : Nat) : Int)) = ((a % 2 ^ W : Nat) : Int) := by omega
  rw [this, Int.toNat_natCast, Nat.mod_eq_of_lt h]

theorem or_add (W a b s : Nat) (ha : a < 2 ^ s) (hW : a + b * 2 ^ s < 2 ^ W) : (BitVec.ofInt W (a : Int) ||| BitVec.ofInt W ((b * 2 ^ s : Nat) : Int)).toNat = a + b * 2 ^ s := by
  rw [BitVec.toNat_or, ofInt_nat W a (by omega), ofInt_nat W (b * 2 ^ s) (by omega), Nat.or_comm, Nat.mul_comm b, ← Nat.two_pow_add_eq_or_of_lt ha]
  omega

theorem and_mod (W a s : Nat) (ha : a < 2 ^ W) (hs : s ≤ W) : (BitVec.ofInt W (a : Int) &&& BitVec.ofInt W ((2 ^ s - 1 : Nat) : Int)).toNat = a % 2 ^ s := by
  have h1 : 2 ^ s ≤ 2 ^ W := Nat.pow_le_pow_right (by omega) hs
  have h2 : 0 < 2 ^ s := Nat.pow_pos (by omega)
  rw [BitVec.toNat_and, ofInt_nat W a ha, ofInt_nat W (2 ^ s - 1) (by omega), Nat.and_two_pow_sub_one_eq_mod]

theorem orU8 (a b s : Nat) (ha : a < 2 ^ s) (hW : a + b * 2 ^ s < 256) : bits .or .u8 (a : Int) ((b * 2 ^ s : Nat) : Int) = ((a + b * 2 ^ s : Nat) : Int) := by
  have := or_add 8 a b s ha hW
  show IntKind.u8.wrap (((BitVec.ofInt 8 _ ||| BitVec.ofInt 8 _).toNat : Nat) : Int) = _
  rw [this, IntKind.wrap_u8]
  omega

theorem orU32 (a b s : Nat) (ha : a < 2 ^ s) (hW : a + b * 2 ^ s < 4294967296) : bits .or .u32 (a : Int) ((b * 2 ^ s : Nat) : Int) = ((a + b * 2 ^ s : Nat) : Int) := by
  have := or_add 32 a b s ha hW
  show IntKind.u32.wrap (((BitVec.ofInt 32 _ ||| BitVec.ofInt 32 _).toNat : Nat) : Int) = _
  rw [this, IntKind.wrap_u32]
  omega

theorem orU64 (a b s : Nat) (ha : a < 2 ^ s) (hW : a + b * 2 ^ s < 18446744073709551616) : bits .or .u64 (a : Int) ((b * 2 ^ s : Nat) : Int) = ((a + b * 2 ^ s : Nat) : Int) := by
  have := or_add 64 a b s ha hW
  show IntKind.u64.wrap (((BitVec.ofInt 64 _ ||| BitVec.ofInt 64 _).toNat : Nat) : Int) = _
  rw [this, IntKind.wrap_u64]
  omega

/-- The number's own digit, laid at its place. -/
theorem lay2 (c : Nat → Nat) (k : Nat) (hk : k < 8) (h : ∀ i, i < k + 1 → c i < 2) : bits .or .u8 (numN 2 c k : Int) ((c k : Int) % 256 * 2 ^ k % 256) = (numN 2 c (k + 1) : Int) := by
  have h1 := num_lt (base := 2) (by omega) h k (by omega)
  have h2 := num_lt (base := 2) (by omega) h (k + 1) (by omega)
  have hp : 2 ^ (k + 1) ≤ 256 := by have := Nat.pow_le_pow_right (n := 2) (by omega) (show k + 1 ≤ 8 by omega); simpa using this
  simp only [numN] at h2 ⊢
  have hc := h k (by omega)
  have e : ((c k : Int) % 256 * 2 ^ k % 256) = ((c k * 2 ^ k : Nat) : Int) := by
    rw [show (c k : Int) % 256 = (c k : Int) by omega, show ((2 : Int) ^ k) = ((2 ^ k : Nat) : Int) by simp, ← Int.natCast_mul]
    omega
  rw [e, orU8 _ _ _ h1 (by omega)]

theorem lay16 (c : Nat → Nat) (k : Nat) (hk : k < 8) (h : ∀ i, i < k + 1 → c i < 16) : bits .or .u32 (numN 16 c k : Int) ((c k : Int) % 4294967296 * 2 ^ (4 * k) % 4294967296) = (numN 16 c (k + 1) : Int) := by
  have h1 := num_lt (base := 16) (by omega) h k (by omega)
  have h2 := num_lt (base := 16) (by omega) h (k + 1) (by omega)
  have hp : 16 ^ (k + 1) ≤ 4294967296 := by have := Nat.pow_le_pow_right (n := 16) (by omega) (show k + 1 ≤ 8 by omega); simpa using this
  simp only [numN] at h2 ⊢
  have hc := h k (by omega)
  have e16 : 16 ^ k = 2 ^ (4 * k) := by rw [Nat.pow_mul]
  rw [e16] at h1 h2 ⊢
  have e : ((c k : Int) % 4294967296 * 2 ^ (4 * k) % 4294967296) = ((c k * 2 ^ (4 * k) : Nat) : Int) := by
    rw [show (c k : Int) % 4294967296 = (c k : Int) by omega, show ((2 : Int) ^ (4 * k)) = ((2 ^ (4 * k) : Nat) : Int) by simp, ← Int.natCast_mul]
    omega
  rw [e, orU32 _ _ _ h1 (by omega)]

theorem lay256 (c : Nat → Nat) (k : Nat) (hk : k < 8) (h : ∀ i, i < k + 1 → c i < 256) : bits .or .u64 (numN 256 c k : Int) ((c k : Int) % 18446744073709551616 * 2 ^ (8 * k) % 18446744073709551616) = (numN 256 c (k + 1) : Int) := by
  have h1 := num_lt (base := 256) (by omega) h k (by omega)
  have h2 := num_lt (base := 256) (by omega) h (k + 1) (by omega)
  have hp : 256 ^ (k + 1) ≤ 18446744073709551616 := by have := Nat.pow_le_pow_right (n := 256) (by omega) (show k + 1 ≤ 8 by omega); simpa using this
  simp only [numN] at h2 ⊢
  have hc := h k (by omega)
  have e256 : 256 ^ k = 2 ^ (8 * k) := by rw [Nat.pow_mul]
  rw [e256] at h1 h2 ⊢
  have e : ((c k : Int) % 18446744073709551616 * 2 ^ (8 * k) % 18446744073709551616) = ((c k * 2 ^ (8 * k) : Nat) : Int) := by
    rw [show (c k : Int) % 18446744073709551616 = (c k : Int) by omega, show ((2 : Int) ^ (8 * k)) = ((2 ^ (8 * k) : Nat) : Int) by simp, ← Int.natCast_mul]
    omega
  rw [e, orU64 _ _ _ h1 (by omega)]

theorem shr_nat (a b s : Nat) : ((a : Int) / 2 ^ s) = ((a / 2 ^ s : Nat) : Int) := by
  rw [show ((2 : Int) ^ s) = ((2 ^ s : Nat) : Int) by simp]
  omega

theorem take2 (c : Nat → Nat) (m k : Nat) (hm : m ≤ 8) (hk : k < m) (h : ∀ i, i < m → c i < 2) : bits .and .u8 ((numN 2 c m : Int) / 2 ^ k) 1 = (c k : Int) := by
  have h2 := num_lt (base := 2) (by omega) h m (by omega)
  have hp : 2 ^ m ≤ 256 := by have := Nat.pow_le_pow_right (n := 2) (by omega) hm; simpa using this
  have hd := num_digit (base := 2) (by omega) m h k hk
  have hle : numN 2 c m / 2 ^ k ≤ numN 2 c m := Nat.div_le_self _ _
  rw [shr_nat _ 0]
  have := and_mod 8 (numN 2 c m / 2 ^ k) 1 (by omega) (by omega)
  show IntKind.u8.wrap (((BitVec.ofInt 8 _ &&& BitVec.ofInt 8 _).toNat : Nat) : Int) = _
  simp only [show ((2 ^ 1 - 1 : Nat) : Int) = 1 from rfl] at this
  rw [this, IntKind.wrap_u8]
  have := h k hk
  omega

theorem take16 (c : Nat → Nat) (m k : Nat) (hm : m ≤ 8) (hk : k < m) (h : ∀ i, i < m → c i < 16) : bits .and .u32 ((numN 16 c m : Int) / 2 ^ (4 * k)) 15 = (c k : Int) := by
  have h2 := num_lt (base := 16) (by omega) h m (by omega)
  have hp : 16 ^ m ≤ 4294967296 := by have := Nat.pow_le_pow_right (n := 16) (by omega) hm; simpa using this
  have hd := num_digit (base := 16) (by omega) m h k hk
  rw [show 16 ^ k = 2 ^ (4 * k) by rw [Nat.pow_mul]] at hd
  have hle : numN 16 c m / 2 ^ (4 * k) ≤ numN 16 c m := Nat.div_le_self _ _
  rw [shr_nat _ 0]
  have := and_mod 32 (numN 16 c m / 2 ^ (4 * k)) 4 (by omega) (by omega)
  show IntKind.u32.wrap (((BitVec.ofInt 32 _ &&& BitVec.ofInt 32 _).toNat : Nat) : Int) = _
  simp only [show ((2 ^ 4 - 1 : Nat) : Int) = 15 from rfl] at this
  rw [this, IntKind.wrap_u32]
  have := h k hk
  omega

theorem take256 (c : Nat → Nat) (m k : Nat) (hk : k < m) (h : ∀ i, i < m → c i < 256) : (numN 256 c m : Int) / 2 ^ (8 * k) % 256 = (c k : Int) := by
  have hd := num_digit (base := 256) (by omega) m h k hk
  rw [show 256 ^ k = 2 ^ (8 * k) by rw [Nat.pow_mul]] at hd
  rw [shr_nat _ 0]
  omega
end Go.Proofs.Ytcgeebdhkdfkpaa
