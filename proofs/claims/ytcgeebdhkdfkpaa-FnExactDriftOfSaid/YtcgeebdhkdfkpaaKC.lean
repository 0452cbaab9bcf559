/- Packed rows of the program in terms of the codes that they hold. -/
import Derived.Test.YtcgeebdhkdfkpaaKB
import Derived.Test.YtcgeebdhkdfkpaaBI
namespace Go.Proofs.Ytcgeebdhkdfkpaa
open Go.RowKit
set_option maxRecDepth 8000
set_option linter.unusedSimpArgs false
set_option linter.unusedVariables false

def dig (c3 c : Nat → Int) (i : Nat) : Nat := if c3 i = -1 then 0 else (c i).toNat
def outD (c3 : Nat → Int) (i : Nat) : Nat := if c3 i = -1 then 1 else 0
def pA (c1 c2 c3 : Nat → Int) (m : Nat) : Int := (numN 2 (dig c3 c1) m : Int)
def pB (c1 c2 c3 : Nat → Int) (m : Nat) : Int := (numN 16 (dig c3 c2) m : Int)
def pC (c1 c2 c3 : Nat → Int) (m : Nat) : Int := (numN 256 (dig c3 c3) m : Int)
def pD (c1 c2 c3 : Nat → Int) (m : Nat) : Int := (numN 2 (outD c3) m : Int)

/-- The codes of a place: all -1, or each a cell's. -/
def CodesAt (a b c : Int) : Prop := (a = -1 ∧ b = -1 ∧ c = -1) ∨ (0 ≤ a ∧ a < 2 ∧ 0 ≤ b ∧ b < 16 ∧ 0 ≤ c ∧ c < 256)
def CodesOk (m : Nat) (c1 c2 c3 : Nat → Int) : Prop := ∀ i, i < m → CodesAt (c1 i) (c2 i) (c3 i)

theorem dig_lt {m : Nat} {c1 c2 c3 : Nat → Int} (h : CodesOk m c1 c2 c3) : (∀ i, i < m → dig c3 c1 i < 2) ∧ (∀ i, i < m → dig c3 c2 i < 16) ∧ (∀ i, i < m → dig c3 c3 i < 256) ∧ (∀ i, i < m → outD c3 i < 2) := by
  refine ⟨fun i hi => ?_, fun i hi => ?_, fun i hi => ?_, fun i hi => ?_⟩ <;> have := h i hi <;> unfold CodesAt at this <;> simp only [dig, outD] <;> split <;> omega

theorem with_any (c1 c2 c3 : Nat → Int) (n : Int) (k : Nat) (w : World) (hk : k < 8) (h : CodesOk (k + 1) c1 c2 c3) :
    Calls Try.prog 29 #[.agg #[.int .u8 (pA c1 c2 c3 k), .int .u32 (pB c1 c2 c3 k), .int .u64 (pC c1 c2 c3 k), .int .u8 (pD c1 c2 c3 k), .int .i64 n], .int .i64 k, .agg #[.int .i64 (c1 k), .int .i64 (c2 k), .int .i64 (c3 k)]] w fun e w' => e = .returned (.agg #[.int .u8 (pA c1 c2 c3 (k + 1)), .int .u32 (pB c1 c2 c3 (k + 1)), .int .u64 (pC c1 c2 c3 (k + 1)), .int .u8 (pD c1 c2 c3 (k + 1)), .int .i64 n]) ∧ Below w.heap.size w w' := by
  obtain ⟨l1, l2, l3, l4⟩ := dig_lt h
  by_cases hc : c3 k = -1
  · have e1 : pA c1 c2 c3 (k + 1) = pA c1 c2 c3 k := by simp [pA, numN, dig, hc]
    have e2 : pB c1 c2 c3 (k + 1) = pB c1 c2 c3 k := by simp [pB, numN, dig, hc]
    have e3 : pC c1 c2 c3 (k + 1) = pC c1 c2 c3 k := by simp [pC, numN, dig, hc]
    have e4 : pD c1 c2 c3 (k + 1) = bits .or .u8 (pD c1 c2 c3 k) (2 ^ k % 256) := by
      have := lay2 (outD c3) k hk l4
      rw [show outD c3 k = 1 by simp [outD, hc]] at this
      unfold pD
      rw [← this]
      simp
    rw [e1, e2, e3, e4, hc]
    exact with_out _ _ _ _ n k _ _ w hk
  · have hr : CodesAt (c1 k) (c2 k) (c3 k) := h k (by omega)
    unfold CodesAt at hr
    have d1 : ((dig c3 c1 k : Nat) : Int) = c1 k := by simp only [dig, hc, if_false]; omega
    have d2 : ((dig c3 c2 k : Nat) : Int) = c2 k := by simp only [dig, hc, if_false]; omega
    have d3 : ((dig c3 c3 k : Nat) : Int) = c3 k := by simp only [dig, hc, if_false]; omega
    have e1 : pA c1 c2 c3 (k + 1) = bits .or .u8 (pA c1 c2 c3 k) (c1 k % 256 * 2 ^ k % 256) := by
      have := lay2 (dig c3 c1) k hk l1
      rw [d1] at this
      exact this.symm
    have e2 : pB c1 c2 c3 (k + 1) = bits .or .u32 (pB c1 c2 c3 k) (c2 k % 4294967296 * 2 ^ (4 * k) % 4294967296) := by
      have := lay16 (dig c3 c2) k hk l2
      rw [d2] at this
      exact this.symm
    have e3 : pC c1 c2 c3 (k + 1) = bits .or .u64 (pC c1 c2 c3 k) (c3 k % 18446744073709551616 * 2 ^ (8 * k) % 18446744073709551616) := by
      have := lay256 (dig c3 c3) k hk l3
      rw [d3] at this
      exact this.symm
    have e4 : pD c1 c2 c3 (k + 1) = pD c1 c2 c3 k := by simp [pD, numN, outD, hc]
    rw [e1, e2, e3, e4]
    exact with_in _ _ _ _ n k _ _ _ w hk hc



/-- The codes of a vector's number: of a right range. -/
theorem codeB_ok {lo hi x : Int} (hr : rightB lo hi = true) : CodesAt (codeB lo hi 1 x) (codeB lo hi 2 x) (codeB lo hi 3 x) := by
  unfold codeB CodesAt
  obtain ⟨a1, a2, a3, a4, a5⟩ := right_nums hr
  cases hh : hasB lo hi x
  · left; simp
  · right
    have hx : lo ≤ x ∧ x ≤ hi := by simp only [hasB, inB, Bool.and_eq_true, decide_eq_true_eq] at hh; exact hh.2
    simp only [Bool.true_and, show tierB 1 = true from rfl, show tierB 2 = true from rfl, show tierB 3 = true from rfl, if_true, show cellsN 1 = 2 from rfl, show cellsN 2 = 16 from rfl, show cellsN 3 = 256 from rfl]
    have b1 := code_nonneg lo hi 2 x (by omega) hx.1 a5
    have b2 := code_lt lo hi 2 x (by omega) hx.2 a5
    have b3 := code_nonneg lo hi 16 x (by omega) hx.1 a5
    have b4 := code_lt lo hi 16 x (by omega) hx.2 a5
    have b5 := code_nonneg lo hi 256 x (by omega) hx.1 a5
    have b6 := code_lt lo hi 256 x (by omega) hx.2 a5
    omega

/-- A box of five cells that may be written. -/
structure Five (w : World) (b : Nat) (v0 v1 v2 v3 v4 : Value) : Prop where
  lt : b < w.heap.size
  c0 : w.cell? ⟨b, 0, none⟩ = some v0
  c1 : w.cell? ⟨b, 1, none⟩ = some v1
  c2 : w.cell? ⟨b, 2, none⟩ = some v2
  c3 : w.cell? ⟨b, 3, none⟩ = some v3
  c4 : w.cell? ⟨b, 4, none⟩ = some v4
  f0 : w.frozen? ⟨b, 0, none⟩ = false
  f1 : w.frozen? ⟨b, 1, none⟩ = false
  f2 : w.frozen? ⟨b, 2, none⟩ = false
  f3 : w.frozen? ⟨b, 3, none⟩ = false
  f4 : w.frozen? ⟨b, 4, none⟩ = false

theorem Five.below {w w' : World} {b : Nat} {v0 v1 v2 v3 v4 : Value} (h : Five w b v0 v1 v2 v3 v4) (hb : Below w.heap.size w w') : Five w' b v0 v1 v2 v3 v4 :=
  ⟨Nat.lt_of_lt_of_le h.lt hb.size, (hb.cell (p := ⟨b, 0, none⟩) h.lt).trans h.c0, (hb.cell (p := ⟨b, 1, none⟩) h.lt).trans h.c1, (hb.cell (p := ⟨b, 2, none⟩) h.lt).trans h.c2, (hb.cell (p := ⟨b, 3, none⟩) h.lt).trans h.c3, (hb.cell (p := ⟨b, 4, none⟩) h.lt).trans h.c4,
    (hb.frozen (p := ⟨b, 0, none⟩) h.lt).trans h.f0, (hb.frozen (p := ⟨b, 1, none⟩) h.lt).trans h.f1, (hb.frozen (p := ⟨b, 2, none⟩) h.lt).trans h.f2, (hb.frozen (p := ⟨b, 3, none⟩) h.lt).trans h.f3, (hb.frozen (p := ⟨b, 4, none⟩) h.lt).trans h.f4⟩

theorem Five.drew {w : World} {b : Nat} {v0 v1 v2 v3 v4 : Value} (h : Five w b v0 v1 v2 v3 v4) : Five w.drew b v0 v1 v2 v3 v4 := h.below (Below.drew (Below.refl _ _))

theorem Five.new (w : World) (v0 v1 v2 v3 v4 : Value) (T : TypeId) (b : Nat) (hb : w.heap.size = b) : Five (w.alloc (.cells #[v0, v1, v2, v3, v4] T)) b v0 v1 v2 v3 v4 := hb ▸ ⟨by simp, by simp, by simp, by simp, by simp, by simp, by simp [go_sem], by simp [go_sem], by simp [go_sem], by simp [go_sem], by simp [go_sem]⟩

theorem Five.set {w : World} {b : Nat} {v0 v1 v2 v3 v4 : Value} (h : Five w b v0 v1 v2 v3 v4) (u0 u1 u2 u3 u4 : Value) :
    Five (((((w.setCell ⟨b, 0, none⟩ u0).setCell ⟨b, 1, none⟩ u1).setCell ⟨b, 2, none⟩ u2).setCell ⟨b, 3, none⟩ u3).setCell ⟨b, 4, none⟩ u4) b u0 u1 u2 u3 u4 := by
  obtain ⟨h0, h1, h2, h3, h4, h5, f0, f1, f2, f3, f4⟩ := h
  exact ⟨by simpa [World.setCell] using h0, by simp [go_sem, h1, h2, h3, h4, h5], by simp [go_sem, h1, h2, h3, h4, h5], by simp [go_sem, h1, h2, h3, h4, h5], by simp [go_sem, h1, h2, h3, h4, h5], by simp [go_sem, h1, h2, h3, h4, h5], by simp [go_sem, f0], by simp [go_sem, f1], by simp [go_sem, f2], by simp [go_sem, f3], by simp [go_sem, f4]⟩

theorem Five.away {w : World} {b : Nat} {v0 v1 v2 v3 v4 : Value} (h : Five w b v0 v1 v2 v3 v4) (p : Addr) (v : Value) (hp : b ≠ p.block) : Five (w.setCell p v) b v0 v1 v2 v3 v4 := by
  have e := Below.heap_setCell w p v b hp
  obtain ⟨h0, h1, h2, h3, h4, h5, f0, f1, f2, f3, f4⟩ := h
  refine ⟨by simpa [World.setCell] using h0, ?_, ?_, ?_, ?_, ?_, ?_, ?_, ?_, ?_, ?_⟩ <;> simp only [World.cell?, World.frozen?, e] at * <;> assumption

abbrev PK (c1 c2 c3 : Nat → Int) (m : Nat) (n : Int) : Value := .agg #[.int .u8 (pA c1 c2 c3 m), .int .u32 (pB c1 c2 c3 m), .int .u64 (pC c1 c2 c3 m), .int .u8 (pD c1 c2 c3 m), .int .i64 n]
abbrev PK0 : Value := .agg #[.int .u8 0, .int .u32 0, .int .u64 0, .int .u8 0, .int .i64 0]
end Go.Proofs.Ytcgeebdhkdfkpaa
