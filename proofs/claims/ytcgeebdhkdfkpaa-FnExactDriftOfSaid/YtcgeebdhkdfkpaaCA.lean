/- Cells, as arithmetic: where a cell begins, and which cell has a number. -/
import Derived.Test.YtcgeebdhkdfkpaaWB
namespace Go.Proofs.Ytcgeebdhkdfkpaa
open Go.RowKit
set_option maxRecDepth 8000

def tierB (t : Int) : Bool := decide (1 ≤ t ∧ t ≤ 3)
def bitsN (t : Int) : Int := if t = 1 then 1 else if t = 2 then 4 else if t = 3 then 8 else 0
def cellsN (t : Int) : Int := if t = 1 then 2 else if t = 2 then 16 else if t = 3 then 256 else 0
def fromN (lo hi N i : Int) : Int := lo + (hi - lo + 1) * i / N
def codeN (lo hi N x : Int) : Int := ((x - lo + 1) * N - 1) / (hi - lo + 1)
def codeB (lo hi t x : Int) : Int := if hasB lo hi x && tierB t then codeN lo hi (cellsN t) x else -1
/-- Whether there is such a cell, and it has something. -/
def cellB (lo hi t c : Int) : Bool := rightB lo hi && tierB t && (decide (c = -1) || (decide (0 ≤ c) && decide (c < cellsN t) && decide (fromN lo hi (cellsN t) c ≤ fromN lo hi (cellsN t) (c + 1) - 1)))
def cellLo (lo hi t c : Int) : Int := if cellB lo hi t c then (if c = -1 then -1048576 else fromN lo hi (cellsN t) c) else 0
def cellHi (lo hi t c : Int) : Int := if cellB lo hi t c then (if c = -1 then 1048576 else fromN lo hi (cellsN t) (c + 1) - 1) else 0
def finerB (lo hi c f t : Int) : Bool := cellB lo hi f c && !decide (c = -1) && tierB t && decide (f ≤ t)

theorem from_le (lo hi N i x : Int) (hN : 0 < N) (hS : lo ≤ hi) : fromN lo hi N i ≤ x ↔ i ≤ codeN lo hi N x := by
  unfold fromN codeN
  rw [Int.le_ediv_iff_mul_le (by omega)]
  constructor
  · intro h
    have h1 : (hi - lo + 1) * i / N < x - lo + 1 := by omega
    have h2 := (Int.ediv_lt_iff_lt_mul hN).1 h1
    have h3 : i * (hi - lo + 1) = (hi - lo + 1) * i := Int.mul_comm _ _
    omega
  · intro h
    have h3 : i * (hi - lo + 1) = (hi - lo + 1) * i := Int.mul_comm _ _
    have h2 : (hi - lo + 1) * i < (x - lo + 1) * N := by omega
    have h1 := (Int.ediv_lt_iff_lt_mul hN).2 h2
    omega

theorem code_nonneg (lo hi N x : Int) (hN : 0 < N) (hx : lo ≤ x) (hS : lo ≤ hi) : 0 ≤ codeN lo hi N x := by
  have := (from_le lo hi N 0 x hN hS).1 (by simp [fromN]; exact hx)
  exact this

theorem code_lt (lo hi N x : Int) (hN : 0 < N) (hx : x ≤ hi) (hS : lo ≤ hi) : codeN lo hi N x < N := by
  have h : ¬ (N ≤ codeN lo hi N x) := by
    rw [← from_le lo hi N N x hN hS]
    unfold fromN
    rw [Int.mul_ediv_cancel _ (by omega)]
    omega
  omega

theorem from_bounds (lo hi N i : Int) (hN : 0 < N) (h0 : 0 ≤ i) (h1 : i ≤ N) (hS : lo ≤ hi) : lo ≤ fromN lo hi N i ∧ fromN lo hi N i ≤ hi + 1 := by
  unfold fromN
  have a : 0 ≤ (hi - lo + 1) * i := Int.mul_nonneg (by omega) h0
  have b : (hi - lo + 1) * i ≤ (hi - lo + 1) * N := Int.mul_le_mul_of_nonneg_left h1 (by omega)
  have c : 0 ≤ (hi - lo + 1) * i / N := Int.ediv_nonneg a (by omega)
  have d : (hi - lo + 1) * i / N ≤ (hi - lo + 1) * N / N := Int.ediv_le_ediv hN b
  rw [Int.mul_ediv_cancel _ (by omega)] at d
  omega

theorem mul_bounds {s i : Int} (a : 0 ≤ s) (b : s ≤ 2097153) (c : 0 ≤ i) (d : i ≤ 256) : 0 ≤ s * i ∧ s * i ≤ 536871168 := by
  have h1 : 0 ≤ s * i := Int.mul_nonneg a c
  have h2 : s * i ≤ s * 256 := Int.mul_le_mul_of_nonneg_left d a
  omega
end Go.Proofs.Ytcgeebdhkdfkpaa
