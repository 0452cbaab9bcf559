/- Lists of vectors: what they hold; vectorsAlike of the program. -/
import Derived.Test.YtcgeebdhkdfkpaaVC
namespace Go.Proofs.Ytcgeebdhkdfkpaa
open Go.RowKit
set_option maxRecDepth 8000
set_option linter.unusedSimpArgs false
set_option linter.unusedVariables false

def row (xss : List (List Int)) (i : Nat) : List Int := xss.getD i []
/-- A slice of m slices of numbers that begins at a leads to the lists xss. -/
structure Mat (w : World) (a : Option Addr) (m : Nat) (xss : List (List Int)) : Prop where
  len : xss.length = m
  lies : m = 0 ∨ ∃ b off, a = some ⟨b, off, none⟩ ∧ b < w.heap.size ∧ ∀ i, i < m → ∃ a' n' c', w.cell? ⟨b, off + i, none⟩ = some (.slice a' n' c') ∧ Row w a' n' (row xss i) ∧ n' ≤ 1048576

theorem Mat.below {w w' : World} {a : Option Addr} {m : Nat} {xss : List (List Int)} (h : Mat w a m xss) (hb : Below w.heap.size w w') : Mat w' a m xss := by
  refine ⟨h.len, ?_⟩
  rcases h.lies with h0 | ⟨b, off, e, lt, hc⟩
  · exact .inl h0
  · refine .inr ⟨b, off, e, Nat.lt_of_lt_of_le lt hb.size, fun i hi => ?_⟩
    obtain ⟨a', n', c', hz, hr, hn⟩ := hc i hi
    exact ⟨a', n', c', (hb.cell (p := ⟨b, off + i, none⟩) lt).trans hz, hr.below hb, hn⟩

def okAt (xss : List (List Int)) (k : Nat) : Bool := vecOkB (row xss k) && decide ((row xss k).length = (row xss 0).length)
def alikeB (xss : List (List Int)) : Bool := decide (∀ k, k < xss.length → okAt xss k = true)

theorem alike_no {xss : List (List Int)} {k : Nat} (hk : k < xss.length) (h : okAt xss k = false) : alikeB xss = false := by
  refine decide_eq_false fun g => ?_
  rw [g k hk] at h
  cases h

end Go.Proofs.Ytcgeebdhkdfkpaa