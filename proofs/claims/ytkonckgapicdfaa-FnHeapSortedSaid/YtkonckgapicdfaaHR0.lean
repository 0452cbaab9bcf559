/- Marks over Nears: markNearS, heldNearS of the laws. -/
import Derived.Test.YtkonckgapicdfaaHO0
namespace Go.Proofs.Ytkonckgapicdfaa
open Go.RowKit
set_option maxRecDepth 8000
set_option linter.unusedSimpArgs false
set_option linter.unusedVariables false

def markL (q : Int) : NL := fun i => (q + 2 * (i : Int), q + 2 * (i : Int) + 1)
def mixL (k : Nat) (A B : NL) : NL := fun i => if i < k then A i else B i

theorem mixL_put (k : Nat) (A B : NL) : (mixL k A B).put k (A k) = mixL (k + 1) A B := by
  funext i
  unfold NL.put mixL
  by_cases e : i = k
  · subst e; simp
  · by_cases l : i < k
    · simp [e, l, show i < k + 1 by omega]
    · simp [e, l, show ¬ i < k + 1 by omega]

/-- A slice of l Nears that may be written, at or behind block B. -/
def Wr (w : World) (a : Option Addr) (l : Nat) (L : NL) (B : Nat) : Prop := l = 0 ∨ ∃ b, a = some ⟨b, 0, none⟩ ∧ B ≤ b ∧ RowL w b l L
/-- Nothing old has turned, or, of a slice with something in it, its row alone. -/
def Turn (a : Option Addr) (l B : Nat) (w w' : World) : Prop := Below w.heap.size w w' ∨ (l ≠ 0 ∧ ∃ b, a = some ⟨b, 0, none⟩ ∧ B ≤ b ∧ But b w w')

theorem Wr.below {w w' : World} {a : Option Addr} {l : Nat} {L : NL} {B : Nat} (h : Wr w a l L B) (hb : Below w.heap.size w w') : Wr w' a l L B := by
  rcases h with h0 | ⟨b, e, hB, hr⟩
  · exact .inl h0
  · exact .inr ⟨b, e, hB, hr.below hb⟩

theorem Wr.prow {w : World} {a : Option Addr} {l : Nat} {L : NL} {B : Nat} (h : Wr w a l L B) : PRow w a l (fun i => (L i).1) (fun i => (L i).2) := by
  rcases h with h0 | ⟨b, rfl, hB, hr⟩
  · exact ⟨.inl h0⟩
  · exact hr.prow

theorem Turn.low {a : Option Addr} {l B X : Nat} {w w' : World} (h : Turn a l B w w') (hX : X ≤ B) (hs : X ≤ w.heap.size) : Below X w w' := by
  rcases h with h | ⟨_, b, _, hb, hbut⟩
  · exact h.mono hs
  · exact hbut.below (by omega) hs

theorem Turn.after {a : Option Addr} {l B : Nat} {x w w' : World} (h : Turn a l B w w') (k : Below x.heap.size x w) : Turn a l B x w' := by
  rcases h with h | ⟨h0, b, e, hb, hbut⟩
  · exact .inl (bstep k h)
  · exact .inr ⟨h0, b, e, hb, (But.ofBelow k).trans hbut⟩
/-- A row that lies behind another one. -/
theorem Wr.turn {w w' : World} {c : Option Addr} {m : Nat} {M : NL} {C : Nat} {b l B : Nat} (h : Wr w c m M C) (t : Turn (some ⟨b, 0, none⟩) l B w w') (hb : b < C) : Wr w' c m M C := by
  rcases t with t | ⟨h0, b', e, hb', hbut⟩
  · exact h.below t
  · cases e
    rcases h with h1 | ⟨x, ex, hx, hr⟩
    · exact .inl h1
    · exact .inr ⟨x, ex, hx, hr.but hbut (by omega)⟩











end Go.Proofs.Ytkonckgapicdfaa