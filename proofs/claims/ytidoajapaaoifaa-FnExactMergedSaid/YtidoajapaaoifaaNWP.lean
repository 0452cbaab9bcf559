/- Nears between two blocks, where blocks between others turn. -/
import Derived.Test.YtidoajapaaoifaaHR0
import Derived.Test.YtidoajapaaoifaaIA
namespace Go.Proofs.Ytidoajapaaoifaa
open Go.RowKit
set_option linter.unusedSimpArgs false
set_option linter.unusedVariables false

/-- A slice of Nears that may be written, between blocks B and C. -/
def NW (w : World) (B C : Nat) (a : Option Addr) (l : Nat) (L : NL) : Prop := l = 0 ∨ ∃ b, a = some ⟨b, 0, none⟩ ∧ B ≤ b ∧ b < C ∧ RowL w b l L
theorem NW.of {w : World} {a : Option Addr} {l : Nat} {L : NL} {B : Nat} (h : Wr w a l L B) : NW w B w.heap.size a l L := by
  rcases h with h0 | ⟨b, e, hB, hr⟩
  · exact .inl h0
  · exact .inr ⟨b, e, hB, hr.lt, hr⟩
theorem NW.wr {w : World} {a : Option Addr} {l : Nat} {L : NL} {B C : Nat} (h : NW w B C a l L) : Wr w a l L B := by
  rcases h with h0 | ⟨b, e, hB, _, hr⟩
  · exact .inl h0
  · exact .inr ⟨b, e, hB, hr⟩
theorem NW.below {w w' : World} {a : Option Addr} {l : Nat} {L : NL} {B C : Nat} (h : NW w B C a l L) (hb : Below w.heap.size w w') : NW w' B C a l L := by
  rcases h with h0 | ⟨b, e, hB, hC, hr⟩
  · exact .inl h0
  · exact .inr ⟨b, e, hB, hC, hr.below hb⟩
theorem NW.far {w w' : World} {a : Option Addr} {l : Nat} {L : NL} {B C B' C' : Nat} (h : NW w B C a l L) (hf : Far B' C' w w') (hd : C ≤ B' ∨ C' ≤ B) : NW w' B C a l L := by
  rcases h with h0 | ⟨b, e, hB, hC, hr⟩
  · exact .inl h0
  · exact .inr ⟨b, e, hB, hC, hr.block (hf.block b hr.lt (by omega))⟩
theorem NW.prow {w : World} {a : Option Addr} {l : Nat} {L : NL} {B C : Nat} (h : NW w B C a l L) : PRow w a l (fun i => (L i).1) (fun i => (L i).2) := h.wr.prow
theorem Turn.far {w w' : World} {a : Option Addr} {l : Nat} {L : NL} {B C : Nat} (t : Turn a l B w w') (h : NW w B C a l L) : Far B C w w' := by
  rcases t with t | ⟨h0, b, e, hb, hbut⟩
  · exact Far.ofBelow t
  · rcases h with h1 | ⟨b', e', hB, hC, hr⟩
    · exact absurd h1 h0
    · rw [e] at e'
      cases e'
      exact Far.ofBut hbut hB hC
theorem NW.turned {w w' : World} {a : Option Addr} {l : Nat} {L M : NL} {B C : Nat} (h : NW w B C a l L) (k : Wr w' a l M B) : NW w' B C a l M := by
  rcases h with h0 | ⟨b, e, hB, hC, hr⟩
  · exact .inl h0
  · rcases k with h1 | ⟨b', e', _, hr'⟩
    · exact .inl h1
    · rw [e] at e'
      cases e'
      exact .inr ⟨b, e, hB, hC, hr'⟩
theorem Far.after {B C : Nat} {w x y : World} (h : Below w.heap.size w x) (hf : Far B C x y) (hB : w.heap.size ≤ B) : Below w.heap.size w y := h.trans (hf.below hB h.size)
theorem OwnN.nw {w : World} {B b n : Nat} {f g : Nat → Int} (h : OwnN w b n f g) (hB : B ≤ b) : NW w B w.heap.size (some ⟨b, 0, none⟩) n (fun i => (f i, g i)) := .inr ⟨b, rfl, hB, h.lt, h.rowl⟩
end Go.Proofs.Ytidoajapaaoifaa
