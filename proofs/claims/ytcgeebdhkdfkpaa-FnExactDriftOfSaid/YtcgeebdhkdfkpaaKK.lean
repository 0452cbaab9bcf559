/- RowOk of the model. -/
import Derived.Test.YtcgeebdhkdfkpaaKJ
import Derived.Test.YtcgeebdhkdfkpaaVD0
namespace Go.Proofs.Ytcgeebdhkdfkpaa
open Go.RowKit
set_option maxRecDepth 8000
set_option linter.unusedSimpArgs false
set_option linter.unusedVariables false

/-- The number that the model takes for a code of tier 3. -/
def numS (lo hi c : Int) : Int := if c = -1 ∧ lo = cellLo lo hi 3 c then cellHi lo hi 3 c else cellLo lo hi 3 c

theorem numS_def (lo hi c : Int) : numS lo hi c = if c = -1 ∧ lo = cellLo lo hi 3 c then cellHi lo hi 3 c else cellLo lo hi 3 c := rfl

theorem TriW.belowAt {w w' : World} {b X : Nat} {v0 v1 v2 : Value} (h : TriW w b v0 v1 v2) (hb : Below X w w') (hX : b < X) : TriW w' b v0 v1 v2 :=
  ⟨Nat.lt_of_lt_of_le h.lt hb.size, (hb.cell (p := ⟨b, 0, none⟩) hX).trans h.c0, (hb.cell (p := ⟨b, 1, none⟩) hX).trans h.c1, (hb.cell (p := ⟨b, 2, none⟩) hX).trans h.c2,
    (hb.frozen (p := ⟨b, 0, none⟩) hX).trans h.f0, (hb.frozen (p := ⟨b, 1, none⟩) hX).trans h.f1, (hb.frozen (p := ⟨b, 2, none⟩) hX).trans h.f2⟩

theorem below_appQ {X B : Nat} {w wr w2 : World} {v : Value} {k : Nat} {e : TypeId} {size : Nat} {xs : List Value} (hb : Below X w wr) (hX : X ≤ wr.heap.size) (hXB : X ≤ B) (ho : wr.ownsRow B e size v k xs) (hg : wr.grownBy w2 v.ownBlock) : Below X w w2 :=
  hb.grown hg hX fun k' hk' => Nat.le_trans hXB (ho.lt k' hk').1

theorem codeB_off {lo hi t x : Int} (h : ¬ (lo ≤ x ∧ x ≤ hi)) : codeB lo hi t x = -1 := by
  have : hasB lo hi x = false := by unfold hasB inB; rw [decide_eq_false h, Bool.and_false]
  simp [codeB, this]

theorem rowAt_model {lo hi a b c : Int} (hr : rightB lo hi = true) : (cellB lo hi 3 c && ((codeB lo hi 1 (numS lo hi c) == a) && ((codeB lo hi 2 (numS lo hi c) == b) && (codeB lo hi 3 (numS lo hi c) == c)))) = rowAt lo hi a b c := by
  obtain ⟨a1, a2, a3, a4, a5⟩ := right_nums hr
  unfold rowAt
  by_cases hc : c = -1
  · subst hc
    have hcB : cellB lo hi 3 (-1) = true := by simp [cellB, hr, tierB]
    have hlo : cellLo lo hi 3 (-1) = -1048576 := by simp [cellLo, hcB]
    have hhi : cellHi lo hi 3 (-1) = 1048576 := by simp [cellHi, hcB]
    simp only [numI, numIB, if_true, hcB, Bool.true_and]
    by_cases h1 : -1048576 < lo
    · have hs : ¬ (lo ≤ numS lo hi (-1) ∧ numS lo hi (-1) ≤ hi) := by
        unfold numS; rw [hlo, if_neg (by omega)]; omega
      simp only [h1, if_true, decide_true, Bool.true_or, Bool.true_and]
      rw [codeB_off hs, codeB_off hs, codeB_off hs, codeB_off (x := lo - 1) (by omega), codeB_off (x := lo - 1) (by omega), codeB_off (x := lo - 1) (by omega)]
    · have hl : lo = -1048576 := by omega
      have hn : numS lo hi (-1) = 1048576 := by unfold numS; rw [hlo, if_pos ⟨rfl, hl⟩, hhi]
      rw [hn]
      by_cases h2 : hi < 1048576
      · simp only [h1, h2, if_true, if_false, decide_true, decide_false, Bool.or_true, Bool.true_and]
        rw [codeB_off (x := 1048576) (by omega), codeB_off (x := 1048576) (by omega), codeB_off (x := 1048576) (by omega), codeB_off (x := hi + 1) (by omega), codeB_off (x := hi + 1) (by omega), codeB_off (x := hi + 1) (by omega)]
      · simp only [h1, h2, if_false, decide_false, Bool.or_false, Bool.false_and]
        have hh : hasB lo hi 1048576 = true := by unfold hasB inB; rw [hr, decide_eq_true (by omega)]; rfl
        have h3 : codeB lo hi 3 1048576 ≠ -1 := by
          simp only [codeB, hh, show tierB 3 = true from rfl, Bool.and_self, if_true, show cellsN 3 = 256 from rfl]
          have := code_nonneg lo hi 256 1048576 (by omega) (by omega) a5
          omega
        simp [h3]
  · have hn : numS lo hi c = numI lo hi c := by unfold numS numI; rw [if_neg (by omega), if_neg hc]
    rw [hn]
    simp only [numIB, hc, if_false]

/-- Where the model looks in a round: nothing that was there has turned. -/
structure KS (w0 w : World) (p0 p1 p2 p3 : Addr) (v0 v1 v2 v3 : Value) : Prop where
  bel : Below w0.heap.size w0 w
  c0 : w.cell? p0 = some v0
  c1 : w.cell? p1 = some v1
  c2 : w.cell? p2 = some v2
  c3 : w.cell? p3 = some v3

theorem KS.of {w0 w : World} {p0 p1 p2 p3 : Addr} {v0 v1 v2 v3 : Value} (hb : Below w0.heap.size w0 w) (h0 : w0.cell? p0 = some v0) (h1 : w0.cell? p1 = some v1) (h2 : w0.cell? p2 = some v2) (h3 : w0.cell? p3 = some v3) : KS w0 w p0 p1 p2 p3 v0 v1 v2 v3 :=
  ⟨hb, (hb.cell (cellLt h0)).trans h0, (hb.cell (cellLt h1)).trans h1, (hb.cell (cellLt h2)).trans h2, (hb.cell (cellLt h3)).trans h3⟩

theorem KS.below {w0 w w' : World} {p0 p1 p2 p3 : Addr} {v0 v1 v2 v3 : Value} (h : KS w0 w p0 p1 p2 p3 v0 v1 v2 v3) (hb : Below w.heap.size w w') : KS w0 w' p0 p1 p2 p3 v0 v1 v2 v3 :=
  ⟨bstep h.bel hb, (hb.cell (cellLt h.c0)).trans h.c0, (hb.cell (cellLt h.c1)).trans h.c1, (hb.cell (cellLt h.c2)).trans h.c2, (hb.cell (cellLt h.c3)).trans h.c3⟩

/-- Whether the row of the model's numbers is this one. -/
def sameRowB (n : Nat) (f g : Nat → Int) (L1 L2 L3 : List Int) : Bool :=
  decide (ints (vcode f g (ints (fun i => numS (f i) (g i) (nth L3 i)) n) 1) n = L1) && (decide (ints (vcode f g (ints (fun i => numS (f i) (g i) (nth L3 i)) n) 2) n = L2) && decide (ints (vcode f g (ints (fun i => numS (f i) (g i) (nth L3 i)) n) 3) n = L3))

theorem Below.drewN {X : Nat} {a b : World} (h : Below X a b) (n : Nat) : Below X a (b.drewN n) := ⟨h.os, h.tape, h.output, h.size, h.block⟩

theorem owns_drewNP {w : World} {base : Nat} {e : TypeId} {size : Nat} {v : Value} {n : Nat} {xs : List Value} (m : Nat) (h : w.ownsRow base e size v n xs) : (w.drewN m).ownsRow base e size v n xs := h

theorem balloc' {X : Nat} {w a : World} (h : Below X w a) (hX : X ≤ a.heap.size) (o : Obj) : Below X w (a.alloc o) := h.alloc hX o

end Go.Proofs.Ytcgeebdhkdfkpaa