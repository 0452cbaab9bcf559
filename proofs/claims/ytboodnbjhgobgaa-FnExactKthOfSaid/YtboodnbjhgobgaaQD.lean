/- InRadius of the model; Nears that are picked, plain. -/
import Derived.Test.YtboodnbjhgobgaaQC
namespace Go.Proofs.Ytboodnbjhgobgaa
open Go.RowKit
set_option linter.unusedSimpArgs false
set_option linter.unusedVariables false

/-- How many of the first k are such, and these. -/
def cntN (p : Int × Int → Bool) (A : NL) : Nat → Nat
  | 0 => 0
  | k + 1 => if p (A k) then cntN p A k + 1 else cntN p A k
def filN (p : Int × Int → Bool) (A : NL) : Nat → NL
  | 0 => fun _ => (0, 0)
  | k + 1 => if p (A k) then (filN p A k).put (cntN p A k) (A k) else filN p A k
theorem cntN_le (p : Int × Int → Bool) (A : NL) (k : Nat) : cntN p A k ≤ k := by
  induction k with
  | zero => exact Nat.le_refl _
  | succ k ih => simp only [cntN]; split <;> omega
theorem cntN_yes {p : Int × Int → Bool} {A : NL} {k : Nat} (h : p (A k) = true) : cntN p A (k + 1) = cntN p A k + 1 := by simp [cntN, h]
theorem cntN_no {p : Int × Int → Bool} {A : NL} {k : Nat} (h : p (A k) = false) : cntN p A (k + 1) = cntN p A k := by simp [cntN, h]
theorem filN_yes {p : Int × Int → Bool} {A : NL} {k : Nat} (h : p (A k) = true) : filN p A (k + 1) = (filN p A k).put (cntN p A k) (A k) := by simp [filN, h]
theorem filN_no {p : Int × Int → Bool} {A : NL} {k : Nat} (h : p (A k) = false) : filN p A (k + 1) = filN p A k := by simp [filN, h]

/-- Within a radius. -/
def inR (r : Int) (x : Int × Int) : Bool := decide (x.2 ≤ r)
def radM (dim : Int) (n : Nat) (L : IL) (qs : List Int) (r mask : Int) : Nat := if formB dim n L qs then cntN (inR r) (nrL qs mask L n) (cntP (mtB mask) L n) else 0
def radA (n : Nat) (L : IL) (qs : List Int) (r mask : Int) : NL := filN (inR r) (nrL qs mask L n) (cntP (mtB mask) L n)





end Go.Proofs.Ytboodnbjhgobgaa