/- HeapPut of the program. -/
import Derived.Test.YtkonckgapicdfaaHM
import Derived.Test.YtkonckgapicdfaaHE
namespace Go.Proofs.Ytkonckgapicdfaa
open Go.RowKit
set_option maxRecDepth 8000
set_option linter.unusedSimpArgs false
set_option linter.unusedVariables false

/-- How many there are behind a put, and which. -/
def putN (K : Int) (n : Nat) : Nat := if K < (n : Int) + 1 then n else n + 1
def putL1 (n : Nat) (f g : Nat → Int) (i d : Int) : NL := upL n ((listL n f g).put n (i, d))
def putL (K : Int) (n : Nat) (f g : Nat → Int) (i d : Int) : NL := if K < (n : Int) + 1 then dnL n 0 (swp (putL1 n f g i d) 0 n) else putL1 n f g i d
def putB (K : Int) (n : Nat) (f g : Nat → Int) (i d : Int) : Bool := heapB K n f g && nearB i d

def Put (w : World) (K : Int) (n : Nat) (f g : Nat → Int) (i d : Int) (e : Ending) (w' : World) : Prop :=
  Below w.heap.size w w' ∧ ((putB K n f g i d = false ∧ e = .returned (.tuple #[.agg #[.int .i64 0, .slice none 0 0], .bool false])) ∨
    (putB K n f g i d = true ∧ ∃ b cap m, e = .returned (.tuple #[.agg #[.int .i64 K, .slice (some ⟨b, 0, none⟩) (putN K n) cap], .bool true]) ∧ w.heap.size ≤ b ∧ putN K n ≤ m ∧ m ≤ 22 ∧ OwnL w' b m (putL K n f g i d)))

/-- The boxes of HeapPut: the heap, the Near, the result. -/
structure PBx (w : World) (B : Nat) (K : Int) (a : Option Addr) (n cap : Nat) (i d : Int) : Prop where
  lt : B + 2 < w.heap.size
  h0 : w.cell? ⟨B, 0, none⟩ = some (.int .i64 K)
  h1 : w.cell? ⟨B, 1, none⟩ = some (.slice a n cap)
  n0 : w.cell? ⟨B + 1, 0, none⟩ = some (.int .i64 i)
  n1 : w.cell? ⟨B + 1, 1, none⟩ = some (.int .i64 d)
  r0 : w.cell? ⟨B + 1 + 1, 0, none⟩ = some (.int .i64 0)
  r1 : w.cell? ⟨B + 1 + 1, 1, none⟩ = some (.slice none 0 0)
  f0 : w.frozen? ⟨B + 1 + 1, 0, none⟩ = false
  f1 : w.frozen? ⟨B + 1 + 1, 1, none⟩ = false

theorem PBx.low {w w' : World} {B X : Nat} {K : Int} {a : Option Addr} {n cap : Nat} {i d : Int} (h : PBx w B K a n cap i d) (b : Below X w w') (hX : B + 2 < X) : PBx w' B K a n cap i d := by
  have l0 : B < X := by omega
  have l1 : B + 1 < X := by omega
  have l2 : B + 1 + 1 < X := hX
  exact ⟨Nat.lt_of_lt_of_le h.lt b.size, (b.cell (p := ⟨B, 0, none⟩) l0).trans h.h0, (b.cell (p := ⟨B, 1, none⟩) l0).trans h.h1, (b.cell (p := ⟨B + 1, 0, none⟩) l1).trans h.n0, (b.cell (p := ⟨B + 1, 1, none⟩) l1).trans h.n1,
    (b.cell (p := ⟨B + 1 + 1, 0, none⟩) l2).trans h.r0, (b.cell (p := ⟨B + 1 + 1, 1, none⟩) l2).trans h.r1, (b.frozen (p := ⟨B + 1 + 1, 0, none⟩) l2).trans h.f0, (b.frozen (p := ⟨B + 1 + 1, 1, none⟩) l2).trans h.f1⟩

theorem PBx.below {w w' : World} {B : Nat} {K : Int} {a : Option Addr} {n cap : Nat} {i d : Int} (h : PBx w B K a n cap i d) (b : Below w.heap.size w w') : PBx w' B K a n cap i d := h.low b h.lt

def KOk (v : Bool) (K : Int) (n : Nat) : Prop := v = true → (1 ≤ K ∧ K ≤ 20) ∧ (n : Int) ≤ K

theorem putN_le {K : Int} {n : Nat} (h : (n : Int) ≤ K) : putN K n ≤ n + 1 := by unfold putN; split <;> omega

end Go.Proofs.Ytkonckgapicdfaa