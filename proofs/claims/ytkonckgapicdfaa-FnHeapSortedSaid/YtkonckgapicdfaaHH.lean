/- The walks of FnExactHeapOk and FnExactHeapTop. -/
import Derived.Test.YtkonckgapicdfaaHG
namespace Go.Proofs.Ytkonckgapicdfaa
open Go.RowKit
set_option maxRecDepth 8000
set_option linter.unusedSimpArgs false
set_option linter.unusedVariables false

/-- A heap's box. -/
structure HBx (w : World) (b : Nat) (K : Int) (a : Option Addr) (n cap : Nat) : Prop where
  lt : b < w.heap.size
  c0 : w.cell? ⟨b, 0, none⟩ = some (.int .i64 K)
  c1 : w.cell? ⟨b, 1, none⟩ = some (.slice a n cap)

theorem HBx.below {w w' : World} {b : Nat} {K : Int} {a : Option Addr} {n cap : Nat} (h : HBx w b K a n cap) (B : Below w.heap.size w w') : HBx w' b K a n cap :=
  ⟨Nat.lt_of_lt_of_le h.lt B.size, (B.cell (p := ⟨b, 0, none⟩) h.lt).trans h.c0, (B.cell (p := ⟨b, 1, none⟩) h.lt).trans h.c1⟩

theorem HBx.drew {w : World} {b : Nat} {K : Int} {a : Option Addr} {n cap : Nat} (h : HBx w b K a n cap) : HBx w.drew b K a n cap := ⟨h.lt, h.c0, h.c1⟩

theorem HBx.alloc {w : World} {b : Nat} {K : Int} {a : Option Addr} {n cap : Nat} (h : HBx w b K a n cap) (o : Obj) : HBx (w.alloc o) b K a n cap :=
  h.below (balloc (Below.refl _ _) o)

theorem HBx.fresh (w : World) (t : TypeId) (K : Int) (a : Option Addr) (n cap : Nat) : HBx (w.alloc (.cells #[.int .i64 K, .slice a n cap] t)) w.heap.size K a n cap :=
  ⟨by simp, by simp [go_sem], by simp [go_sem]⟩
/-- Two of them. -/
structure HB2 (w : World) (b : Nat) (K : Int) (a : Option Addr) (n cap : Nat) (b' : Nat) (a' : Option Addr) (n' cap' : Nat) : Prop where
  one : HBx w b K a n cap
  two : HBx w b' K a' n' cap'

theorem HB2.below {w w' : World} {b : Nat} {K : Int} {a : Option Addr} {n cap b' : Nat} {a' : Option Addr} {n' cap' : Nat} (h : HB2 w b K a n cap b' a' n' cap') (B : Below w.heap.size w w') : HB2 w' b K a n cap b' a' n' cap' :=
  ⟨h.one.below B, h.two.below B⟩

theorem HB2.drew {w : World} {b : Nat} {K : Int} {a : Option Addr} {n cap b' : Nat} {a' : Option Addr} {n' cap' : Nat} (h : HB2 w b K a n cap b' a' n' cap') : HB2 w.drew b K a n cap b' a' n' cap' := ⟨h.one.drew, h.two.drew⟩



/-- A Near's box. -/
structure NBx (w : World) (b : Nat) (x y : Int) : Prop where
  lt : b < w.heap.size
  c0 : w.cell? ⟨b, 0, none⟩ = some (.int .i64 x)
  c1 : w.cell? ⟨b, 1, none⟩ = some (.int .i64 y)

theorem NBx.below {w w' : World} {b : Nat} {x y : Int} (h : NBx w b x y) (B : Below w.heap.size w w') : NBx w' b x y :=
  ⟨Nat.lt_of_lt_of_le h.lt B.size, (B.cell (p := ⟨b, 0, none⟩) h.lt).trans h.c0, (B.cell (p := ⟨b, 1, none⟩) h.lt).trans h.c1⟩

theorem NBx.fresh (w : World) (t : TypeId) (x y : Int) : NBx (w.alloc (.cells #[.int .i64 x, .int .i64 y] t)) w.heap.size x y :=
  ⟨by simp, by simp [go_sem], by simp [go_sem]⟩

end Go.Proofs.Ytkonckgapicdfaa