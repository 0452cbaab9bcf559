/- ItemsOk of the program. -/
import Derived.Test.YtkajpidfiepkcaaIE
namespace Go.Proofs.Ytkajpidfiepkcaa
open Go.RowKit
set_option linter.unusedSimpArgs false
set_option linter.unusedVariables false

/-- What a look at one item reads: its box, and the id of the one ahead. -/
structure IW (w : World) (b o1 q : Nat) (x : It) (y : Int) (a : Option Addr) (n c : Nat) : Prop where
  l : b < w.heap.size
  t : Tri w q (.int .i64 x.id) (.int .i64 x.tags) (.slice a n c)
  r : Row w a n x.vec
  d0 : w.cell? ⟨b, o1, none⟩ = some (.int .i64 y)
theorem IW.below {w w' : World} {b o1 q : Nat} {x : It} {y : Int} {a : Option Addr} {n c : Nat} (h : IW w b o1 q x y a n c) (hb : Below w.heap.size w w') : IW w' b o1 q x y a n c :=
  ⟨Nat.lt_of_lt_of_le h.l hb.size, h.t.below hb, h.r.below hb, (hb.cell (p := ⟨b, o1, none⟩) h.l).trans h.d0⟩
theorem IW.drew {w : World} {b o1 q : Nat} {x : It} {y : Int} {a : Option Addr} {n c : Nat} (h : IW w b o1 q x y a n c) : IW w.drew b o1 q x y a n c :=
  ⟨h.l, h.t.drew, ⟨h.r.len, h.r.lies⟩, h.d0⟩
theorem IW.new {w : World} {b o1 : Nat} {x : It} {y : Int} {a : Option Addr} {n c : Nat} (T : TypeId) (l : b < w.heap.size) (r : Row w a n x.vec) (d0 : w.cell? ⟨b, o1, none⟩ = some (.int .i64 y)) : IW (w.alloc (.cells #[.int .i64 x.id, .int .i64 x.tags, .slice a n c] T)) b o1 w.heap.size x y a n c :=
  have hb := balloc (Below.refl _ w) (.cells #[.int .i64 x.id, .int .i64 x.tags, .slice a n c] T)
  ⟨Nat.lt_of_lt_of_le l hb.size, Tri.new w _ _ _ T, r.below hb, (hb.cell (p := ⟨b, o1, none⟩) l).trans d0⟩







end Go.Proofs.Ytkajpidfiepkcaa