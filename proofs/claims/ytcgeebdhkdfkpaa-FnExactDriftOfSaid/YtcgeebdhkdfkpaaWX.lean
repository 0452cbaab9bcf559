/- A box of two cells that a region lays for its answer. -/
import Derived.Test.YtcgeebdhkdfkpaaWA
namespace Go.Proofs.Ytcgeebdhkdfkpaa
open Go.RowKit
set_option maxRecDepth 8000

/-- Block b of w is a box of two cells that hold x and y, and may be written. -/
structure Box (t : Nat) (w : World) (b : Nat) (x y : Value) : Prop where
  lt : b < w.heap.size
  c0 : w.cell? ⟨b, 0, none⟩ = some x
  c1 : w.cell? ⟨b, 1, none⟩ = some y
  f0 : w.frozen? ⟨b, 0, none⟩ = false
  f1 : w.frozen? ⟨b, 1, none⟩ = false

theorem Box.below {t : Nat} {w w' : World} {b : Nat} {x y : Value} (h : Box t w b x y) (hb : Below w.heap.size w w') : Box t w' b x y :=
  ⟨Nat.lt_of_lt_of_le h.lt hb.size, (hb.cell (p := ⟨b, 0, none⟩) h.lt).trans h.c0, (hb.cell (p := ⟨b, 1, none⟩) h.lt).trans h.c1, (hb.frozen (p := ⟨b, 0, none⟩) h.lt).trans h.f0, (hb.frozen (p := ⟨b, 1, none⟩) h.lt).trans h.f1⟩

theorem Box.new (t : Nat) (w : World) (x y : Value) (T : TypeId) : Box t (w.alloc (.cells #[x, y] T)) w.heap.size x y :=
  ⟨by simp, by simp, by simp, by simp, by simp⟩

theorem Box.drew {t : Nat} {w : World} {b : Nat} {x y : Value} (h : Box t w b x y) : Box t w.drew b x y := ⟨h.lt, h.c0, h.c1, h.f0, h.f1⟩

theorem Box.fresh (t : Nat) (T : TypeId) {w w' : World} {x y : Value} (hb : Below (w.alloc (.cells #[x, y] T)).heap.size (w.alloc (.cells #[x, y] T)) w') : Box t w' w.heap.size x y := (Box.new t w x y T).below hb

theorem Box.freshDrew (t : Nat) (T : TypeId) {w w' : World} {x y : Value} (hb : Below (w.alloc (.cells #[x, y] T)).drew.heap.size (w.alloc (.cells #[x, y] T)).drew w') : Box t w' w.heap.size x y := (Box.new t w x y T).drew.below hb
end Go.Proofs.Ytcgeebdhkdfkpaa
