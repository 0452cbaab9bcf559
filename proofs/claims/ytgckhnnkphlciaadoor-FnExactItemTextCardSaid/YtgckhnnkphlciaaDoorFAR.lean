/- Worlds that part in the blocks between two places alone ('Far'). -/
import Derived.Test.YtgckhnnkphlciaaDoorVA0
namespace Go.Proofs.YtgckhnnkphlciaaDoor
open Go.RowKit
set_option maxRecDepth 8000

/-- w' is w, but for the blocks from B to ahead of C, which may have been written. -/
structure Far (B C : Nat) (w w' : World) : Prop where
  os : w'.os = w.os
  tape : w'.tape = w.tape
  output : w'.output = w.output
  size : w.heap.size ≤ w'.heap.size
  block : ∀ k, k < w.heap.size → (k < B ∨ C ≤ k) → w'.heap[k]? = w.heap[k]?

theorem Far.refl (B C : Nat) (w : World) : Far B C w w := ⟨rfl, rfl, rfl, Nat.le_refl _, fun _ _ _ => rfl⟩

theorem Far.trans {B C : Nat} {a b c : World} (h : Far B C a b) (k : Far B C b c) : Far B C a c :=
  ⟨k.os.trans h.os, k.tape.trans h.tape, k.output.trans h.output, Nat.le_trans h.size k.size, fun i hi hg => (k.block i (Nat.lt_of_lt_of_le hi h.size) hg).trans (h.block i hi hg)⟩

theorem Far.ofBelow {B C : Nat} {a b : World} (h : Below a.heap.size a b) : Far B C a b := ⟨h.os, h.tape, h.output, h.size, fun k hk _ => h.block k hk⟩

theorem Far.ofBut {B C g : Nat} {a b : World} (h : But g a b) (h1 : B ≤ g) (h2 : g < C) : Far B C a b := ⟨h.os, h.tape, h.output, h.size, fun k hk hg => h.block k hk (by omega)⟩

theorem Far.below {B C X : Nat} {a b : World} (h : Far B C a b) (hX : X ≤ B) (hs : X ≤ a.heap.size) : Below X a b := ⟨h.os, h.tape, h.output, h.size, fun k hk => h.block k (by omega) (.inl (by omega))⟩

theorem Far.setCell {B C g : Nat} {a w : World} (h : Far B C a w) (h1 : B ≤ g) (h2 : g < C) (o : Nat) (v : Value) : Far B C a (w.setCell ⟨g, o, none⟩ v) :=
  ⟨h.os, h.tape, h.output, by simpa [World.setCell] using h.size, fun k hk hg => (Below.heap_setCell w ⟨g, o, none⟩ v k (by simp; omega)).trans (h.block k hk hg)⟩

theorem Far.alloc {B C : Nat} {a b : World} (h : Far B C a b) (o : Obj) : Far B C a (b.alloc o) := h.trans (.ofBelow (balloc (Below.refl _ _) o))

theorem Far.mono {B C B' C' : Nat} {a b : World} (h : Far B C a b) (h1 : B' ≤ B) (h2 : C ≤ C') : Far B' C' a b := ⟨h.os, h.tape, h.output, h.size, fun k hk hg => h.block k hk (by omega)⟩
end Go.Proofs.YtgckhnnkphlciaaDoor
