/- The reader of drawn bytes: vec. -/
import Derived.Test.YtfjhgagpmhedfaaDoorDD0
import Derived.Test.YtfjhgagpmhedfaaDoorVV
namespace Go.Proofs.YtfjhgagpmhedfaaDoor
open Go.RowKit
set_option maxRecDepth 8000
set_option linter.unusedSimpArgs false

theorem vals_snoc (f : Nat → Int) (k : Nat) (x : Int) : vals f k ++ [.int .i64 x] = vals (fun j => if j = k then x else f j) (k + 1) := by
  rw [vals_succ]
  congr 1
  · unfold vals
    exact List.map_congr_left fun j hj => by have := List.mem_range.1 hj; show _ = Value.int .i64 (if j = k then x else f j); rw [if_neg (by omega)]
  · simp

theorem owns_but {w wr w1 : World} {rb : Nat} {e : TypeId} {size : Nat} {v : Value} {k : Nat} {xs : List Value} (h : wr.ownsRow w.heap.size e size v k xs) (hb : But rb wr w1) (hlt : rb < w.heap.size) : w1.ownsRow w.heap.size e size v k xs := by
  refine ⟨h.1, ?_⟩
  rcases h.2 with h0 | ⟨g, cap, cur, hv, hg, hh, rest⟩
  · exact .inl h0
  · exact .inr ⟨g, cap, cur, hv, hg, (hb.block g (Array.getElem?_eq_some_iff.1 hh).1 (by omega)).trans hh, rest⟩

/-- Behind an append of one element onto what the call owns: all but the reader's block is as it was; the reader is right. -/
theorem but_app {w wr w2 : World} {rb : Nat} {o : Obj} {v : Value} {k : Nat} {e : TypeId} {size : Nat} {xs : List Value} (hb : But rb w wr) (ho : wr.ownsRow w.heap.size e size v k xs) (hg : (wr.alloc o).grownBy w2 v.ownBlock) : But rb w w2 := by
  have h1 := hb.alloc o
  refine ⟨hg.os.trans h1.os, hg.tape.trans h1.tape, hg.output.trans h1.output, Nat.le_trans h1.size hg.size, fun i hi hne => ?_⟩
  exact (hg.block i (Nat.lt_of_lt_of_le hi h1.size) (fun e => by have := (ho.lt i e.symm).1; omega)).trans (h1.block i hi hne)

theorem Rd.app {B : Nat} {w wr w2 : World} {rb : Nat} {a : Option Addr} {n c : Nat} {o : Obj} {v : Value} {k : Nat} {e : TypeId} {size : Nat} {xs : List Value} (h : Rd B wr rb a n c) (hlt : rb < w.heap.size) (hB : B ≤ w.heap.size) (ho : wr.ownsRow w.heap.size e size v k xs) (hg : (wr.alloc o).grownBy w2 v.ownBlock) : Rd B w2 rb a n c := by
  have h1 := h.alloc o
  have hs := h.lt
  refine ⟨h.from_, h.small, ?_, ?_⟩
  · obtain ⟨p, hp, he⟩ := h1.blk
    exact ⟨p, hp, (hg.block rb h1.lt (fun e => by have := (ho.lt rb e.symm).1; omega)).trans he⟩
  · rcases h1.code with h0 | ⟨b, off, e', lt, hc⟩
    · exact .inl h0
    · refine .inr ⟨b, off, e', lt, fun i hi => ?_⟩
      obtain ⟨z, z0, z1, hz⟩ := hc i hi
      exact ⟨z, z0, z1, (World.cell?_of_block (w := wr.alloc o) (a := ⟨b, off + i, none⟩) (hg.block b (show b < (wr.alloc o).heap.size by have := h.from_; simp; omega) (fun e => by have := (ho.lt b e.symm).1; omega))).trans hz⟩

def VecPost (B : Nat) (w : World) (rb : Nat) (a : Option Addr) (n c d : Nat) (e : Ending) (w' : World) : Prop :=
  ∃ (v : Value) (f : Nat → Int), e = .returned v ∧ w'.ownsRow w.heap.size 2 1 v d (vals f d) ∧ Rd B w' rb a n c ∧ But rb w w'

end Go.Proofs.YtfjhgagpmhedfaaDoor