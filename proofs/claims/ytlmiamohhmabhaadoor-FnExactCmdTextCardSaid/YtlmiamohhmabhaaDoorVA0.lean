/- Slices of int64 in memory: what a slice leads to ('Row'), a row of the call's own ('Own'), a world that parts in one block ('But'). -/
import Derived.Test.YtlmiamohhmabhaaDoorWA
import Derived.Deep.OwnRows
import Derived.Deep.LoopGhost
import Derived.Deep.RegionWith
import Derived.Deep.DeepCutAuto
namespace Go.Proofs.YtlmiamohhmabhaaDoor
open Go.RowKit
set_option maxRecDepth 8000

theorem Tryd.infoI64 : (Tryd.prog.info? 2).map (fun i => (i.zero, i.size, i.bytes)) = some (some (.int .i64 0), 1, 8) := by kernel_rfl

/-- The i-th number (0 where there is none); a name of its own, so that the walk leaves it as it is. -/
def nth (xs : List Int) (i : Nat) : Int := xs.getD i 0

/-- A slice of n numbers that begins at a leads to the numbers xs. -/
structure Row (w : World) (a : Option Addr) (n : Nat) (xs : List Int) : Prop where
  len : xs.length = n
  lies : n = 0 ∨ ∃ b off, a = some ⟨b, off, none⟩ ∧ b < w.heap.size ∧ ∀ i, i < n → w.cell? ⟨b, off + i, none⟩ = some (.int .i64 (nth xs i))

theorem Row.below {w w' : World} {a : Option Addr} {n : Nat} {xs : List Int} (h : Row w a n xs) (hb : Below w.heap.size w w') : Row w' a n xs := by
  refine ⟨h.len, ?_⟩
  rcases h.lies with h0 | ⟨b, off, e, lt, hc⟩
  · exact .inl h0
  · exact .inr ⟨b, off, e, Nat.lt_of_lt_of_le lt hb.size, fun i hi => (hb.cell (p := ⟨b, off + i, none⟩) lt).trans (hc i hi)⟩

/-- A row of the call's own that holds the numbers xs, and may be written. -/
def Own (w : World) (g : Nat) (xs : List Int) : Prop := w.rowIs g 2 xs.length (fun i => .int .i64 (nth xs i))

theorem Own.row {w : World} {g : Nat} {xs : List Int} (h : Own w g xs) : Row w (some ⟨g, 0, none⟩) xs.length xs :=
  ⟨rfl, .inr ⟨g, 0, rfl, World.rowIs.lt h, fun i hi => by rw [Nat.zero_add]; exact World.rowIs.cell h hi⟩⟩

theorem Own.below {w w' : World} {g : Nat} {xs : List Int} (h : Own w g xs) (hb : Below w.heap.size w w') : Own w' g xs :=
  World.rowIs.of_block h (hb.block g (World.rowIs.lt h))

/-- What the loop of toInt64S has made of its row behind k rounds. -/
theorem copy_step {w : World} {g n k : Nat} {xs : List Int} (h : w.rowIs g 2 n (fun j => .int .i64 (if j < k then nth xs j else 0))) :
    (w.setCell ⟨g, k, none⟩ (.int .i64 (nth xs k))).rowIs g 2 n (fun j => .int .i64 (if j < k + 1 then nth xs j else 0)) := by
  refine (World.rowIs.set h k _).congr fun j hj => ?_
  by_cases e : j = k
  · subst e; simp
  · by_cases l : j < k
    · rw [if_neg e, if_pos l, if_pos (by omega)]
    · rw [if_neg e, if_neg l, if_neg (by omega)]

theorem nth_ext {xs ys : List Int} (hl : xs.length = ys.length) (h : ∀ j, j < xs.length → nth xs j = nth ys j) : xs = ys := by
  refine List.ext_getElem hl fun j h1 h2 => ?_
  have := h j h1
  simpa [nth, h1, h2] using this

/-- w' is w, but for block g, which may have been written. -/
structure But (g : Nat) (w w' : World) : Prop where
  os : w'.os = w.os
  tape : w'.tape = w.tape
  output : w'.output = w.output
  size : w.heap.size ≤ w'.heap.size
  block : ∀ k, k < w.heap.size → k ≠ g → w'.heap[k]? = w.heap[k]?

theorem But.refl (g : Nat) (w : World) : But g w w := ⟨rfl, rfl, rfl, Nat.le_refl _, fun _ _ _ => rfl⟩

theorem But.below {B g : Nat} {w w' : World} (h : But g w w') (hg : B ≤ g) (hB : B ≤ w.heap.size) : Below B w w' :=
  ⟨h.os, h.tape, h.output, h.size, fun k hk => h.block k (by omega) (by omega)⟩

theorem But.setCell {g : Nat} {a w : World} (h : But g a w) (o : Nat) (v : Value) : But g a (w.setCell ⟨g, o, none⟩ v) :=
  ⟨h.os, h.tape, h.output, by simpa [World.setCell] using h.size, fun k hk hg => (Below.heap_setCell w ⟨g, o, none⟩ v k hg).trans (h.block k hk hg)⟩

theorem But.row {g : Nat} {w w' : World} {a : Option Addr} {n : Nat} {xs : List Int} (h : But g w w') (r : Row w a n xs) (hne : ∀ b off, a = some ⟨b, off, none⟩ → b ≠ g) : Row w' a n xs := by
  refine ⟨r.len, ?_⟩
  rcases r.lies with h0 | ⟨b, off, e, lt, hc⟩
  · exact .inl h0
  · exact .inr ⟨b, off, e, Nat.lt_of_lt_of_le lt h.size, fun i hi => (World.cell?_of_block (w := w) (h.block b lt (hne b off e))).trans (hc i hi)⟩

theorem But.own {g g' : Nat} {w w' : World} {xs : List Int} (h : But g w w') (r : Own w g' xs) (hne : g' ≠ g) : Own w' g' xs :=
  World.rowIs.of_block r (h.block g' (World.rowIs.lt r) hne)

theorem But.trans {g : Nat} {a b c : World} (h : But g a b) (k : But g b c) : But g a c :=
  ⟨k.os.trans h.os, k.tape.trans h.tape, k.output.trans h.output, Nat.le_trans h.size k.size, fun i hi hg => (k.block i (Nat.lt_of_lt_of_le hi h.size) hg).trans (h.block i hi hg)⟩

theorem But.alloc {g : Nat} {a b : World} (h : But g a b) (o : Obj) : But g a (b.alloc o) :=
  ⟨h.os, h.tape, h.output, by have := h.size; simp; omega, fun i hi hg => (Below.heap_alloc b o i (Nat.lt_of_lt_of_le hi h.size)).trans (h.block i hi hg)⟩

theorem But.drew {g : Nat} {a b : World} (h : But g a b) : But g a b.drew := ⟨h.os, h.tape, h.output, h.size, h.block⟩

theorem But.drewN {g : Nat} {a b : World} (h : But g a b) (n : Nat) : But g a (b.drewN n) := h.trans ⟨rfl, rfl, rfl, Nat.le_refl _, fun _ _ _ => rfl⟩

theorem But.cell {g : Nat} {w w' : World} (h : But g w w') {p : Addr} (lt : p.block < w.heap.size) (hne : p.block ≠ g) : w'.cell? p = w.cell? p := World.cell?_of_block (w := w) (h.block p.block lt hne)

theorem But.frozen {g : Nat} {w w' : World} (h : But g w w') {p : Addr} (lt : p.block < w.heap.size) (hne : p.block ≠ g) : w'.frozen? p = w.frozen? p := World.frozen?_of_block (w := w) (h.block p.block lt hne)

theorem but_far {rb g : Nat} {w0 w : World} (h : But rb w0 w) (hg : w0.heap.size ≤ g) (o : Nat) (v : Value) : But rb w0 (w.setCell ⟨g, o, none⟩ v) :=
  ⟨h.os, h.tape, h.output, by simpa [World.setCell] using h.size, fun k hk hne => (Below.heap_setCell w ⟨g, o, none⟩ v k (by simp; omega)).trans (h.block k hk hne)⟩

/-- k, k + 1, .. : n numbers. -/
def marks (k : Int) (n : Nat) : List Int := (List.range n).map fun (i : Nat) => k + (i : Int)

theorem marks_len (k : Int) (n : Nat) : (marks k n).length = n := by simp [marks]

theorem nth_marks (k : Int) (n i : Nat) (h : i < n) : nth (marks k n) i = k + (i : Int) := by simp [nth, marks, h]

theorem mark_step {w : World} {g n k : Nat} {q : Int} {xs : List Int} (h : w.rowIs g 2 n (fun j => .int .i64 (if j < k then q + (j : Int) else nth xs j))) :
    (w.setCell ⟨g, k, none⟩ (.int .i64 (q + (k : Int)))).rowIs g 2 n (fun j => .int .i64 (if j < k + 1 then q + (j : Int) else nth xs j)) := by
  refine (World.rowIs.set h k _).congr fun j hj => ?_
  by_cases e : j = k
  · subst e; simp
  · by_cases l : j < k
    · rw [if_neg e, if_pos l, if_pos (by omega)]
    · rw [if_neg e, if_neg l, if_neg (by omega)]

end Go.Proofs.YtlmiamohhmabhaaDoor
