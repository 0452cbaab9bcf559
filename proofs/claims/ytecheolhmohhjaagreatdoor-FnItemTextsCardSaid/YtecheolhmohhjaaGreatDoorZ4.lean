/- Slices of int64 in memory: what a slice leads to ('Row'), a row of the call's own ('Own'), a world that parts in one block ('But'). -/
import Derived.Test.YtecheolhmohhjaaGreatDoorZ3
import Derived.Deep.OwnRows
import Derived.Deep.LoopGhost
import Derived.Deep.RegionWith
import Derived.Deep.DeepCutAuto
namespace Go.Proofs.YtecheolhmohhjaaGreatDoor
open Go.RowKit
set_option maxRecDepth 8000

theorem Tryz.infoI64 : (Tryz.prog.info? 2).map (fun i => (i.zero, i.size, i.bytes)) = some (some (.int .i64 0), 1, 8) := by kernel_rfl

/-- The i-th number (0 where there is none); a name of its own, so that the walk leaves it as it is. -/
def nth (xs : List Int) (i : Nat) : Int := xs.getD i 0

/-- A slice of n numbers that begins at a leads to the numbers xs. -/
structure Row (w : World) (a : Option Addr) (n : Nat) (xs : List Int) : Prop where
  len : xs.length = n
  lies : n = 0 ∨ ∃ b off, a = some ⟨b, off, none⟩ ∧ b < w.heap.size ∧ ∀ i, i < n → w.cell? ⟨b, off + i, none⟩ = some (.int .i64 (nth xs i))

theorem Row.below {w w' : World} {a : Option Addr} {n : Nat} {xs : List Int} (h : Row w a n xs) (hb : Below w.heap.size w w') : Row w' a n xs := by
  refine ⟨h.len, ?_⟩
  rcases h.lies with h0 | ⟨b, off, e, lt, hc⟩
  · exact .inl h0
  · exact .inr ⟨b, off, e, Nat.lt_of_lt_of_le lt hb.size, fun i hi => (hb.cell (p := ⟨b, off + i, none⟩) lt).trans (hc i hi)⟩

/-- A row of the call's own that holds the numbers xs, and may be written. -/
def Own (w : World) (g : Nat) (xs : List Int) : Prop := w.rowIs g 2 xs.length (fun i => .int .i64 (nth xs i))

theorem Own.row {w : World} {g : Nat} {xs : List Int} (h : Own w g xs) : Row w (some ⟨g, 0, none⟩) xs.length xs :=
  ⟨rfl, .inr ⟨g, 0, rfl, World.rowIs.lt h, fun i hi => by rw [Nat.zero_add]; exact World.rowIs.cell h hi⟩⟩

theorem Own.below {w w' : World} {g : Nat} {xs : List Int} (h : Own w g xs) (hb : Below w.heap.size w w') : Own w' g xs :=
  World.rowIs.of_block h (hb.block g (World.rowIs.lt h))

/-- What the loop of toInt64S has made of its row behind k rounds. -/
theorem copy_step {w : World} {g n k : Nat} {xs : List Int} (h : w.rowIs g 2 n (fun j => .int .i64 (if j < k then nth xs j else 0))) :
    (w.setCell ⟨g, k, none⟩ (.int .i64 (nth xs k))).rowIs g 2 n (fun j => .int .i64 (if j < k + 1 then nth xs j else 0)) := by
  refine (World.rowIs.set h k _).congr fun j hj => ?_
  by_cases e : j = k
  · subst e; simp
  · by_cases l : j < k
    · rw [if_neg e, if_pos l, if_pos (by omega)]
    · rw [if_neg e, if_neg l, if_neg (by omega)]

theorem nth_ext {xs ys : List Int} (hl : xs.length = ys.length) (h : ∀ j, j < xs.length → nth xs j = nth ys j) : xs = ys := by
  refine List.ext_getElem hl fun j h1 h2 => ?_
  have := h j h1
  simpa [nth, h1, h2] using this

/-- w' is w, but for block g, which may have been written. -/
structure But (g : Nat) (w w' : World) : Prop where
  os : w'.os = w.os
  tape : w'.tape = w.tape
  output : w'.output = w.output
  size : w.heap.size ≤ w'.heap.size
  block : ∀ k, k < w.heap.size → k ≠ g → w'.heap[k]? = w.heap[k]?

theorem But.refl (g : Nat) (w : World) : But g w w := ⟨rfl, rfl, rfl, Nat.le_refl _, fun _ _ _ => rfl⟩

theorem But.below {B g : Nat} {w w' : World} (h : But g w w') (hg : B ≤ g) (hB : B ≤ w.heap.size) : Below B w w' :=
  ⟨h.os, h.tape, h.output, h.size, fun k hk => h.block k (by omega) (by omega)⟩

theorem But.setCell {g : Nat} {a w : World} (h : But g a w) (o : Nat) (v : Value) : But g a (w.setCell ⟨g, o, none⟩ v) :=
  ⟨h.os, h.tape, h.output, by simpa [World.setCell] using h.size, fun k hk hg => (Below.heap_setCell w ⟨g, o, none⟩ v k hg).trans (h.block k hk hg)⟩

theorem But.row {g : Nat} {w w' : World} {a : Option Addr} {n : Nat} {xs : List Int} (h : But g w w') (r : Row w a n xs) (hne : ∀ b off, a = some ⟨b, off, none⟩ → b ≠ g) : Row w' a n xs := by
  refine ⟨r.len, ?_⟩
  rcases r.lies with h0 | ⟨b, off, e, lt, hc⟩
  · exact .inl h0
  · exact .inr ⟨b, off, e, Nat.lt_of_lt_of_le lt h.size, fun i hi => (World.cell?_of_block (w := w) (h.block b lt (hne b off e))).trans (hc i hi)⟩

theorem But.own {g g' : Nat} {w w' : World} {xs : List Int} (h : But g w w') (r : Own w g' xs) (hne : g' ≠ g) : Own w' g' xs :=
  World.rowIs.of_block r (h.block g' (World.rowIs.lt r) hne)

theorem But.trans {g : Nat} {a b c : World} (h : But g a b) (k : But g b c) : But g a c :=
  ⟨k.os.trans h.os, k.tape.trans h.tape, k.output.trans h.output, Nat.le_trans h.size k.size, fun i hi hg => (k.block i (Nat.lt_of_lt_of_le hi h.size) hg).trans (h.block i hi hg)⟩

theorem But.alloc {g : Nat} {a b : World} (h : But g a b) (o : Obj) : But g a (b.alloc o) :=
  ⟨h.os, h.tape, h.output, by have := h.size; simp; omega, fun i hi hg => (Below.heap_alloc b o i (Nat.lt_of_lt_of_le hi h.size)).trans (h.block i hi hg)⟩

theorem But.drew {g : Nat} {a b : World} (h : But g a b) : But g a b.drew := ⟨h.os, h.tape, h.output, h.size, h.block⟩

theorem But.drewN {g : Nat} {a b : World} (h : But g a b) (n : Nat) : But g a (b.drewN n) := h.trans ⟨rfl, rfl, rfl, Nat.le_refl _, fun _ _ _ => rfl⟩

theorem But.cell {g : Nat} {w w' : World} (h : But g w w') {p : Addr} (lt : p.block < w.heap.size) (hne : p.block ≠ g) : w'.cell? p = w.cell? p := World.cell?_of_block (w := w) (h.block p.block lt hne)

theorem But.frozen {g : Nat} {w w' : World} (h : But g w w') {p : Addr} (lt : p.block < w.heap.size) (hne : p.block ≠ g) : w'.frozen? p = w.frozen? p := World.frozen?_of_block (w := w) (h.block p.block lt hne)

theorem but_far {rb g : Nat} {w0 w : World} (h : But rb w0 w) (hg : w0.heap.size ≤ g) (o : Nat) (v : Value) : But rb w0 (w.setCell ⟨g, o, none⟩ v) :=
  ⟨h.os, h.tape, h.output, by simpa [World.setCell] using h.size, fun k hk hne => (Below.heap_setCell w ⟨g, o, none⟩ v k (by simp; omega)).trans (h.block k hk hne)⟩

/-- k, k + 1, .. : n numbers. -/
def marks (k : Int) (n : Nat) : List Int := (List.range n).map fun (i : Nat) => k + (i : Int)

theorem marks_len (k : Int) (n : Nat) : (marks k n).length = n := by simp [marks]

theorem nth_marks (k : Int) (n i : Nat) (h : i < n) : nth (marks k n) i = k + (i : Int) := by simp [nth, marks, h]

theorem mark_step {w : World} {g n k : Nat} {q : Int} {xs : List Int} (h : w.rowIs g 2 n (fun j => .int .i64 (if j < k then q + (j : Int) else nth xs j))) :
    (w.setCell ⟨g, k, none⟩ (.int .i64 (q + (k : Int)))).rowIs g 2 n (fun j => .int .i64 (if j < k + 1 then q + (j : Int) else nth xs j)) := by
  refine (World.rowIs.set h k _).congr fun j hj => ?_
  by_cases e : j = k
  · subst e; simp
  · by_cases l : j < k
    · rw [if_neg e, if_pos l, if_pos (by omega)]
    · rw [if_neg e, if_neg l, if_neg (by omega)]

end Go.Proofs.YtecheolhmohhjaaGreatDoor

/- Lists made by append: the values of a function, as cells that the call owns and as a row that is read. -/
namespace Go.Proofs.YtecheolhmohhjaaGreatDoor
open Go.RowKit
set_option maxRecDepth 8000
set_option linter.unusedSimpArgs false

/-- The first k values of f. -/
def vals (f : Nat → Int) (k : Nat) : List Value := (List.range k).map fun (j : Nat) => .int .i64 (f j)

theorem vals_succ (f : Nat → Int) (k : Nat) : vals f (k + 1) = vals f k ++ [.int .i64 (f k)] := by simp [vals, List.range_succ]

theorem vals_len (f : Nat → Int) (k : Nat) : (vals f k).length = k := by simp [vals]
def ints (f : Nat → Int) (k : Nat) : List Int := (List.range k).map f

theorem nth_ints (f : Nat → Int) (k j : Nat) (h : j < k) : nth (ints f k) j = f j := by simp [nth, ints, h]

theorem ints_len (f : Nat → Int) (k : Nat) : (ints f k).length = k := by simp [ints]

/-- What the call owns by append, as a row that is read. -/
theorem row_of_owns {w : World} {base : Nat} {v : Value} {n : Nat} {f : Nat → Int} (h : w.ownsRow base 2 1 v n (vals f n)) :
    ∃ a cap, v = .slice a n cap ∧ Row w a n (ints f n) ∧ ∀ b off, a = some ⟨b, off, none⟩ → base ≤ b := by
  have h0 := h
  rcases h.2 with ⟨rfl, rfl⟩ | ⟨g, cap, cur, rfl, hb, hg, hcap, _, hsz, htake⟩
  · exact ⟨none, 0, rfl, ⟨rfl, .inl rfl⟩, fun b off e => by cases e⟩
  · refine ⟨_, cap, rfl, ⟨ints_len f n, .inr ⟨g, 0, rfl, (Array.getElem?_eq_some_iff.1 hg).1, fun i hi => ?_⟩⟩, fun b off e => by cases e; exact hb⟩
    have hc := h0.cells (g := g) rfl i (.int .i64 (f i)) (by simp [vals, hi])
    rw [nth_ints f n i hi, Nat.zero_add]
    by_cases h00 : i = 0
    · subst h00; simpa [Addr.add] using hc
    · simpa [Addr.add, h00] using hc

theorem one_new (w : World) (v : Value) (t : TypeId) : ∀ (j : Nat) (u : Value), [v][j]? = some u → (w.alloc (.cells #[v] t)).cell? ((⟨w.heap.size, 0, none⟩ : Addr).add j) = some u := by
  intro j u hj
  match j, hj with
  | 0, hj => simp at hj; subst hj; simp [Addr.add]
  | j + 1, hj => simp at hj
/-- Behind an append of one element the old memory is as it was. -/
theorem below_app {w wr w2 : World} {o : Obj} {v : Value} {k : Nat} {e : TypeId} {size : Nat} {xs : List Value} (hb : Below w.heap.size w wr) (ho : wr.ownsRow w.heap.size e size v k xs) (hg : (wr.alloc o).grownBy w2 v.ownBlock) : Below w.heap.size w w2 :=
  (balloc hb o).grown hg (by have := hb.size; simp; omega) fun k' hk' => (ho.lt k' hk').1

end Go.Proofs.YtecheolhmohhjaaGreatDoor

/- szInt64S of the laws. -/
namespace Go.Proofs.YtecheolhmohhjaaGreatDoor
open Go.RowKit
set_option maxRecDepth 8000
set_option linter.unusedSimpArgs false

def szN (left : Int) (n : Nat) : Int := if left - (n : Int) < 0 then -1 else left - (n : Int)

end Go.Proofs.YtecheolhmohhjaaGreatDoor
/- Worlds that part in the blocks between two places alone ('Far'). -/
namespace Go.Proofs.YtecheolhmohhjaaGreatDoor
open Go.RowKit
set_option maxRecDepth 8000

/-- w' is w, but for the blocks from B to ahead of C, which may have been written. -/
structure Far (B C : Nat) (w w' : World) : Prop where
  os : w'.os = w.os
  tape : w'.tape = w.tape
  output : w'.output = w.output
  size : w.heap.size ≤ w'.heap.size
  block : ∀ k, k < w.heap.size → (k < B ∨ C ≤ k) → w'.heap[k]? = w.heap[k]?

theorem Far.refl (B C : Nat) (w : World) : Far B C w w := ⟨rfl, rfl, rfl, Nat.le_refl _, fun _ _ _ => rfl⟩

theorem Far.trans {B C : Nat} {a b c : World} (h : Far B C a b) (k : Far B C b c) : Far B C a c :=
  ⟨k.os.trans h.os, k.tape.trans h.tape, k.output.trans h.output, Nat.le_trans h.size k.size, fun i hi hg => (k.block i (Nat.lt_of_lt_of_le hi h.size) hg).trans (h.block i hi hg)⟩

theorem Far.ofBelow {B C : Nat} {a b : World} (h : Below a.heap.size a b) : Far B C a b := ⟨h.os, h.tape, h.output, h.size, fun k hk _ => h.block k hk⟩

theorem Far.ofBut {B C g : Nat} {a b : World} (h : But g a b) (h1 : B ≤ g) (h2 : g < C) : Far B C a b := ⟨h.os, h.tape, h.output, h.size, fun k hk hg => h.block k hk (by omega)⟩

theorem Far.below {B C X : Nat} {a b : World} (h : Far B C a b) (hX : X ≤ B) (hs : X ≤ a.heap.size) : Below X a b := ⟨h.os, h.tape, h.output, h.size, fun k hk => h.block k (by omega) (.inl (by omega))⟩

theorem Far.setCell {B C g : Nat} {a w : World} (h : Far B C a w) (h1 : B ≤ g) (h2 : g < C) (o : Nat) (v : Value) : Far B C a (w.setCell ⟨g, o, none⟩ v) :=
  ⟨h.os, h.tape, h.output, by simpa [World.setCell] using h.size, fun k hk hg => (Below.heap_setCell w ⟨g, o, none⟩ v k (by simp; omega)).trans (h.block k hk hg)⟩

theorem Far.alloc {B C : Nat} {a b : World} (h : Far B C a b) (o : Obj) : Far B C a (b.alloc o) := h.trans (.ofBelow (balloc (Below.refl _ _) o))

theorem Far.mono {B C B' C' : Nat} {a b : World} (h : Far B C a b) (h1 : B' ≤ B) (h2 : C ≤ C') : Far B' C' a b := ⟨h.os, h.tape, h.output, h.size, fun k hk hg => h.block k hk (by omega)⟩
end Go.Proofs.YtecheolhmohhjaaGreatDoor

/- Slices of int64 in memory: what a slice leads to ('Row'); contracts of the small functions of the laws over them: toInt64S, eqInt64S, markInt64S, heldInt64S. -/
namespace Go.Proofs.YtecheolhmohhjaaGreatDoor
open Go.RowKit
set_option maxRecDepth 8000























end Go.Proofs.YtecheolhmohhjaaGreatDoor

/- Vectors: VecOk of the model and of the program. -/
namespace Go.Proofs.YtecheolhmohhjaaGreatDoor
open Go.RowKit
set_option maxRecDepth 8000
set_option linter.unusedSimpArgs false

def vecOkB (xs : List Int) : Bool := decide (1 ≤ xs.length ∧ xs.length ≤ 8) && xs.all compB

theorem all_nth {xs : List Int} (h : ∀ j, j < xs.length → compB (nth xs j) = true) : xs.all compB = true := by
  rw [List.all_eq_true]
  intro x hx
  obtain ⟨j, hj, rfl⟩ := List.getElem_of_mem hx
  have := h j hj
  simpa [nth, hj] using this

theorem not_all_nth {xs : List Int} {j : Nat} (hj : j < xs.length) (h : compB (nth xs j) = false) : xs.all compB = false := by
  rw [List.all_eq_false]
  exact ⟨xs[j], List.getElem_mem hj, by simpa [nth, hj] using h⟩

set_option maxHeartbeats 400000 in
theorem sVecOk_some (b off n cap : Nat) (xs : List Int) (w : World) (hl : xs.length = n) (hn : n ≤ 1048576) (hc : ∀ i, i < n → w.cell? ⟨b, off + i, none⟩ = some (.int .i64 (nth xs i))) :
    Calls Tryz.prog 45 #[.slice (some ⟨b, off, none⟩) n cap] w fun e w' => e = .returned (.bool (vecOkB xs)) ∧ w' = w := by
  go_enter Tryz.func45, Tryz.ntmps45
  go_wp2
  go_loop [3] (fun i => ∃ k : Nat, k ≤ n ∧ i = .int .i64 k ∧ (∀ j, j < k → compB (nth xs j) = true)) (fun i => n - (intOf i).toNat)
  case atStart => exact ⟨0, Nat.zero_le _, rfl, fun j h => absurd h (by omega)⟩
  case round =>
    obtain ⟨k, hk, rfl, hpre⟩ := hrel
    have HP : Hid (∀ j, j < k → compB (nth xs j) = true) := hpre
    have HC : Hid (∀ i, i < n → w.cell? ⟨b, off + i, none⟩ = some (.int .i64 (nth xs i))) := hc
    by_cases hlt : k < n
    · have h1 := hc k hlt
      clear hpre hc
      cases he : compB (nth xs k)
      · have HE : Hid (compB (nth xs k) = false) := he
        go_wp2_with (go_at_call 57; refine (l1Comp_any _ _).mono ?_; rintro e w' ⟨rfl, rfl⟩)
        go_ret
        exact ⟨by rw [show vecOkB xs = false from by unfold vecOkB; rw [not_all_nth (by omega) HE.out, Bool.and_false]]; rfl, rfl⟩
      · have HE : Hid (compB (nth xs k) = true) := he
        go_wp2_with (go_at_call 57; refine (l1Comp_any _ _).mono ?_; rintro e w' ⟨rfl, rfl⟩)
        go_round
        case rel => exact ⟨k + 1, by omega, by go_num, fun j hj => (by rcases Nat.lt_succ_iff_lt_or_eq.1 hj with h | h; exact HP.out j h; rw [h]; exact HE.out)⟩
        case measure => simp [intOf]; omega
    · clear hpre hc
      go_wp2_with (go_at_call 44; refine (l1In_any _ _ _ _).mono ?_; rintro e w' ⟨rfl, rfl⟩)
      go_ret
      refine ⟨?_, rfl⟩
      rw [show vecOkB xs = inB (n : Int) 1 8 from by
        unfold vecOkB
        rw [all_nth (fun j hj => HP.out j (by omega)), Bool.and_true]
        unfold inB
        rw [hl]
        exact decide_eq_decide.2 (by omega)]
      rfl

set_option maxHeartbeats 400000 in
theorem sVecOk_none (a : Option Addr) (n cap : Nat) (w : World) (hn : n < 1) :
    Calls Tryz.prog 45 #[.slice a n cap] w fun e w' => e = .returned (.bool false) ∧ w' = w := by
  go_enter Tryz.func45, Tryz.ntmps45
  go_wp2
  refine wp_loop_rounds 1 ?_
  rw [rounds_succ]
  go_wp2_with (go_at_call 44; refine (l1In_any _ _ _ _).mono ?_; rintro e w' ⟨rfl, rfl⟩)
  go_ret
  refine ⟨?_, rfl⟩
  rw [show false = inB (n : Int) 1 8 from by unfold inB; exact (decide_eq_false (by omega)).symm]
  rfl

theorem sVecOk_any (a : Option Addr) (n cap : Nat) (xs : List Int) (w : World) (h : Row w a n xs) (hn : n ≤ 1048576) :
    Calls Tryz.prog 45 #[.slice a n cap] w fun e w' => e = .returned (.bool (vecOkB xs)) ∧ w' = w := by
  rcases h.lies with h0 | ⟨b, off, rfl, hb, hc⟩
  · have hx : xs = [] := List.eq_nil_of_length_eq_zero (h.len.trans h0)
    subst hx
    exact sVecOk_none a n cap w (by omega)
  · exact sVecOk_some b off n cap xs w h.len hn hc
end Go.Proofs.YtecheolhmohhjaaGreatDoor
