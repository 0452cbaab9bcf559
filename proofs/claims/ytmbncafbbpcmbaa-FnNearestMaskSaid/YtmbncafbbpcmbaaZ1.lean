/- Contracts of the small number functions: compOk, l1In, l1Comp, and of ranges. -/
import Derived.Test.YtmbncafbbpcmbaaProg
import Derived.WalkKit
import Derived.WalkSpells
import Derived.WalkLawsBesides
import Derived.BigQuiet
import Derived.Deep.QuietTactic
import Derived.Deep.OwnRows
import Derived.Deep.LoopGhost
import Derived.Deep.RegionWith
import Derived.Deep.DeepCutAuto
import Derived.Deep.RegionHeld
import Derived.OpenShut
namespace Go.Proofs.Ytmbncafbbpcmbaa
open Go.RowKit
set_option maxRecDepth 8000

def compB (x : Int) : Bool := decide (-1048576 ≤ x ∧ x ≤ 1048576)
def inB (n lo hi : Int) : Bool := decide (lo ≤ n ∧ n ≤ hi)

theorem bcell {W w1 : World} (hb : Below W.heap.size W w1) : (∀ b o, b < W.heap.size → w1.cell? ⟨b, o, none⟩ = W.cell? ⟨b, o, none⟩) ∧ (∀ b o, b < W.heap.size → w1.frozen? ⟨b, o, none⟩ = W.frozen? ⟨b, o, none⟩) :=
  ⟨fun b o h => hb.cell (p := ⟨b, o, none⟩) h, fun b o h => hb.frozen (p := ⟨b, o, none⟩) h⟩
theorem wrapIn (x : Int) (h1 : -9223372036854775808 ≤ x) (h2 : x ≤ 9223372036854775807) : IntKind.i64.wrap x = x := by rw [IntKind.wrap_i64]; omega
theorem hide {p : Prop} (h : p) : Hid p := h
theorem balloc {w a : World} (h : Below w.heap.size w a) (o : Obj) : Below w.heap.size w (a.alloc o) := h.alloc h.size o
theorem bstep {w a b : World} (h : Below w.heap.size w a) (k : Below a.heap.size a b) : Below w.heap.size w b := h.trans (k.mono h.size)

set_option maxHeartbeats 400000 in
theorem compOk_any (x : Int) (w : World) :
    Calls Try.prog 64 #[.int .i64 x] w fun e w' => e = .returned (.bool (compB x)) ∧ w' = w := by
  by_cases h1 : -1048576 ≤ x
  · by_cases h2 : x ≤ 1048576
    · have hb : compB x = true := by simp [compB, h1, h2]
      rw [hb]; clear hb
      go_enter Try.func64, Try.ntmps64
      go_wp2
      go_ret
      exact ⟨rfl, rfl⟩
    · have hb : compB x = false := by simp [compB, h2]
      rw [hb]; clear hb
      go_enter Try.func64, Try.ntmps64
      go_wp2
      go_ret
      exact ⟨rfl, rfl⟩
  · have hb : compB x = false := by simp [compB, h1]
    rw [hb]; clear hb
    go_enter Try.func64, Try.ntmps64
    go_wp2
    go_ret
    exact ⟨rfl, rfl⟩
end Go.Proofs.Ytmbncafbbpcmbaa

/- Slices of int64 in memory: what a slice leads to ('Row'), a row of the call's own ('Own'), a world that parts in one block ('But'). -/
namespace Go.Proofs.Ytmbncafbbpcmbaa
open Go.RowKit
set_option maxRecDepth 8000

theorem Try.infoI64 : (Try.prog.info? 2).map (fun i => (i.zero, i.size, i.bytes)) = some (some (.int .i64 0), 1, 8) := by kernel_rfl

/-- The i-th number (0 where there is none); a name of its own, so that the walk leaves it as it is. -/
def nth (xs : List Int) (i : Nat) : Int := xs.getD i 0

/-- A slice of n numbers that begins at a leads to the numbers xs. -/
structure Row (w : World) (a : Option Addr) (n : Nat) (xs : List Int) : Prop where
  len : xs.length = n
  lies : n = 0 ∨ ∃ b off, a = some ⟨b, off, none⟩ ∧ b < w.heap.size ∧ ∀ i, i < n → w.cell? ⟨b, off + i, none⟩ = some (.int .i64 (nth xs i))

theorem Row.below {w w' : World} {a : Option Addr} {n : Nat} {xs : List Int} (h : Row w a n xs) (hb : Below w.heap.size w w') : Row w' a n xs := by
  refine ⟨h.len, ?_⟩
  rcases h.lies with h0 | ⟨b, off, e, lt, hc⟩
  · exact .inl h0
  · exact .inr ⟨b, off, e, Nat.lt_of_lt_of_le lt hb.size, fun i hi => (hb.cell (p := ⟨b, off + i, none⟩) lt).trans (hc i hi)⟩

/-- A row of the call's own that holds the numbers xs, and may be written. -/
def Own (w : World) (g : Nat) (xs : List Int) : Prop := w.rowIs g 2 xs.length (fun i => .int .i64 (nth xs i))
theorem Own.row {w : World} {g : Nat} {xs : List Int} (h : Own w g xs) : Row w (some ⟨g, 0, none⟩) xs.length xs :=
  ⟨rfl, .inr ⟨g, 0, rfl, World.rowIs.lt h, fun i hi => by rw [Nat.zero_add]; exact World.rowIs.cell h hi⟩⟩
theorem Own.below {w w' : World} {g : Nat} {xs : List Int} (h : Own w g xs) (hb : Below w.heap.size w w') : Own w' g xs :=
  World.rowIs.of_block h (hb.block g (World.rowIs.lt h))

/-- What the loop of toInt64S has made of its row behind k rounds. -/
theorem copy_step {w : World} {g n k : Nat} {xs : List Int} (h : w.rowIs g 2 n (fun j => .int .i64 (if j < k then nth xs j else 0))) :
    (w.setCell ⟨g, k, none⟩ (.int .i64 (nth xs k))).rowIs g 2 n (fun j => .int .i64 (if j < k + 1 then nth xs j else 0)) := by
  refine (World.rowIs.set h k _).congr fun j hj => ?_
  by_cases e : j = k
  · subst e; simp
  · by_cases l : j < k
    · rw [if_neg e, if_pos l, if_pos (by omega)]
    · rw [if_neg e, if_neg l, if_neg (by omega)]

theorem nth_ext {xs ys : List Int} (hl : xs.length = ys.length) (h : ∀ j, j < xs.length → nth xs j = nth ys j) : xs = ys := by
  refine List.ext_getElem hl fun j h1 h2 => ?_
  have := h j h1
  simpa [nth, h1, h2] using this

/-- w' is w, but for block g, which may have been written. -/
structure But (g : Nat) (w w' : World) : Prop where
  os : w'.os = w.os
  tape : w'.tape = w.tape
  output : w'.output = w.output
  size : w.heap.size ≤ w'.heap.size
  block : ∀ k, k < w.heap.size → k ≠ g → w'.heap[k]? = w.heap[k]?
theorem But.refl (g : Nat) (w : World) : But g w w := ⟨rfl, rfl, rfl, Nat.le_refl _, fun _ _ _ => rfl⟩
theorem But.below {B g : Nat} {w w' : World} (h : But g w w') (hg : B ≤ g) (hB : B ≤ w.heap.size) : Below B w w' :=
  ⟨h.os, h.tape, h.output, h.size, fun k hk => h.block k (by omega) (by omega)⟩
theorem But.setCell {g : Nat} {a w : World} (h : But g a w) (o : Nat) (v : Value) : But g a (w.setCell ⟨g, o, none⟩ v) :=
  ⟨h.os, h.tape, h.output, by simpa [World.setCell] using h.size, fun k hk hg => (Below.heap_setCell w ⟨g, o, none⟩ v k hg).trans (h.block k hk hg)⟩
theorem But.row {g : Nat} {w w' : World} {a : Option Addr} {n : Nat} {xs : List Int} (h : But g w w') (r : Row w a n xs) (hne : ∀ b off, a = some ⟨b, off, none⟩ → b ≠ g) : Row w' a n xs := by
  refine ⟨r.len, ?_⟩
  rcases r.lies with h0 | ⟨b, off, e, lt, hc⟩
  · exact .inl h0
  · exact .inr ⟨b, off, e, Nat.lt_of_lt_of_le lt h.size, fun i hi => (World.cell?_of_block (w := w) (h.block b lt (hne b off e))).trans (hc i hi)⟩
theorem But.own {g g' : Nat} {w w' : World} {xs : List Int} (h : But g w w') (r : Own w g' xs) (hne : g' ≠ g) : Own w' g' xs :=
  World.rowIs.of_block r (h.block g' (World.rowIs.lt r) hne)

theorem But.trans {g : Nat} {a b c : World} (h : But g a b) (k : But g b c) : But g a c :=
  ⟨k.os.trans h.os, k.tape.trans h.tape, k.output.trans h.output, Nat.le_trans h.size k.size, fun i hi hg => (k.block i (Nat.lt_of_lt_of_le hi h.size) hg).trans (h.block i hi hg)⟩
theorem But.alloc {g : Nat} {a b : World} (h : But g a b) (o : Obj) : But g a (b.alloc o) :=
  ⟨h.os, h.tape, h.output, by have := h.size; simp; omega, fun i hi hg => (Below.heap_alloc b o i (Nat.lt_of_lt_of_le hi h.size)).trans (h.block i hi hg)⟩
theorem But.drew {g : Nat} {a b : World} (h : But g a b) : But g a b.drew := ⟨h.os, h.tape, h.output, h.size, h.block⟩
theorem But.drewN {g : Nat} {a b : World} (h : But g a b) (n : Nat) : But g a (b.drewN n) := h.trans ⟨rfl, rfl, rfl, Nat.le_refl _, fun _ _ _ => rfl⟩
theorem But.cell {g : Nat} {w w' : World} (h : But g w w') {p : Addr} (lt : p.block < w.heap.size) (hne : p.block ≠ g) : w'.cell? p = w.cell? p := World.cell?_of_block (w := w) (h.block p.block lt hne)
theorem But.frozen {g : Nat} {w w' : World} (h : But g w w') {p : Addr} (lt : p.block < w.heap.size) (hne : p.block ≠ g) : w'.frozen? p = w.frozen? p := World.frozen?_of_block (w := w) (h.block p.block lt hne)

theorem but_far {rb g : Nat} {w0 w : World} (h : But rb w0 w) (hg : w0.heap.size ≤ g) (o : Nat) (v : Value) : But rb w0 (w.setCell ⟨g, o, none⟩ v) :=
  ⟨h.os, h.tape, h.output, by simpa [World.setCell] using h.size, fun k hk hne => (Below.heap_setCell w ⟨g, o, none⟩ v k (by simp; omega)).trans (h.block k hk hne)⟩

/-- k, k + 1, .. : n numbers. -/
def marks (k : Int) (n : Nat) : List Int := (List.range n).map fun (i : Nat) => k + (i : Int)
theorem marks_len (k : Int) (n : Nat) : (marks k n).length = n := by simp [marks]
theorem nth_marks (k : Int) (n i : Nat) (h : i < n) : nth (marks k n) i = k + (i : Int) := by simp [nth, marks, h]

theorem mark_step {w : World} {g n k : Nat} {q : Int} {xs : List Int} (h : w.rowIs g 2 n (fun j => .int .i64 (if j < k then q + (j : Int) else nth xs j))) :
    (w.setCell ⟨g, k, none⟩ (.int .i64 (q + (k : Int)))).rowIs g 2 n (fun j => .int .i64 (if j < k + 1 then q + (j : Int) else nth xs j)) := by
  refine (World.rowIs.set h k _).congr fun j hj => ?_
  by_cases e : j = k
  · subst e; simp
  · by_cases l : j < k
    · rw [if_neg e, if_pos l, if_pos (by omega)]
    · rw [if_neg e, if_neg l, if_neg (by omega)]

end Go.Proofs.Ytmbncafbbpcmbaa

/- The reader of drawn bytes (l1Rd): next, below, once: whatever the bytes are, a number in its range; nothing but the reader's own place turns. -/
namespace Go.Proofs.Ytmbncafbbpcmbaa
open Go.RowKit
set_option maxRecDepth 8000
set_option linter.unusedSimpArgs false

/-- The reader lies in block rb (at B or behind): the bytes that it reads, and how far it is. -/
structure Rd (B : Nat) (w : World) (rb : Nat) (a : Option Addr) (n c : Nat) : Prop where
  from_ : B ≤ rb
  small : n ≤ 1048576
  blk : ∃ p : Nat, p ≤ n ∧ w.heap[rb]? = some (.cells #[.slice a n c, .int .i64 p] 58 (0, 0))
  code : n = 0 ∨ ∃ b off, a = some ⟨b, off, none⟩ ∧ b < B ∧ ∀ i, i < n → ∃ z : Int, 0 ≤ z ∧ z ≤ 255 ∧ w.cell? ⟨b, off + i, none⟩ = some (.int .u8 z)

theorem Rd.lt {B : Nat} {w : World} {rb : Nat} {a : Option Addr} {n c : Nat} (h : Rd B w rb a n c) : rb < w.heap.size := by
  obtain ⟨p, _, hb⟩ := h.blk
  exact (Array.getElem?_eq_some_iff.1 hb).1

theorem Rd.stays {B : Nat} {w w' : World} {rb : Nat} {a : Option Addr} {n c : Nat} (h : Rd B w rb a n c) (hb : Below w.heap.size w w') : Rd B w' rb a n c := by
  refine ⟨h.from_, h.small, ?_, ?_⟩
  · obtain ⟨p, hp, he⟩ := h.blk
    exact ⟨p, hp, (hb.block rb h.lt).trans he⟩
  · rcases h.code with h0 | ⟨b, off, e, lt, hc⟩
    · exact .inl h0
    · refine .inr ⟨b, off, e, lt, fun i hi => ?_⟩
      obtain ⟨z, z0, z1, hz⟩ := hc i hi
      exact ⟨z, z0, z1, (hb.cell (p := ⟨b, off + i, none⟩) (show b < w.heap.size by have := h.lt; have := h.from_; omega)).trans hz⟩
theorem Rd.but {B g : Nat} {w w' : World} {rb : Nat} {a : Option Addr} {n c : Nat} (h : Rd B w rb a n c) (hb : But g w w') (hg : B ≤ g) (hne : rb ≠ g) : Rd B w' rb a n c := by
  refine ⟨h.from_, h.small, ?_, ?_⟩
  · obtain ⟨p, hp, he⟩ := h.blk
    exact ⟨p, hp, (hb.block rb h.lt hne).trans he⟩
  · rcases h.code with h0 | ⟨b, off, e, lt, hc⟩
    · exact .inl h0
    · refine .inr ⟨b, off, e, lt, fun i hi => ?_⟩
      obtain ⟨z, z0, z1, hz⟩ := hc i hi
      exact ⟨z, z0, z1, (hb.cell (p := ⟨b, off + i, none⟩) (show b < w.heap.size by have := h.lt; have := h.from_; omega) (show b ≠ g by omega)).trans hz⟩

/-- The reader goes on by one. -/
theorem Rd.step {B : Nat} {w : World} {rb : Nat} {a : Option Addr} {n c p : Nat} (h : Rd B w rb a n c) (hp : w.heap[rb]? = some (.cells #[.slice a n c, .int .i64 p] 58 (0, 0))) (hlt : p < n) :
    Rd B (w.setCell ⟨rb, 1, none⟩ (.int .i64 (p + 1))) rb a n c := by
  have hb : But rb w (w.setCell ⟨rb, 1, none⟩ (.int .i64 (p + 1))) := (But.refl rb w).setCell 1 _
  refine ⟨h.from_, h.small, ⟨p + 1, by omega, ?_⟩, ?_⟩
  · simp [World.setCell, Array.getElem?_modify, hp]
  · rcases h.code with h0 | ⟨b, off, e, lt, hc⟩
    · exact .inl h0
    · refine .inr ⟨b, off, e, lt, fun i hi => ?_⟩
      obtain ⟨z, z0, z1, hz⟩ := hc i hi
      exact ⟨z, z0, z1, (hb.cell (p := ⟨b, off + i, none⟩) (show b < w.heap.size by have := h.lt; have := h.from_; omega) (show b ≠ rb by have := h.from_; omega)).trans hz⟩

theorem rd_cell0 {w : World} {rb : Nat} {x y : Value} {t : TypeId} (h : w.heap[rb]? = some (.cells #[x, y] t (0, 0))) : w.cell? ⟨rb, 0, none⟩ = some x := by simp [World.cell?, h]
theorem rd_cell1 {w : World} {rb : Nat} {x y : Value} {t : TypeId} (h : w.heap[rb]? = some (.cells #[x, y] t (0, 0))) : w.cell? ⟨rb, 1, none⟩ = some y := by simp [World.cell?, h]
theorem rd_froz {w : World} {rb o : Nat} {x y : Value} {t : TypeId} (h : w.heap[rb]? = some (.cells #[x, y] t (0, 0))) : w.frozen? ⟨rb, o, none⟩ = false := by simp [World.frozen?, h]

theorem step_blk {w : World} {rb : Nat} {x y : Value} {t : TypeId} (h : w.heap[rb]? = some (.cells #[x, y] t (0, 0))) (v : Value) : (w.setCell ⟨rb, 1, none⟩ v).heap[rb]? = some (.cells #[x, v] t (0, 0)) := by
  simp [World.setCell, Array.getElem?_modify, h]

/-- What a method of the reader leaves: its answer in a range, the reader right, all other memory as it was. -/
def RdPost (B : Nat) (w : World) (rb : Nat) (a : Option Addr) (n c : Nat) (k : IntKind) (lo hi : Int) (e : Ending) (w' : World) : Prop :=
  ∃ v : Int, e = .returned (.int k v) ∧ lo ≤ v ∧ v ≤ hi ∧ Rd B w' rb a n c ∧ But rb w w'

set_option maxHeartbeats 1000000 in
theorem next_any (B rb n c : Nat) (a : Option Addr) (w : World) (h : Rd B w rb a n c) :
    Calls Try.prog 34 #[.pointer (some ⟨rb, 0, none⟩)] w fun e w' => RdPost B w rb a n c .i64 0 255 e w' := by
  obtain ⟨p, hp, hblk⟩ := h.blk
  have c0 := rd_cell0 hblk
  have c1 := rd_cell1 hblk
  have f1 := rd_froz (o := 1) hblk
  have HBk := hide hblk
  have H := hide h
  have hs := h.small
  clear hblk
  by_cases hlt : p < n
  · rcases h.code with h0 | ⟨b, off, rfl, lt, hc⟩
    · omega
    · obtain ⟨z, z0, z1, hz⟩ := hc p hlt
      have hbr : b ≠ rb := by have := h.from_; omega
      have hblt : b < w.heap.size := by have := h.lt; have := h.from_; omega
      have HC := hide hc
      have hgd : decide ((n : Int) ≤ (p : Int)) = false := by simp; omega
      clear hc h
      go_enter Try.func34, Try.ntmps34
      go_wp2
      go_quiet (fail)
      go_wp2
      have hbN : (w.drewN nq).heap[rb]? = some (.cells #[.slice (some ⟨b, off, none⟩) n c, .int .i64 p] 58 (0, 0)) := HBk.out
      have ST2 : Hid (Rd B ((w.drewN nq).setCell ⟨rb, 1, none⟩ (.int .i64 ((p : Int) + 1))) rb (some ⟨b, off, none⟩) n c ∧ But rb w ((w.drewN nq).setCell ⟨rb, 1, none⟩ (.int .i64 ((p : Int) + 1)))) := ⟨(H.out.stays (below_drewN (Below.refl _ _) nq)).step hbN hlt, ((But.refl rb w).drewN nq).setCell 1 _⟩
      have k0 := rd_cell0 (step_blk hbN (.int .i64 ((p : Int) + 1)))
      have k1 := rd_cell1 (step_blk hbN (.int .i64 ((p : Int) + 1)))
      have k2 : ((w.drewN nq).setCell ⟨rb, 1, none⟩ (.int .i64 ((p : Int) + 1))).cell? ⟨b, off + p, none⟩ = some (.int .u8 z) := by
        rw [World.cell?_setCell_far _ _ _ _ (by simpa using Ne.symm hbr)]; exact hz
      clear hbN
      generalize (w.drewN nq).setCell ⟨rb, 1, none⟩ (.int .i64 ((p : Int) + 1)) = W2 at k0 k1 k2 ST2 ⊢
      clear c0 c1 f1 hz HC
      go_quiet (fail)
      go_wp2
      go_ret
      exact ⟨z, rfl, z0, z1, (ST2.out.1.stays (below_drewN (Below.refl _ _) _)), ST2.out.2.drewN _⟩
  · have hgd : decide ((n : Int) ≤ (p : Int)) = true := by simp; omega
    go_enter Try.func34, Try.ntmps34
    go_wp2
    go_quiet (fail)
    go_wp2
    go_ret
    exact ⟨0, rfl, by omega, by omega, h.stays (below_drewN (Below.refl _ _) _), (But.refl rb w).drewN _⟩
end Go.Proofs.Ytmbncafbbpcmbaa

/- The reader of drawn bytes: below, once, word. -/
namespace Go.Proofs.Ytmbncafbbpcmbaa
open Go.RowKit
set_option maxRecDepth 8000
set_option linter.unusedSimpArgs false

set_option maxHeartbeats 1000000 in
theorem below_any (B rb n c : Nat) (a : Option Addr) (m : Int) (w : World) (h : Rd B w rb a n c) (h1 : 1 < m) (h2 : m ≤ 256) :
    Calls Try.prog 13 #[.pointer (some ⟨rb, 0, none⟩), .int .i64 m] w fun e w' => RdPost B w rb a n c .i64 0 (m - 1) e w' := by
  have N := hide (next_any B rb n c a w h)
  clear h
  go_enter Try.func13, Try.ntmps13
  go_wp2_with fail
  refine N.out.mono ?_
  rintro e w1 ⟨v, rfl, v0, v1, hr, hb⟩
  have m0 := Int.emod_nonneg v (show m ≠ 0 by omega)
  have m1 := Int.emod_lt_of_pos v (show 0 < m by omega)
  go_wp2
  go_ret
  exact ⟨v % m, rfl, m0, by omega, hr, hb⟩

def RdPostB (B : Nat) (w : World) (rb : Nat) (a : Option Addr) (n c : Nat) (e : Ending) (w' : World) : Prop :=
  ∃ v : Bool, e = .returned (.bool v) ∧ Rd B w' rb a n c ∧ But rb w w'

set_option maxHeartbeats 1000000 in
theorem once_any (B rb n c : Nat) (a : Option Addr) (m : Int) (w : World) (h : Rd B w rb a n c) (h1 : 1 < m) (h2 : m ≤ 256) :
    Calls Try.prog 17 #[.pointer (some ⟨rb, 0, none⟩), .int .i64 m] w fun e w' => RdPostB B w rb a n c e w' := by
  have N := hide (below_any B rb n c a m w h h1 h2)
  clear h
  go_enter Try.func17, Try.ntmps17
  go_wp2_with fail
  refine N.out.mono ?_
  rintro e w1 ⟨v, rfl, v0, v1, hr, hb⟩
  go_wp2
  go_ret
  exact ⟨_, rfl, hr, hb⟩

set_option maxHeartbeats 1000000 in
theorem word_any (B rb n c : Nat) (a : Option Addr) (w : World) (h : Rd B w rb a n c) :
    Calls Try.prog 52 #[.pointer (some ⟨rb, 0, none⟩)] w fun e w' => RdPost B w rb a n c .u64 0 18446744073709551615 e w' := by
  go_enter Try.func52, Try.ntmps52
  go_wp2_with fail
  go_loopw [3, 4] (fun s i wr => ∃ (k : Nat) (x : Int), k ≤ 8 ∧ i = .int .i64 k ∧ s = .int .u64 x ∧ (Lit.int .u64 x).wf = true ∧ Rd B wr rb a n c ∧ But rb w wr) (fun _ i _ => 8 - (intOf i).toNat)
  case atStart => exact ⟨0, 0, Nat.zero_le _, rfl, rfl, by decide, h, But.refl _ _⟩
  case round =>
    obtain ⟨k, x, hk, rfl, rfl, hx, hr, hb⟩ := hrel
    by_cases hlt : k < 8
    · have N := hide (next_any B rb n c a wr hr)
      have HX := hide hx
      have HBB := hide hb
      clear hr hb hx
      go_wp2_with fail
      refine N.out.mono ?_
      rintro e w1 ⟨v, rfl, v0, v1, hr1, hb1⟩
      go_wp2_with fail
      exact ⟨⟨k + 1, _, by omega, by go_num, rfl, wf_bits _ _ _ _, hr1, HBB.out.trans hb1⟩, by simp [intOf]; omega⟩
    · go_wp2
      go_ret
      have := bounds_u64 hx
      exact ⟨x, rfl, by omega, by omega, hr, hb⟩
end Go.Proofs.Ytmbncafbbpcmbaa

/- The reader of drawn bytes: comp, near, off. -/
namespace Go.Proofs.Ytmbncafbbpcmbaa
open Go.RowKit
set_option maxRecDepth 8000
set_option linter.unusedSimpArgs false

theorem Rd.alloc {B : Nat} {w : World} {rb : Nat} {a : Option Addr} {n c : Nat} (h : Rd B w rb a n c) (o : Obj) : Rd B (w.alloc o) rb a n c := h.stays (balloc (Below.refl _ _) o)

set_option maxHeartbeats 1000000 in
theorem comp_any (B rb n c : Nat) (a : Option Addr) (w : World) (h : Rd B w rb a n c) :
    Calls Try.prog 51 #[.pointer (some ⟨rb, 0, none⟩)] w fun e w' => RdPost B w rb a n c .i64 (-1048576) 1048576 e w' := by
  have N := hide (below_any B rb n c a 12 w h (by omega) (by omega))
  clear h
  go_enter Try.func51, Try.ntmps51
  go_wp2_with fail
  refine N.out.mono ?_
  rintro e w1 ⟨v, rfl, v0, v1, hr, hb⟩
  have B3 := hide (fun w (h : Rd B w rb a n c) => below_any B rb n c a 3 w h (by omega) (by omega))
  have B200 := hide (fun w (h : Rd B w rb a n c) => below_any B rb n c a 200 w h (by omega) (by omega))
  have W := hide (fun w (h : Rd B w rb a n c) => word_any B rb n c a w h)
  have HR := hide hr
  have HBB := hide hb
  have hlt := hr.lt
  clear hr hb
  by_cases e0 : v = 0
  · have b0 : (v == 0) = true := by simp [e0]
    go_wp2_with fail
    refine (B3.out _ (HR.out.alloc _)).mono ?_
    rintro e w2 ⟨u, rfl, u0, u1, hr2, hb2⟩
    have hlt2 : w1.heap.size < w2.heap.size := by have := hb2.size; simp at this; omega
    have k0 : w2.cell? ⟨w1.heap.size, 0, none⟩ = some (.int .i64 1048576) := (hb2.cell (p := ⟨w1.heap.size, 0, none⟩) (by simp) (by simp; omega)).trans (by simp [go_sem])
    have k1 : w2.cell? ⟨w1.heap.size, 1, none⟩ = some (.int .i64 (-1048576)) := (hb2.cell (p := ⟨w1.heap.size, 1, none⟩) (by simp) (by simp; omega)).trans (by simp [go_sem])
    have k2 : w2.cell? ⟨w1.heap.size, 2, none⟩ = some (.int .i64 1048575) := (hb2.cell (p := ⟨w1.heap.size, 2, none⟩) (by simp) (by simp; omega)).trans (by simp [go_sem])
    have HB2 := hide (HBB.out.alloc (.cells #[.int .i64 1048576, .int .i64 (-1048576), .int .i64 1048575] 2) |>.trans hb2)
    clear hb2
    rcases (show u = 0 ∨ u = 1 ∨ u = 2 by omega) with rfl | rfl | rfl
    · go_wp2
      go_ret
      exact ⟨_, rfl, by omega, by omega, hr2, HB2.out⟩
    · go_wp2
      go_ret
      exact ⟨_, rfl, by omega, by omega, hr2, HB2.out⟩
    · go_wp2
      go_ret
      exact ⟨_, rfl, by omega, by omega, hr2, HB2.out⟩
  · have b0 : (v == 0) = false := by simp [e0]
    by_cases e1 : v = 1
    · have b1 : (v == 1) = true := by simp [e1]
      go_wp2_with fail
      refine (W.out _ HR.out).mono ?_
      rintro e w2 ⟨u, rfl, u0, u1, hr2, hb2⟩
      have m0 := Int.emod_nonneg u (show (2097152 : Int) ≠ 0 by omega)
      have m1 := Int.emod_lt_of_pos u (show (0 : Int) < 2097152 by omega)
      go_wp2
      go_ret
      exact ⟨u % 2097152 - 1048576, rfl, by omega, by omega, hr2, HBB.out.trans hb2⟩
    · have b1 : (v == 1) = false := by simp [e1]
      go_wp2_with fail
      refine (B200.out _ HR.out).mono ?_
      rintro e w2 ⟨u, rfl, u0, u1, hr2, hb2⟩
      go_wp2
      go_ret
      exact ⟨u - 100, rfl, by omega, by omega, hr2, HBB.out.trans hb2⟩
end Go.Proofs.Ytmbncafbbpcmbaa

/- The reader of drawn bytes: near, off. -/
namespace Go.Proofs.Ytmbncafbbpcmbaa
open Go.RowKit
set_option maxRecDepth 8000
set_option linter.unusedSimpArgs false

def RdPostA (B : Nat) (w : World) (rb : Nat) (a : Option Addr) (n c : Nat) (e : Ending) (w' : World) : Prop :=
  ∃ v : Int, e = .returned (.int .i64 v) ∧ Rd B w' rb a n c ∧ But rb w w'

set_option maxHeartbeats 1000000 in
theorem near_any (B rb n c : Nat) (a : Option Addr) (lo hi : Int) (w : World) (h : Rd B w rb a n c) (l0 : -2251799813685248 ≤ lo) (l1 : lo ≤ 2251799813685248) (g0 : -2251799813685248 ≤ hi) (g1 : hi ≤ 2251799813685248) :
    Calls Try.prog 39 #[.pointer (some ⟨rb, 0, none⟩), .int .i64 lo, .int .i64 hi] w fun e w' => RdPostA B w rb a n c e w' := by
  have N := hide (below_any B rb n c a 8 w h (by omega) (by omega))
  clear h
  go_enter Try.func39, Try.ntmps39
  go_wp2_with fail
  refine N.out.mono ?_
  rintro e w1 ⟨v, rfl, v0, v1, hr, hb⟩
  by_cases e0 : v = 0
  · have b0 : (v == 0) = true := by simp [e0]
    go_wp2
    go_ret
    exact ⟨_, rfl, hr, hb⟩
  · have b0 : (v == 0) = false := by simp [e0]
    by_cases e1 : v = 1
    · have b1 : (v == 1) = true := by simp [e1]
      go_wp2
      go_ret
      exact ⟨_, rfl, hr, hb⟩
    · have b1 : (v == 1) = false := by simp [e1]
      by_cases e2 : hi < lo
      · go_wp2
        go_ret
        exact ⟨_, rfl, hr, hb⟩
      · have W := hide (word_any B rb n c a w1 hr)
        have HBB := hide hb
        clear hr hb N
        go_wp2_with fail
        refine W.out.mono ?_
        rintro e w2 ⟨u, rfl, u0, u1, hr2, hb2⟩
        go_wp2
        go_ret
        exact ⟨_, rfl, hr2, HBB.out.trans hb2⟩

set_option maxHeartbeats 1000000 in
theorem off_any (B rb n c : Nat) (a : Option Addr) (lo hi : Int) (w : World) (h : Rd B w rb a n c) (l0 : -2251799813685248 ≤ lo) (l1 : lo ≤ 2251799813685248) (g0 : -2251799813685248 ≤ hi) (g1 : hi ≤ 2251799813685248) :
    Calls Try.prog 18 #[.pointer (some ⟨rb, 0, none⟩), .int .i64 lo, .int .i64 hi] w fun e w' => RdPostA B w rb a n c e w' := by
  have N := hide (once_any B rb n c a 24 w h (by omega) (by omega))
  clear h
  go_enter Try.func18, Try.ntmps18
  go_wp2_with fail
  refine N.out.mono ?_
  rintro e w1 ⟨v, rfl, hr, hb⟩
  have B4 := hide (fun w (h : Rd B w rb a n c) => below_any B rb n c a 4 w h (by omega) (by omega))
  have NE := hide (near_any B rb n c a lo hi w1 hr l0 l1 g0 g1)
  have HR := hide hr
  have HBB := hide hb
  have hlt := hr.lt
  clear hr hb N
  cases v
  · go_wp2_with fail
    refine NE.out.mono ?_
    rintro e w2 ⟨u, rfl, hr2, hb2⟩
    go_wp2
    go_ret
    exact ⟨_, rfl, hr2, HBB.out.trans hb2⟩
  · go_wp2_with fail
    refine (B4.out _ (HR.out.alloc _)).mono ?_
    rintro e w2 ⟨u, rfl, u0, u1, hr2, hb2⟩
    have hlt2 : w1.heap.size < w2.heap.size := by have := hb2.size; simp at this; omega
    have k0 : w2.cell? ⟨w1.heap.size, 0, none⟩ = some (.int .i64 (lo - 1)) := (hb2.cell (p := ⟨w1.heap.size, 0, none⟩) (by simp) (by simp; omega)).trans (by simp [go_sem])
    have k1 : w2.cell? ⟨w1.heap.size, 1, none⟩ = some (.int .i64 (hi + 1)) := (hb2.cell (p := ⟨w1.heap.size, 1, none⟩) (by simp) (by simp; omega)).trans (by simp [go_sem])
    obtain ⟨q2, k2⟩ : ∃ q, w2.cell? ⟨w1.heap.size, 2, none⟩ = some (.int .i64 q) := ⟨_, (hb2.cell (p := ⟨w1.heap.size, 2, none⟩) (by simp) (by simp; omega)).trans (by simp [go_sem]; rfl)⟩
    obtain ⟨q3, k3⟩ : ∃ q, w2.cell? ⟨w1.heap.size, 3, none⟩ = some (.int .i64 q) := ⟨_, (hb2.cell (p := ⟨w1.heap.size, 3, none⟩) (by simp) (by simp; omega)).trans (by simp [go_sem]; rfl)⟩
    have HB2 := hide ((HBB.out.alloc _).trans hb2)
    clear hb2
    rcases (show u = 0 ∨ u = 1 ∨ u = 2 ∨ u = 3 by omega) with rfl | rfl | rfl | rfl
    all_goals
      go_wp2
      go_ret
      exact ⟨_, rfl, hr2, HB2.out⟩

end Go.Proofs.Ytmbncafbbpcmbaa

/- Lists made by append: the values of a function, as cells that the call owns and as a row that is read. -/
namespace Go.Proofs.Ytmbncafbbpcmbaa
open Go.RowKit
set_option maxRecDepth 8000
set_option linter.unusedSimpArgs false

/-- The first k values of f. -/
def vals (f : Nat → Int) (k : Nat) : List Value := (List.range k).map fun (j : Nat) => .int .i64 (f j)
theorem vals_succ (f : Nat → Int) (k : Nat) : vals f (k + 1) = vals f k ++ [.int .i64 (f k)] := by simp [vals, List.range_succ]
theorem vals_len (f : Nat → Int) (k : Nat) : (vals f k).length = k := by simp [vals]
def ints (f : Nat → Int) (k : Nat) : List Int := (List.range k).map f
theorem nth_ints (f : Nat → Int) (k j : Nat) (h : j < k) : nth (ints f k) j = f j := by simp [nth, ints, h]
theorem ints_len (f : Nat → Int) (k : Nat) : (ints f k).length = k := by simp [ints]

/-- What the call owns by append, as a row that is read. -/
theorem row_of_owns {w : World} {base : Nat} {v : Value} {n : Nat} {f : Nat → Int} (h : w.ownsRow base 2 1 v n (vals f n)) :
    ∃ a cap, v = .slice a n cap ∧ Row w a n (ints f n) ∧ ∀ b off, a = some ⟨b, off, none⟩ → base ≤ b := by
  have h0 := h
  rcases h.2 with ⟨rfl, rfl⟩ | ⟨g, cap, cur, rfl, hb, hg, hcap, _, hsz, htake⟩
  · exact ⟨none, 0, rfl, ⟨rfl, .inl rfl⟩, fun b off e => by cases e⟩
  · refine ⟨_, cap, rfl, ⟨ints_len f n, .inr ⟨g, 0, rfl, (Array.getElem?_eq_some_iff.1 hg).1, fun i hi => ?_⟩⟩, fun b off e => by cases e; exact hb⟩
    have hc := h0.cells (g := g) rfl i (.int .i64 (f i)) (by simp [vals, hi])
    rw [nth_ints f n i hi, Nat.zero_add]
    by_cases h00 : i = 0
    · subst h00; simpa [Addr.add] using hc
    · simpa [Addr.add, h00] using hc

theorem one_new (w : World) (v : Value) (t : TypeId) : ∀ (j : Nat) (u : Value), [v][j]? = some u → (w.alloc (.cells #[v] t)).cell? ((⟨w.heap.size, 0, none⟩ : Addr).add j) = some u := by
  intro j u hj
  match j, hj with
  | 0, hj => simp at hj; subst hj; simp [Addr.add]
  | j + 1, hj => simp at hj
/-- Behind an append of one element the old memory is as it was. -/
theorem below_app {w wr w2 : World} {o : Obj} {v : Value} {k : Nat} {e : TypeId} {size : Nat} {xs : List Value} (hb : Below w.heap.size w wr) (ho : wr.ownsRow w.heap.size e size v k xs) (hg : (wr.alloc o).grownBy w2 v.ownBlock) : Below w.heap.size w w2 :=
  (balloc hb o).grown hg (by have := hb.size; simp; omega) fun k' hk' => (ho.lt k' hk').1

end Go.Proofs.Ytmbncafbbpcmbaa

/- The reader of drawn bytes: vec. -/
namespace Go.Proofs.Ytmbncafbbpcmbaa
open Go.RowKit
set_option maxRecDepth 8000
set_option linter.unusedSimpArgs false

theorem vals_snoc (f : Nat → Int) (k : Nat) (x : Int) : vals f k ++ [.int .i64 x] = vals (fun j => if j = k then x else f j) (k + 1) := by
  rw [vals_succ]
  congr 1
  · unfold vals
    exact List.map_congr_left fun j hj => by have := List.mem_range.1 hj; show _ = Value.int .i64 (if j = k then x else f j); rw [if_neg (by omega)]
  · simp

theorem owns_but {w wr w1 : World} {rb : Nat} {e : TypeId} {size : Nat} {v : Value} {k : Nat} {xs : List Value} (h : wr.ownsRow w.heap.size e size v k xs) (hb : But rb wr w1) (hlt : rb < w.heap.size) : w1.ownsRow w.heap.size e size v k xs := by
  refine ⟨h.1, ?_⟩
  rcases h.2 with h0 | ⟨g, cap, cur, hv, hg, hh, rest⟩
  · exact .inl h0
  · exact .inr ⟨g, cap, cur, hv, hg, (hb.block g (Array.getElem?_eq_some_iff.1 hh).1 (by omega)).trans hh, rest⟩

/-- Behind an append of one element onto what the call owns: all but the reader's block is as it was; the reader is right. -/
theorem but_app {w wr w2 : World} {rb : Nat} {o : Obj} {v : Value} {k : Nat} {e : TypeId} {size : Nat} {xs : List Value} (hb : But rb w wr) (ho : wr.ownsRow w.heap.size e size v k xs) (hg : (wr.alloc o).grownBy w2 v.ownBlock) : But rb w w2 := by
  have h1 := hb.alloc o
  refine ⟨hg.os.trans h1.os, hg.tape.trans h1.tape, hg.output.trans h1.output, Nat.le_trans h1.size hg.size, fun i hi hne => ?_⟩
  exact (hg.block i (Nat.lt_of_lt_of_le hi h1.size) (fun e => by have := (ho.lt i e.symm).1; omega)).trans (h1.block i hi hne)
theorem Rd.app {B : Nat} {w wr w2 : World} {rb : Nat} {a : Option Addr} {n c : Nat} {o : Obj} {v : Value} {k : Nat} {e : TypeId} {size : Nat} {xs : List Value} (h : Rd B wr rb a n c) (hlt : rb < w.heap.size) (hB : B ≤ w.heap.size) (ho : wr.ownsRow w.heap.size e size v k xs) (hg : (wr.alloc o).grownBy w2 v.ownBlock) : Rd B w2 rb a n c := by
  have h1 := h.alloc o
  have hs := h.lt
  refine ⟨h.from_, h.small, ?_, ?_⟩
  · obtain ⟨p, hp, he⟩ := h1.blk
    exact ⟨p, hp, (hg.block rb h1.lt (fun e => by have := (ho.lt rb e.symm).1; omega)).trans he⟩
  · rcases h1.code with h0 | ⟨b, off, e', lt, hc⟩
    · exact .inl h0
    · refine .inr ⟨b, off, e', lt, fun i hi => ?_⟩
      obtain ⟨z, z0, z1, hz⟩ := hc i hi
      exact ⟨z, z0, z1, (World.cell?_of_block (w := wr.alloc o) (a := ⟨b, off + i, none⟩) (hg.block b (show b < (wr.alloc o).heap.size by have := h.from_; simp; omega) (fun e => by have := (ho.lt b e.symm).1; omega))).trans hz⟩

def VecPost (B : Nat) (w : World) (rb : Nat) (a : Option Addr) (n c d : Nat) (e : Ending) (w' : World) : Prop :=
  ∃ (v : Value) (f : Nat → Int), e = .returned v ∧ w'.ownsRow w.heap.size 2 1 v d (vals f d) ∧ Rd B w' rb a n c ∧ But rb w w'

set_option maxHeartbeats 1000000 in
theorem vec_any (B rb n c : Nat) (a : Option Addr) (d : Nat) (w : World) (h : Rd B w rb a n c) (hB : B ≤ w.heap.size) (hd : d ≤ 100) :
    Calls Try.prog 38 #[.pointer (some ⟨rb, 0, none⟩), .int .i64 d] w fun e w' => VecPost B w rb a n c d e w' := by
  obtain ⟨i0, hi, hz0, hz1, hz2⟩ := info_parts Try.infoI64
  have HH := hide h
  have hltw := h.lt
  clear h
  go_enter Try.func38, Try.ntmps38
  go_wp2_with fail
  go_loopw [5, 6] (fun v i wr => ∃ (k : Nat) (f : Nat → Int), k ≤ d ∧ i = .int .i64 k ∧ wr.ownsRow w.heap.size 2 1 v k (vals f k) ∧ Rd B wr rb a n c ∧ But rb w wr) (fun _ i _ => d - (intOf i).toNat)
  case atStart => exact ⟨0, fun _ => 0, Nat.zero_le _, rfl, World.ownsRow_made w #[] 0 (Nat.le_refl _) (Nat.zero_le _) rfl, HH.out.alloc _, (But.refl _ _).alloc _⟩
  case round =>
    obtain ⟨k, f, hk, rfl, hown, hr, hb⟩ := hrel
    by_cases hlt : k < d
    · have C := hide (comp_any B rb n c a wr hr)
      have HO := hide hown
      have HBB := hide hb
      clear hr hb hown
      go_wp2_with fail
      refine C.out.mono ?_
      rintro e w1 ⟨x, rfl, x0, x1, hr1, hb1⟩
      have hob : w1.ownsRow w.heap.size 2 1 _ k (vals f k) := owns_but HO.out hb1 hltw
      have HO1 := hide hob
      have HB1 := hide (HBB.out.trans hb1)
      have HR1 := hide hr1
      have s1 := HB1.out.size
      clear hob hb1 hr1 HO HBB
      go_wp2_with (at_builtin; refine wpList_append_own _ rfl _ _ 25 rfl w.heap.size 2 i0 (.int .i64 0) 1 8 Try.underlying25 hi hz0 hz1 hz2 rfl (by decide) _ _ _ rfl (HO1.out.alloc _) ⟨_, 0, none⟩ 1 1 [.int .i64 x] rfl rfl ?c1 ?c2 ?c3 ?c4 ?c5 ?_)
      case c1 => exact one_new _ _ _
      case c2 => intro u hu; simp at hu; subst hu; rfl
      case c3 => unfold maxLen; omega
      case c4 => omega
      case c5 => simp; omega
      intro v' w2 hown2 hgrow _
      rw [vals_snoc] at hown2
      have hB2 := but_app HB1.out HO1.out hgrow
      have hR2 := HR1.out.app hltw hB HO1.out hgrow
      have HO2 := hide hown2
      have HB2 := hide hB2
      have HR2 := hide hR2
      clear hgrow hown2 hB2 hR2 HO1
      go_wp2_with fail
      go_roundw
      case rel => exact ⟨k + 1, _, by omega, by go_num, HO2.out, HR2.out, HB2.out⟩
      case measure => simp [intOf]; omega
    · have hkn : k = d := by omega
      subst hkn
      go_wp2_with fail
      go_ret
      exact ⟨_, f, rfl, hown, hr, hb⟩
end Go.Proofs.Ytmbncafbbpcmbaa
