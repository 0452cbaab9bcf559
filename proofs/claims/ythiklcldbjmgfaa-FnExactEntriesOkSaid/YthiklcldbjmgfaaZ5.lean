/- Slices of int64 in memory: what a slice leads to ('Row'), a row of the call's own ('Own'), a world that parts in one block ('But'). -/
import Derived.Test.YthiklcldbjmgfaaZ1
import Derived.Deep.OwnRows
import Derived.Deep.LoopGhost
import Derived.Deep.RegionWith
import Derived.Deep.DeepCutAuto
namespace Go.Proofs.Ythiklcldbjmgfaa
open Go.RowKit
set_option maxRecDepth 8000

theorem Try.infoI64 : (Try.prog.info? 2).map (fun i => (i.zero, i.size, i.bytes)) = some (some (.int .i64 0), 1, 8) := by kernel_rfl

/-- The i-th number (0 where there is none); a name of its own, so that the walk leaves it as it is. -/
def nth (xs : List Int) (i : Nat) : Int := xs.getD i 0

/-- A slice of n numbers that begins at a leads to the numbers xs. -/
structure Row (w : World) (a : Option Addr) (n : Nat) (xs : List Int) : Prop where
  len : xs.length = n
  lies : n = 0 ∨ ∃ b off, a = some ⟨b, off, none⟩ ∧ b < w.heap.size ∧ ∀ i, i < n → w.cell? ⟨b, off + i, none⟩ = some (.int .i64 (nth xs i))

theorem Row.below {w w' : World} {a : Option Addr} {n : Nat} {xs : List Int} (h : Row w a n xs) (hb : Below w.heap.size w w') : Row w' a n xs := by
  refine ⟨h.len, ?_⟩
  rcases h.lies with h0 | ⟨b, off, e, lt, hc⟩
  · exact .inl h0
  · exact .inr ⟨b, off, e, Nat.lt_of_lt_of_le lt hb.size, fun i hi => (hb.cell (p := ⟨b, off + i, none⟩) lt).trans (hc i hi)⟩

/-- A row of the call's own that holds the numbers xs, and may be written. -/
def Own (w : World) (g : Nat) (xs : List Int) : Prop := w.rowIs g 2 xs.length (fun i => .int .i64 (nth xs i))

theorem Own.row {w : World} {g : Nat} {xs : List Int} (h : Own w g xs) : Row w (some ⟨g, 0, none⟩) xs.length xs :=
  ⟨rfl, .inr ⟨g, 0, rfl, World.rowIs.lt h, fun i hi => by rw [Nat.zero_add]; exact World.rowIs.cell h hi⟩⟩

theorem Own.below {w w' : World} {g : Nat} {xs : List Int} (h : Own w g xs) (hb : Below w.heap.size w w') : Own w' g xs :=
  World.rowIs.of_block h (hb.block g (World.rowIs.lt h))

/-- What the loop of toInt64S has made of its row behind k rounds. -/
theorem copy_step {w : World} {g n k : Nat} {xs : List Int} (h : w.rowIs g 2 n (fun j => .int .i64 (if j < k then nth xs j else 0))) :
    (w.setCell ⟨g, k, none⟩ (.int .i64 (nth xs k))).rowIs g 2 n (fun j => .int .i64 (if j < k + 1 then nth xs j else 0)) := by
  refine (World.rowIs.set h k _).congr fun j hj => ?_
  by_cases e : j = k
  · subst e; simp
  · by_cases l : j < k
    · rw [if_neg e, if_pos l, if_pos (by omega)]
    · rw [if_neg e, if_neg l, if_neg (by omega)]

theorem nth_ext {xs ys : List Int} (hl : xs.length = ys.length) (h : ∀ j, j < xs.length → nth xs j = nth ys j) : xs = ys := by
  refine List.ext_getElem hl fun j h1 h2 => ?_
  have := h j h1
  simpa [nth, h1, h2] using this

/-- w' is w, but for block g, which may have been written. -/
structure But (g : Nat) (w w' : World) : Prop where
  os : w'.os = w.os
  tape : w'.tape = w.tape
  output : w'.output = w.output
  size : w.heap.size ≤ w'.heap.size
  block : ∀ k, k < w.heap.size → k ≠ g → w'.heap[k]? = w.heap[k]?

theorem But.refl (g : Nat) (w : World) : But g w w := ⟨rfl, rfl, rfl, Nat.le_refl _, fun _ _ _ => rfl⟩

theorem But.below {B g : Nat} {w w' : World} (h : But g w w') (hg : B ≤ g) (hB : B ≤ w.heap.size) : Below B w w' :=
  ⟨h.os, h.tape, h.output, h.size, fun k hk => h.block k (by omega) (by omega)⟩

theorem But.setCell {g : Nat} {a w : World} (h : But g a w) (o : Nat) (v : Value) : But g a (w.setCell ⟨g, o, none⟩ v) :=
  ⟨h.os, h.tape, h.output, by simpa [World.setCell] using h.size, fun k hk hg => (Below.heap_setCell w ⟨g, o, none⟩ v k hg).trans (h.block k hk hg)⟩

theorem But.row {g : Nat} {w w' : World} {a : Option Addr} {n : Nat} {xs : List Int} (h : But g w w') (r : Row w a n xs) (hne : ∀ b off, a = some ⟨b, off, none⟩ → b ≠ g) : Row w' a n xs := by
  refine ⟨r.len, ?_⟩
  rcases r.lies with h0 | ⟨b, off, e, lt, hc⟩
  · exact .inl h0
  · exact .inr ⟨b, off, e, Nat.lt_of_lt_of_le lt h.size, fun i hi => (World.cell?_of_block (w := w) (h.block b lt (hne b off e))).trans (hc i hi)⟩

theorem But.own {g g' : Nat} {w w' : World} {xs : List Int} (h : But g w w') (r : Own w g' xs) (hne : g' ≠ g) : Own w' g' xs :=
  World.rowIs.of_block r (h.block g' (World.rowIs.lt r) hne)

theorem But.trans {g : Nat} {a b c : World} (h : But g a b) (k : But g b c) : But g a c :=
  ⟨k.os.trans h.os, k.tape.trans h.tape, k.output.trans h.output, Nat.le_trans h.size k.size, fun i hi hg => (k.block i (Nat.lt_of_lt_of_le hi h.size) hg).trans (h.block i hi hg)⟩

theorem But.alloc {g : Nat} {a b : World} (h : But g a b) (o : Obj) : But g a (b.alloc o) :=
  ⟨h.os, h.tape, h.output, by have := h.size; simp; omega, fun i hi hg => (Below.heap_alloc b o i (Nat.lt_of_lt_of_le hi h.size)).trans (h.block i hi hg)⟩

theorem But.drew {g : Nat} {a b : World} (h : But g a b) : But g a b.drew := ⟨h.os, h.tape, h.output, h.size, h.block⟩

theorem But.drewN {g : Nat} {a b : World} (h : But g a b) (n : Nat) : But g a (b.drewN n) := h.trans ⟨rfl, rfl, rfl, Nat.le_refl _, fun _ _ _ => rfl⟩

theorem But.cell {g : Nat} {w w' : World} (h : But g w w') {p : Addr} (lt : p.block < w.heap.size) (hne : p.block ≠ g) : w'.cell? p = w.cell? p := World.cell?_of_block (w := w) (h.block p.block lt hne)

theorem But.frozen {g : Nat} {w w' : World} (h : But g w w') {p : Addr} (lt : p.block < w.heap.size) (hne : p.block ≠ g) : w'.frozen? p = w.frozen? p := World.frozen?_of_block (w := w) (h.block p.block lt hne)

theorem but_far {rb g : Nat} {w0 w : World} (h : But rb w0 w) (hg : w0.heap.size ≤ g) (o : Nat) (v : Value) : But rb w0 (w.setCell ⟨g, o, none⟩ v) :=
  ⟨h.os, h.tape, h.output, by simpa [World.setCell] using h.size, fun k hk hne => (Below.heap_setCell w ⟨g, o, none⟩ v k (by simp; omega)).trans (h.block k hk hne)⟩

/-- k, k + 1, .. : n numbers. -/
def marks (k : Int) (n : Nat) : List Int := (List.range n).map fun (i : Nat) => k + (i : Int)

theorem marks_len (k : Int) (n : Nat) : (marks k n).length = n := by simp [marks]

theorem nth_marks (k : Int) (n i : Nat) (h : i < n) : nth (marks k n) i = k + (i : Int) := by simp [nth, marks, h]

theorem mark_step {w : World} {g n k : Nat} {q : Int} {xs : List Int} (h : w.rowIs g 2 n (fun j => .int .i64 (if j < k then q + (j : Int) else nth xs j))) :
    (w.setCell ⟨g, k, none⟩ (.int .i64 (q + (k : Int)))).rowIs g 2 n (fun j => .int .i64 (if j < k + 1 then q + (j : Int) else nth xs j)) := by
  refine (World.rowIs.set h k _).congr fun j hj => ?_
  by_cases e : j = k
  · subst e; simp
  · by_cases l : j < k
    · rw [if_neg e, if_pos l, if_pos (by omega)]
    · rw [if_neg e, if_neg l, if_neg (by omega)]

end Go.Proofs.Ythiklcldbjmgfaa

/- Vectors: VecOk of the model and of the program. -/
namespace Go.Proofs.Ythiklcldbjmgfaa
open Go.RowKit
set_option maxRecDepth 8000
set_option linter.unusedSimpArgs false

def vecOkB (xs : List Int) : Bool := decide (1 ≤ xs.length ∧ xs.length ≤ 8) && xs.all compB

theorem all_nth {xs : List Int} (h : ∀ j, j < xs.length → compB (nth xs j) = true) : xs.all compB = true := by
  rw [List.all_eq_true]
  intro x hx
  obtain ⟨j, hj, rfl⟩ := List.getElem_of_mem hx
  have := h j hj
  simpa [nth, hj] using this

theorem not_all_nth {xs : List Int} {j : Nat} (hj : j < xs.length) (h : compB (nth xs j) = false) : xs.all compB = false := by
  rw [List.all_eq_false]
  exact ⟨xs[j], List.getElem_mem hj, by simpa [nth, hj] using h⟩

set_option maxHeartbeats 400000 in
theorem sVecOk_some (b off n cap : Nat) (xs : List Int) (w : World) (hl : xs.length = n) (hn : n ≤ 1048576) (hc : ∀ i, i < n → w.cell? ⟨b, off + i, none⟩ = some (.int .i64 (nth xs i))) :
    Calls Try.prog 57 #[.slice (some ⟨b, off, none⟩) n cap] w fun e w' => e = .returned (.bool (vecOkB xs)) ∧ w' = w := by
  go_enter Try.func57, Try.ntmps57
  go_wp2
  go_loop [3] (fun i => ∃ k : Nat, k ≤ n ∧ i = .int .i64 k ∧ (∀ j, j < k → compB (nth xs j) = true)) (fun i => n - (intOf i).toNat)
  case atStart => exact ⟨0, Nat.zero_le _, rfl, fun j h => absurd h (by omega)⟩
  case round =>
    obtain ⟨k, hk, rfl, hpre⟩ := hrel
    have HP : Hid (∀ j, j < k → compB (nth xs j) = true) := hpre
    have HC : Hid (∀ i, i < n → w.cell? ⟨b, off + i, none⟩ = some (.int .i64 (nth xs i))) := hc
    by_cases hlt : k < n
    · have h1 := hc k hlt
      clear hpre hc
      cases he : compB (nth xs k)
      · have HE : Hid (compB (nth xs k) = false) := he
        go_wp2_with (go_at_call 55; refine (l1Comp_any _ _).mono ?_; rintro e w' ⟨rfl, rfl⟩)
        go_ret
        exact ⟨by rw [show vecOkB xs = false from by unfold vecOkB; rw [not_all_nth (by omega) HE.out, Bool.and_false]]; rfl, rfl⟩
      · have HE : Hid (compB (nth xs k) = true) := he
        go_wp2_with (go_at_call 55; refine (l1Comp_any _ _).mono ?_; rintro e w' ⟨rfl, rfl⟩)
        go_round
        case rel => exact ⟨k + 1, by omega, by go_num, fun j hj => (by rcases Nat.lt_succ_iff_lt_or_eq.1 hj with h | h; exact HP.out j h; rw [h]; exact HE.out)⟩
        case measure => simp [intOf]; omega
    · clear hpre hc
      go_wp2_with (go_at_call 39; refine (l1In_any _ _ _ _).mono ?_; rintro e w' ⟨rfl, rfl⟩)
      go_ret
      refine ⟨?_, rfl⟩
      rw [show vecOkB xs = inB (n : Int) 1 8 from by
        unfold vecOkB
        rw [all_nth (fun j hj => HP.out j (by omega)), Bool.and_true]
        unfold inB
        rw [hl]
        exact decide_eq_decide.2 (by omega)]
      rfl

set_option maxHeartbeats 400000 in
theorem sVecOk_none (a : Option Addr) (n cap : Nat) (w : World) (hn : n < 1) :
    Calls Try.prog 57 #[.slice a n cap] w fun e w' => e = .returned (.bool false) ∧ w' = w := by
  go_enter Try.func57, Try.ntmps57
  go_wp2
  refine wp_loop_rounds 1 ?_
  rw [rounds_succ]
  go_wp2_with (go_at_call 39; refine (l1In_any _ _ _ _).mono ?_; rintro e w' ⟨rfl, rfl⟩)
  go_ret
  refine ⟨?_, rfl⟩
  rw [show false = inB (n : Int) 1 8 from by unfold inB; exact (decide_eq_false (by omega)).symm]
  rfl

theorem sVecOk_any (a : Option Addr) (n cap : Nat) (xs : List Int) (w : World) (h : Row w a n xs) (hn : n ≤ 1048576) :
    Calls Try.prog 57 #[.slice a n cap] w fun e w' => e = .returned (.bool (vecOkB xs)) ∧ w' = w := by
  rcases h.lies with h0 | ⟨b, off, rfl, hb, hc⟩
  · have hx : xs = [] := List.eq_nil_of_length_eq_zero (h.len.trans h0)
    subst hx
    exact sVecOk_none a n cap w (by omega)
  · exact sVecOk_some b off n cap xs w h.len hn hc
end Go.Proofs.Ythiklcldbjmgfaa

/- Vectors of the program: vectorOf, VecOk. -/
namespace Go.Proofs.Ythiklcldbjmgfaa
open Go.RowKit
set_option maxRecDepth 8000
set_option linter.unusedSimpArgs false

/-- A vector as the program has it: eight numbers, noughts behind, and how many. -/
def vecV (xs : List Int) (n : Int) : Value := .agg #[.int .i64 (nth xs 0), .int .i64 (nth xs 1), .int .i64 (nth xs 2), .int .i64 (nth xs 3), .int .i64 (nth xs 4), .int .i64 (nth xs 5), .int .i64 (nth xs 6), .int .i64 (nth xs 7), .int .i64 n]
def cellF (xs : List Int) (n : Nat) (k j : Nat) : Value := if j < k then .int .i64 (nth xs j) else if j = 8 then .int .i64 n else .int .i64 0

set_option maxHeartbeats 400000 in
theorem vectorOf_len (a : Option Addr) (n cap : Nat) (w : World) (h : n < 1 ∨ 8 < n) (hn : n ≤ 1048576) :
    Calls Try.prog 60 #[.slice a n cap] w fun e w' => e = .returned (.tuple #[vecV [] 0, .bool false]) ∧ Below w.heap.size w w' := by
  rcases h with h | h
  · go_enter Try.func60, Try.ntmps60
    go_wp2
    refine bodyPost_ret (v := .tuple #[vecV [] 0, .bool false]) ?_ rfl ⟨rfl, ?_⟩
    · simp [results, Try.results60, go_sem, vecV, nth]
    · exact (by repeat' first | with_reducible exact Below.refl _ _ | with_reducible assumption | with_reducible refine below_drewN ?_ _ | with_reducible refine balloc ?_ _ | with_reducible refine Below.drew ?_ | with_reducible refine Below.setCell ?_ (by first | (simp; done) | (simp; omega) | omega) _ | with_reducible refine bstep ?_ (by assumption))
  · have h' : ¬ n < 1 := by omega
    go_enter Try.func60, Try.ntmps60
    go_wp2
    refine bodyPost_ret (v := .tuple #[vecV [] 0, .bool false]) ?_ rfl ⟨rfl, ?_⟩
    · simp [results, Try.results60, go_sem, vecV, nth]
    · exact (by repeat' first | with_reducible exact Below.refl _ _ | with_reducible assumption | with_reducible refine below_drewN ?_ _ | with_reducible refine balloc ?_ _ | with_reducible refine Below.drew ?_ | with_reducible refine Below.setCell ?_ (by first | (simp; done) | (simp; omega) | omega) _ | with_reducible refine bstep ?_ (by assumption))

theorem cellF_step {w : World} {g n k : Nat} {xs : List Int} {t : TypeId} (h : w.rowIs g t 9 (cellF xs n k)) (hk : k < 8) :
    (w.setCell ⟨g, k, none⟩ (.int .i64 (nth xs k))).rowIs g t 9 (cellF xs n (k + 1)) := by
  refine (World.rowIs.set h k _).congr fun j hj => ?_
  unfold cellF
  by_cases e : j = k
  · subst e; simp
  · by_cases l : j < k
    · rw [if_neg e, if_pos l, if_pos (by omega)]
    · simp [e, l, show ¬ j < k + 1 by omega]

theorem start0 (w : World) (n : Int) (t : TypeId) : ((w.alloc (.cells #[.int .i64 0, .int .i64 0, .int .i64 0, .int .i64 0, .int .i64 0, .int .i64 0, .int .i64 0, .int .i64 0, .int .i64 0] t)).alloc (.cells #[.int .i64 0, .int .i64 0, .int .i64 0, .int .i64 0, .int .i64 0, .int .i64 0, .int .i64 0, .int .i64 0, .int .i64 n] t)).rowIs w.heap.size t 9 (fun _ => .int .i64 0) := by
  refine World.rowIs.alloc (World.rowIs_alloc w _ t _ ?_) _
  intro i hi
  have : i < 9 := hi
  rcases (show i = 0 ∨ i = 1 ∨ i = 2 ∨ i = 3 ∨ i = 4 ∨ i = 5 ∨ i = 6 ∨ i = 7 ∨ i = 8 by omega) with rfl | rfl | rfl | rfl | rfl | rfl | rfl | rfl | rfl <;> rfl

theorem start1 (w : World) (n : Nat) (o : Obj) (xs : List Int) (t : TypeId) : ((w.alloc o).alloc (.cells #[.int .i64 0, .int .i64 0, .int .i64 0, .int .i64 0, .int .i64 0, .int .i64 0, .int .i64 0, .int .i64 0, .int .i64 n] t)).rowIs (w.heap.size + 1) t 9 (cellF xs n 0) := by
  have := World.rowIs_alloc (w.alloc o) #[.int .i64 0, .int .i64 0, .int .i64 0, .int .i64 0, .int .i64 0, .int .i64 0, .int .i64 0, .int .i64 0, .int .i64 n] t (cellF xs n 0) ?_
  · rw [World.size_alloc] at this
    exact this
  · intro i hi
    have : i < 9 := hi
    rcases (show i = 0 ∨ i = 1 ∨ i = 2 ∨ i = 3 ∨ i = 4 ∨ i = 5 ∨ i = 6 ∨ i = 7 ∨ i = 8 by omega) with rfl | rfl | rfl | rfl | rfl | rfl | rfl | rfl | rfl <;> rfl

theorem nth_past {xs : List Int} {j : Nat} (h : xs.length ≤ j) : nth xs j = 0 := by simp [nth, h]

theorem cellF_end {xs : List Int} {n j : Nat} (hl : xs.length = n) (hj : j < 8) : cellF xs n n j = .int .i64 (nth xs j) := by
  unfold cellF
  by_cases h : j < n
  · rw [if_pos h]
  · rw [if_neg h, if_neg (by omega), nth_past (by omega)]

theorem cellF_n {xs : List Int} {n : Nat} (h : n ≤ 8) : cellF xs n n 8 = .int .i64 n := by
  unfold cellF
  rw [if_neg (by omega), if_pos rfl]

set_option maxHeartbeats 1000000 in
theorem vectorOf_no (b off n cap : Nat) (xs : List Int) (w : World) (hl : xs.length = n) (h1 : 1 ≤ n) (h8 : n ≤ 8) (hb : b < w.heap.size) (hc : ∀ i, i < n → w.cell? ⟨b, off + i, none⟩ = some (.int .i64 (nth xs i))) (hv : xs.all compB = false) :
    Calls Try.prog 60 #[.slice (some ⟨b, off, none⟩) n cap] w fun e w' => e = .returned (.tuple #[vecV [] 0, .bool false]) ∧ Below w.heap.size w w' := by
  go_enter Try.func60, Try.ntmps60
  go_wp2
  go_loopw [5, 6, 21] (fun s5 s6 i wr => ∃ k : Nat, k ≤ n ∧ i = .int .i64 k ∧ (∀ j, j < k → compB (nth xs j) = true) ∧ wr.rowIs w.heap.size 95 9 (fun _ => .int .i64 0) ∧ wr.rowIs (w.heap.size + 1) 95 9 (cellF xs n k) ∧ Below w.heap.size w wr) (fun _ _ i _ => n - (intOf i).toNat)
  case atStart => exact ⟨0, Nat.zero_le _, rfl, fun j h => absurd h (by omega), start0 _ _ _, start1 _ _ _ _ _, (by repeat' first | with_reducible exact Below.refl _ _ | with_reducible assumption | with_reducible refine below_drewN ?_ _ | with_reducible refine balloc ?_ _ | with_reducible refine Below.drew ?_ | with_reducible refine Below.setCell ?_ (by first | (simp; done) | (simp; omega) | omega) _ | with_reducible refine bstep ?_ (by assumption))⟩
  case round =>
    obtain ⟨k, hk, rfl, hpre, hr0, hr1, hbel⟩ := hrel
    have HP : Hid (∀ j, j < k → compB (nth xs j) = true) := hpre
    have HC : Hid (∀ i, i < n → w.cell? ⟨b, off + i, none⟩ = some (.int .i64 (nth xs i))) := hc
    have HB : Hid (Below w.heap.size w wr) := hbel
    by_cases hlt : k < n
    · have q1 : wr.cell? ⟨b, off + k, none⟩ = some (.int .i64 (nth xs k)) := (hbel.cell (p := ⟨b, off + k, none⟩) hb).trans (hc k hlt)
      cases he : compB (nth xs k)
      · have HE : Hid (compB (nth xs k) = false) := he
        have z0 := World.rowIs.cell hr0 (i := 0) (by omega)
        have y0 := World.rowIs.frozen hr0 0
        have z1 := World.rowIs.cell hr0 (i := 1) (by omega)
        have y1 := World.rowIs.frozen hr0 1
        have z2 := World.rowIs.cell hr0 (i := 2) (by omega)
        have y2 := World.rowIs.frozen hr0 2
        have z3 := World.rowIs.cell hr0 (i := 3) (by omega)
        have y3 := World.rowIs.frozen hr0 3
        have z4 := World.rowIs.cell hr0 (i := 4) (by omega)
        have y4 := World.rowIs.frozen hr0 4
        have z5 := World.rowIs.cell hr0 (i := 5) (by omega)
        have y5 := World.rowIs.frozen hr0 5
        have z6 := World.rowIs.cell hr0 (i := 6) (by omega)
        have y6 := World.rowIs.frozen hr0 6
        have z7 := World.rowIs.cell hr0 (i := 7) (by omega)
        have y7 := World.rowIs.frozen hr0 7
        have z8 := World.rowIs.cell hr0 (i := 8) (by omega)
        have y8 := World.rowIs.frozen hr0 8
        clear hr0 hr1 hpre hc hbel
        go_wp2_with (go_at_call 59; refine (compOk_any _ _).mono ?_; rintro e w' ⟨rfl, rfl⟩)
        have hB := HB.out
        refine bodyPost_ret (v := .tuple #[vecV [] 0, .bool false]) ?_ rfl ⟨rfl, ?_⟩
        · simp [results, Try.results60, go_sem, vecV, nth, z0, z1, z2, z3, z4, z5, z6, z7, z8]
        · exact (by repeat' first | with_reducible exact Below.refl _ _ | with_reducible assumption | with_reducible refine below_drewN ?_ _ | with_reducible refine balloc ?_ _ | with_reducible refine Below.drew ?_ | with_reducible refine Below.setCell ?_ (by first | (simp; done) | (simp; omega) | omega) _ | with_reducible refine bstep ?_ (by assumption))
      · have HE : Hid (compB (nth xs k) = true) := he
        have q2 := World.rowIs.cell hr1 (i := k) (by omega)
        have q3 := World.rowIs.frozen hr1 k
        have HS : Hid _ := cellF_step hr1 (by omega)
        have H0 : Hid (wr.rowIs w.heap.size 95 9 (fun _ => .int .i64 0)) := hr0
        clear hr0 hr1 hpre hc hbel
        go_wp2_with (go_at_call 59; refine (compOk_any _ _).mono ?_; rintro e w' ⟨rfl, rfl⟩)
        go_roundw
        case rel => exact ⟨k + 1, by omega, by go_num, fun j hj => (by rcases Nat.lt_succ_iff_lt_or_eq.1 hj with h | h; exact HP.out j h; rw [h]; exact HE.out), World.rowIs.setOther H0.out (by simp) _, HS.out, HB.out.setCell (by simp) _⟩
        case measure => simp [intOf]; omega
    · have : xs.all compB = true := all_nth fun j hj => hpre j (by omega)
      rw [this] at hv
      cases hv

set_option maxHeartbeats 1000000 in
theorem vectorOf_yes (b off n cap : Nat) (xs : List Int) (w : World) (hl : xs.length = n) (h1 : 1 ≤ n) (h8 : n ≤ 8) (hb : b < w.heap.size) (hc : ∀ i, i < n → w.cell? ⟨b, off + i, none⟩ = some (.int .i64 (nth xs i))) (hv : xs.all compB = true) :
    Calls Try.prog 60 #[.slice (some ⟨b, off, none⟩) n cap] w fun e w' => e = .returned (.tuple #[vecV xs n, .bool true]) ∧ Below w.heap.size w w' := by
  have hv' : ∀ k, k < n → compB (nth xs k) = true := fun k hk => by
    have := List.all_eq_true.1 hv (nth xs k) (by simp [nth, show k < xs.length by omega])
    exact this
  have HV : Hid (∀ k, k < n → compB (nth xs k) = true) := hv'
  clear hv hv'
  go_enter Try.func60, Try.ntmps60
  go_wp2
  go_loopw [5, 6, 21] (fun s5 s6 i wr => ∃ k : Nat, k ≤ n ∧ i = .int .i64 k ∧ (∀ j, j < k → compB (nth xs j) = true) ∧ wr.rowIs w.heap.size 95 9 (fun _ => .int .i64 0) ∧ wr.rowIs (w.heap.size + 1) 95 9 (cellF xs n k) ∧ Below w.heap.size w wr) (fun _ _ i _ => n - (intOf i).toNat)
  case atStart => exact ⟨0, Nat.zero_le _, rfl, fun j h => absurd h (by omega), start0 _ _ _, start1 _ _ _ _ _, (by repeat' first | with_reducible exact Below.refl _ _ | with_reducible assumption | with_reducible refine below_drewN ?_ _ | with_reducible refine balloc ?_ _ | with_reducible refine Below.drew ?_ | with_reducible refine Below.setCell ?_ (by first | (simp; done) | (simp; omega) | omega) _ | with_reducible refine bstep ?_ (by assumption))⟩
  case round =>
    obtain ⟨k, hk, rfl, hpre, hr0, hr1, hbel⟩ := hrel
    have HP : Hid (∀ j, j < k → compB (nth xs j) = true) := hpre
    have HC : Hid (∀ i, i < n → w.cell? ⟨b, off + i, none⟩ = some (.int .i64 (nth xs i))) := hc
    have HB : Hid (Below w.heap.size w wr) := hbel
    by_cases hlt : k < n
    · have q1 : wr.cell? ⟨b, off + k, none⟩ = some (.int .i64 (nth xs k)) := (hbel.cell (p := ⟨b, off + k, none⟩) hb).trans (hc k hlt)
      cases he : compB (nth xs k)
      · exact absurd (HV.out k hlt) (by rw [he]; simp)
      · have HE : Hid (compB (nth xs k) = true) := he
        have q2 := World.rowIs.cell hr1 (i := k) (by omega)
        have q3 := World.rowIs.frozen hr1 k
        have HS : Hid _ := cellF_step hr1 (by omega)
        have H0 : Hid (wr.rowIs w.heap.size 95 9 (fun _ => .int .i64 0)) := hr0
        clear hr0 hr1 hpre hc hbel
        go_wp2_with (go_at_call 59; refine (compOk_any _ _).mono ?_; rintro e w' ⟨rfl, rfl⟩)
        go_roundw
        case rel => exact ⟨k + 1, by omega, by go_num, fun j hj => (by rcases Nat.lt_succ_iff_lt_or_eq.1 hj with h | h; exact HP.out j h; rw [h]; exact HE.out), World.rowIs.setOther H0.out (by simp) _, HS.out, HB.out.setCell (by simp) _⟩
        case measure => simp [intOf]; omega
    · have hkn : k = n := by omega
      subst hkn
      have z0 := World.rowIs.cell hr0 (i := 0) (by omega)
      have y0 := World.rowIs.frozen hr0 0
      have z1 := World.rowIs.cell hr0 (i := 1) (by omega)
      have y1 := World.rowIs.frozen hr0 1
      have z2 := World.rowIs.cell hr0 (i := 2) (by omega)
      have y2 := World.rowIs.frozen hr0 2
      have z3 := World.rowIs.cell hr0 (i := 3) (by omega)
      have y3 := World.rowIs.frozen hr0 3
      have z4 := World.rowIs.cell hr0 (i := 4) (by omega)
      have y4 := World.rowIs.frozen hr0 4
      have z5 := World.rowIs.cell hr0 (i := 5) (by omega)
      have y5 := World.rowIs.frozen hr0 5
      have z6 := World.rowIs.cell hr0 (i := 6) (by omega)
      have y6 := World.rowIs.frozen hr0 6
      have z7 := World.rowIs.cell hr0 (i := 7) (by omega)
      have y7 := World.rowIs.frozen hr0 7
      have z8 := World.rowIs.cell hr0 (i := 8) (by omega)
      have y8 := World.rowIs.frozen hr0 8
      have v0 := World.rowIs.cell hr1 (i := 0) (by omega)
      have v1 := World.rowIs.cell hr1 (i := 1) (by omega)
      have v2 := World.rowIs.cell hr1 (i := 2) (by omega)
      have v3 := World.rowIs.cell hr1 (i := 3) (by omega)
      have v4 := World.rowIs.cell hr1 (i := 4) (by omega)
      have v5 := World.rowIs.cell hr1 (i := 5) (by omega)
      have v6 := World.rowIs.cell hr1 (i := 6) (by omega)
      have v7 := World.rowIs.cell hr1 (i := 7) (by omega)
      have v8 := World.rowIs.cell hr1 (i := 8) (by omega)
      rw [cellF_end hl (by omega)] at v0 v1 v2 v3 v4 v5 v6 v7
      rw [cellF_n h8] at v8
      clear hr0 hr1 hpre hc hbel
      go_wp2
      have hB := HB.out
      refine bodyPost_ret (v := .tuple #[vecV xs k, .bool true]) ?_ rfl ⟨rfl, ?_⟩
      · simp [results, Try.results60, go_sem, vecV, z0, z1, z2, z3, z4, z5, z6, z7, z8]
      · exact (by repeat' first | with_reducible exact Below.refl _ _ | with_reducible assumption | with_reducible refine below_drewN ?_ _ | with_reducible refine balloc ?_ _ | with_reducible refine Below.drew ?_ | with_reducible refine Below.setCell ?_ (by first | (simp; done) | (simp; omega) | omega) _ | with_reducible refine bstep ?_ (by assumption))

theorem vectorOf_any (a : Option Addr) (n cap : Nat) (xs : List Int) (w : World) (h : Row w a n xs) (hn : n ≤ 1048576) :
    Calls Try.prog 60 #[.slice a n cap] w fun e w' => e = .returned (.tuple #[if vecOkB xs then vecV xs n else vecV [] 0, .bool (vecOkB xs)]) ∧ Below w.heap.size w w' := by
  by_cases hlen : n < 1 ∨ 8 < n
  · have : vecOkB xs = false := by
      unfold vecOkB
      rw [h.len, decide_eq_false (by omega), Bool.false_and]
    rw [this]
    exact vectorOf_len a n cap w hlen hn
  · rcases h.lies with h0 | ⟨b, off, rfl, hb, hc⟩
    · omega
    · cases hv : xs.all compB
      · have : vecOkB xs = false := by unfold vecOkB; rw [hv, Bool.and_false]
        rw [this]
        exact vectorOf_no b off n cap xs w h.len (by omega) (by omega) hb hc hv
      · have : vecOkB xs = true := by
          unfold vecOkB
          rw [hv, h.len, decide_eq_true (by omega), Bool.and_true]
        rw [this]
        exact vectorOf_yes b off n cap xs w h.len (by omega) (by omega) hb hc hv

set_option maxHeartbeats 400000 in
theorem iVecOk_any (a : Option Addr) (n cap : Nat) (xs : List Int) (w : World) (h : Row w a n xs) (hn : n ≤ 1048576) :
    Calls Try.prog 49 #[.slice a n cap] w fun e w' => e = .returned (.bool (vecOkB xs)) ∧ Below w.heap.size w w' := by
  have H := vectorOf_any a n cap xs w h hn
  generalize hv : (if vecOkB xs = true then vecV xs n else vecV [] 0) = v at H
  obtain ⟨q0, q1, q2, q3, q4, q5, q6, q7, q8, rfl⟩ : ∃ q0 q1 q2 q3 q4 q5 q6 q7 q8 : Int, v = .agg #[.int .i64 q0, .int .i64 q1, .int .i64 q2, .int .i64 q3, .int .i64 q4, .int .i64 q5, .int .i64 q6, .int .i64 q7, .int .i64 q8] := by
    subst hv
    cases vecOkB xs
    · exact ⟨_, _, _, _, _, _, _, _, _, rfl⟩
    · exact ⟨_, _, _, _, _, _, _, _, _, rfl⟩
  have KH := hide H
  clear hv H h
  go_enter Try.func49, Try.ntmps49
  go_wp2_with (go_at_call 60; refine KH.out.mono ?_; rintro e w1 ⟨rfl, hb⟩)
  go_ret
  exact ⟨rfl, (by repeat' first | with_reducible exact Below.refl _ _ | with_reducible assumption | with_reducible refine below_drewN ?_ _ | with_reducible refine balloc ?_ _ | with_reducible refine Below.drew ?_ | with_reducible refine Below.setCell ?_ (by first | (simp; done) | (simp; omega) | omega) _ | with_reducible refine bstep ?_ (by assumption))⟩
end Go.Proofs.Ythiklcldbjmgfaa

/- Lists made by append: the values of a function, as cells that the call owns and as a row that is read. -/
namespace Go.Proofs.Ythiklcldbjmgfaa
open Go.RowKit
set_option maxRecDepth 8000
set_option linter.unusedSimpArgs false

/-- The first k values of f. -/
def vals (f : Nat → Int) (k : Nat) : List Value := (List.range k).map fun (j : Nat) => .int .i64 (f j)

theorem vals_succ (f : Nat → Int) (k : Nat) : vals f (k + 1) = vals f k ++ [.int .i64 (f k)] := by simp [vals, List.range_succ]

theorem vals_len (f : Nat → Int) (k : Nat) : (vals f k).length = k := by simp [vals]
def ints (f : Nat → Int) (k : Nat) : List Int := (List.range k).map f

theorem nth_ints (f : Nat → Int) (k j : Nat) (h : j < k) : nth (ints f k) j = f j := by simp [nth, ints, h]

theorem ints_len (f : Nat → Int) (k : Nat) : (ints f k).length = k := by simp [ints]

/-- What the call owns by append, as a row that is read. -/
theorem row_of_owns {w : World} {base : Nat} {v : Value} {n : Nat} {f : Nat → Int} (h : w.ownsRow base 2 1 v n (vals f n)) :
    ∃ a cap, v = .slice a n cap ∧ Row w a n (ints f n) ∧ ∀ b off, a = some ⟨b, off, none⟩ → base ≤ b := by
  have h0 := h
  rcases h.2 with ⟨rfl, rfl⟩ | ⟨g, cap, cur, rfl, hb, hg, hcap, _, hsz, htake⟩
  · exact ⟨none, 0, rfl, ⟨rfl, .inl rfl⟩, fun b off e => by cases e⟩
  · refine ⟨_, cap, rfl, ⟨ints_len f n, .inr ⟨g, 0, rfl, (Array.getElem?_eq_some_iff.1 hg).1, fun i hi => ?_⟩⟩, fun b off e => by cases e; exact hb⟩
    have hc := h0.cells (g := g) rfl i (.int .i64 (f i)) (by simp [vals, hi])
    rw [nth_ints f n i hi, Nat.zero_add]
    by_cases h00 : i = 0
    · subst h00; simpa [Addr.add] using hc
    · simpa [Addr.add, h00] using hc

theorem one_new (w : World) (v : Value) (t : TypeId) : ∀ (j : Nat) (u : Value), [v][j]? = some u → (w.alloc (.cells #[v] t)).cell? ((⟨w.heap.size, 0, none⟩ : Addr).add j) = some u := by
  intro j u hj
  match j, hj with
  | 0, hj => simp at hj; subst hj; simp [Addr.add]
  | j + 1, hj => simp at hj
/-- Behind an append of one element the old memory is as it was. -/
theorem below_app {w wr w2 : World} {o : Obj} {v : Value} {k : Nat} {e : TypeId} {size : Nat} {xs : List Value} (hb : Below w.heap.size w wr) (ho : wr.ownsRow w.heap.size e size v k xs) (hg : (wr.alloc o).grownBy w2 v.ownBlock) : Below w.heap.size w w2 :=
  (balloc hb o).grown hg (by have := hb.size; simp; omega) fun k' hk' => (ho.lt k' hk').1

end Go.Proofs.Ythiklcldbjmgfaa

/- Slices of int64 in memory: what a slice leads to ('Row'); contracts of the small functions of the laws over them: toInt64S, eqInt64S, markInt64S, heldInt64S. -/
namespace Go.Proofs.Ythiklcldbjmgfaa
open Go.RowKit
set_option maxRecDepth 8000

set_option maxHeartbeats 400000 in
theorem toInts_some (b off n cap : Nat) (xs : List Int) (w : World) (hl : xs.length = n) (hn : n ≤ 1048576) (hb : b < w.heap.size) (hc : ∀ i, i < n → w.cell? ⟨b, off + i, none⟩ = some (.int .i64 (nth xs i))) :
    Calls Try.prog 45 #[.slice (some ⟨b, off, none⟩) n cap] w fun e w' => ∃ g, e = .returned (.slice (some ⟨g, 0, none⟩) n n) ∧ w.heap.size ≤ g ∧ Own w' g xs ∧ Below w.heap.size w w' := by
  have hmk := run_make_row' (P := Try.prog) 35 2 (.int .i64 0) 8 Try.underlying35 Try.infoI64 rfl .i64 .i64 n (by omega) (by omega)
  go_enter Try.func45, Try.ntmps45
  go_wp2
  go_loopw [4] (fun i wr => ∃ k : Nat, k ≤ n ∧ i = .int .i64 k ∧ wr.rowIs w.heap.size 2 n (fun j => .int .i64 (if j < k then nth xs j else 0)) ∧ Below w.heap.size w wr) (fun i _ => n - (intOf i).toNat)
  case atStart =>
    exact ⟨0, Nat.zero_le _, rfl, (World.rowIs_made w (.int .i64 0) n 2).congr (fun j _ => by simp), (by repeat' first | with_reducible exact Below.refl _ _ | with_reducible assumption | with_reducible refine below_drewN ?_ _ | with_reducible refine balloc ?_ _ | with_reducible refine Below.drew ?_ | with_reducible refine Below.setCell ?_ (by first | (simp; done) | (simp; omega) | omega) _ | with_reducible refine bstep ?_ (by assumption))⟩
  case round =>
    obtain ⟨k, hk, rfl, hrow, hbel⟩ := hrel
    by_cases hlt : k < n
    · have h1 : wr.cell? ⟨b, off + k, none⟩ = some (.int .i64 (nth xs k)) := (hbel.cell (p := ⟨b, off + k, none⟩) hb).trans (hc k hlt)
      have h2 := World.rowIs.cell hrow hlt
      have h3 := World.rowIs.frozen hrow k
      have hs := copy_step hrow
      have HS : Hid _ := hs
      have HB : Hid (Below w.heap.size w wr) := hbel
      have HC : Hid (∀ i, i < n → w.cell? ⟨b, off + i, none⟩ = some (.int .i64 (nth xs i))) := hc
      clear hs hrow hbel hc
      go_wp2
      go_roundw
      case rel => exact ⟨k + 1, by omega, by go_num, HS.out, HB.out.setCell (Nat.le_refl _) _⟩
      case measure => simp [intOf]; omega
    · go_wp2
      go_ret
      refine ⟨_, rfl, Nat.le_refl _, ?_, hbel⟩
      unfold Own
      rw [hl]
      exact hrow.congr fun j hj => by rw [if_pos (by omega)]

set_option maxHeartbeats 400000 in
theorem toInts_none (a : Option Addr) (n cap : Nat) (w : World) (hn : n < 1) :
    Calls Try.prog 45 #[.slice a n cap] w fun e w' => ∃ g, e = .returned (.slice (some ⟨g, 0, none⟩) n n) ∧ w.heap.size ≤ g ∧ Own w' g [] ∧ Below w.heap.size w w' := by
  have hmk := run_make_row' (P := Try.prog) 35 2 (.int .i64 0) 8 Try.underlying35 Try.infoI64 rfl .i64 .i64 n (by omega) (by omega)
  go_enter Try.func45, Try.ntmps45
  go_wp2
  refine wp_loop_rounds 1 ?_
  rw [rounds_succ]
  go_wp2
  go_ret
  refine ⟨_, rfl, Nat.le_refl _, ?_, (by repeat' first | with_reducible exact Below.refl _ _ | with_reducible assumption | with_reducible refine below_drewN ?_ _ | with_reducible refine balloc ?_ _ | with_reducible refine Below.drew ?_ | with_reducible refine Below.setCell ?_ (by first | (simp; done) | (simp; omega) | omega) _ | with_reducible refine bstep ?_ (by assumption))⟩
  have h0 : n = 0 := by omega
  subst h0
  exact (World.rowIs_made w (.int .i64 0) 0 2).congr (fun j h => absurd h (by omega))

theorem toInts_any (a : Option Addr) (n cap : Nat) (xs : List Int) (w : World) (h : Row w a n xs) (hn : n ≤ 1048576) :
    Calls Try.prog 45 #[.slice a n cap] w fun e w' => ∃ g, e = .returned (.slice (some ⟨g, 0, none⟩) n n) ∧ w.heap.size ≤ g ∧ Own w' g xs ∧ Below w.heap.size w w' := by
  rcases h.lies with h0 | ⟨b, off, rfl, hb, hc⟩
  · have hx : xs = [] := List.eq_nil_of_length_eq_zero (h.len.trans h0)
    subst hx
    exact toInts_none a n cap w (by omega)
  · exact toInts_some b off n cap xs w h.len hn hb hc

set_option maxHeartbeats 400000 in
theorem eqInts_some (b off n cap b' off' cap' : Nat) (xs ys : List Int) (w : World) (hl : xs.length = n) (hl' : ys.length = n) (hn : n ≤ 1048576) (hb : b < w.heap.size) (hb' : b' < w.heap.size)
    (hc : ∀ i, i < n → w.cell? ⟨b, off + i, none⟩ = some (.int .i64 (nth xs i))) (hc' : ∀ i, i < n → w.cell? ⟨b', off' + i, none⟩ = some (.int .i64 (nth ys i))) :
    Calls Try.prog 54 #[.slice (some ⟨b, off, none⟩) n cap, .slice (some ⟨b', off', none⟩) n cap'] w fun e w' => e = .returned (.bool (decide (xs = ys))) ∧ Below w.heap.size w w' := by
  go_enter Try.func54, Try.ntmps54
  go_wp2
  go_loopw [5] (fun i wr => ∃ k : Nat, k ≤ n ∧ i = .int .i64 k ∧ (∀ j, j < k → nth xs j = nth ys j) ∧ Below w.heap.size w wr) (fun i _ => n - (intOf i).toNat)
  case atStart => exact ⟨0, Nat.zero_le _, rfl, fun j h => absurd h (by omega), (by repeat' first | with_reducible exact Below.refl _ _ | with_reducible assumption | with_reducible refine below_drewN ?_ _ | with_reducible refine balloc ?_ _ | with_reducible refine Below.drew ?_ | with_reducible refine Below.setCell ?_ (by first | (simp; done) | (simp; omega) | omega) _ | with_reducible refine bstep ?_ (by assumption))⟩
  case round =>
    obtain ⟨k, hk, rfl, hpre, hbel⟩ := hrel
    have HP : Hid (∀ j, j < k → nth xs j = nth ys j) := hpre
    have HC : Hid (∀ i, i < n → w.cell? ⟨b, off + i, none⟩ = some (.int .i64 (nth xs i))) := hc
    have HC' : Hid (∀ i, i < n → w.cell? ⟨b', off' + i, none⟩ = some (.int .i64 (nth ys i))) := hc'
    have HB : Hid (Below w.heap.size w wr) := hbel
    by_cases hlt : k < n
    · have h1 : wr.cell? ⟨b, off + k, none⟩ = some (.int .i64 (nth xs k)) := (hbel.cell (p := ⟨b, off + k, none⟩) hb).trans (hc k hlt)
      have h2 : wr.cell? ⟨b', off' + k, none⟩ = some (.int .i64 (nth ys k)) := (hbel.cell (p := ⟨b', off' + k, none⟩) hb').trans (hc' k hlt)
      have hlt' : (k : Int) < (n : Int) := by omega
      clear hpre hbel hc hc'
      by_cases he : nth xs k = nth ys k
      · have hne : (nth xs k != nth ys k) = false := by simp [he]
        have HE : Hid (nth xs k = nth ys k) := he
        clear he
        go_wp2
        go_quiet (fail)
        go_wp2
        go_roundw
        case rel => exact ⟨k + 1, by omega, by go_num, fun j hj => (by rcases Nat.lt_succ_iff_lt_or_eq.1 hj with h | h; exact HP.out j h; rw [h]; exact HE.out), (by have := HB.out; exact (by repeat' first | with_reducible exact Below.refl _ _ | with_reducible assumption | with_reducible refine below_drewN ?_ _ | with_reducible refine balloc ?_ _ | with_reducible refine Below.drew ?_ | with_reducible refine Below.setCell ?_ (by first | (simp; done) | (simp; omega) | omega) _ | with_reducible refine bstep ?_ (by assumption)))⟩
        case measure => simp [intOf]; omega
      · have hne : (nth xs k != nth ys k) = true := by simp [he]
        have HE : Hid (¬ nth xs k = nth ys k) := he
        clear he
        go_wp2
        go_quiet (fail)
        go_wp2
        go_ret
        exact ⟨by rw [show decide (xs = ys) = false from decide_eq_false fun e => HE.out (by rw [e])]; rfl, (by have := HB.out; exact (by repeat' first | with_reducible exact Below.refl _ _ | with_reducible assumption | with_reducible refine below_drewN ?_ _ | with_reducible refine balloc ?_ _ | with_reducible refine Below.drew ?_ | with_reducible refine Below.setCell ?_ (by first | (simp; done) | (simp; omega) | omega) _ | with_reducible refine bstep ?_ (by assumption)))⟩
    · clear hpre hbel hc hc'
      go_wp2
      go_ret
      exact ⟨by rw [show decide (xs = ys) = true from decide_eq_true (nth_ext (hl.trans hl'.symm) fun j hj => HP.out j (by omega))]; rfl, HB.out⟩

set_option maxHeartbeats 400000 in
theorem eqInts_len (a a' : Option Addr) (n cap n' cap' : Nat) (w : World) (h : ¬ n = n') :
    Calls Try.prog 54 #[.slice a n cap, .slice a' n' cap'] w fun e w' => e = .returned (.bool false) ∧ Below w.heap.size w w' := by
  have hne : ((n : Int) != (n' : Int)) = true := by rw [bne_iff_ne]; omega
  go_enter Try.func54, Try.ntmps54
  go_wp2
  go_ret
  exact ⟨rfl, (by repeat' first | with_reducible exact Below.refl _ _ | with_reducible assumption | with_reducible refine below_drewN ?_ _ | with_reducible refine balloc ?_ _ | with_reducible refine Below.drew ?_ | with_reducible refine Below.setCell ?_ (by first | (simp; done) | (simp; omega) | omega) _ | with_reducible refine bstep ?_ (by assumption))⟩

set_option maxHeartbeats 400000 in
theorem eqInts_none (a a' : Option Addr) (n cap cap' : Nat) (w : World) (hn : n < 1) :
    Calls Try.prog 54 #[.slice a n cap, .slice a' n cap'] w fun e w' => e = .returned (.bool true) ∧ Below w.heap.size w w' := by
  go_enter Try.func54, Try.ntmps54
  go_wp2
  refine wp_loop_rounds 1 ?_
  rw [rounds_succ]
  go_wp2
  go_ret
  exact ⟨rfl, (by repeat' first | with_reducible exact Below.refl _ _ | with_reducible assumption | with_reducible refine below_drewN ?_ _ | with_reducible refine balloc ?_ _ | with_reducible refine Below.drew ?_ | with_reducible refine Below.setCell ?_ (by first | (simp; done) | (simp; omega) | omega) _ | with_reducible refine bstep ?_ (by assumption))⟩

theorem eqInts_any (a a' : Option Addr) (n cap n' cap' : Nat) (xs ys : List Int) (w : World) (h : Row w a n xs) (h' : Row w a' n' ys) (hn : n ≤ 1048576) :
    Calls Try.prog 54 #[.slice a n cap, .slice a' n' cap'] w fun e w' => e = .returned (.bool (decide (xs = ys))) ∧ Below w.heap.size w w' := by
  by_cases e : n = n'
  · subst e
    rcases h.lies with h0 | ⟨b, off, rfl, hb, hc⟩
    · have hx : xs = [] := List.eq_nil_of_length_eq_zero (h.len.trans h0)
      have hy : ys = [] := List.eq_nil_of_length_eq_zero (h'.len.trans h0)
      subst hx hy
      simpa using eqInts_none a a' n cap cap' w (by omega)
    · rcases h'.lies with h0 | ⟨b', off', rfl, hb', hc'⟩
      · have hx : xs = [] := List.eq_nil_of_length_eq_zero (h.len.trans h0)
        have hy : ys = [] := List.eq_nil_of_length_eq_zero (h'.len.trans h0)
        subst hx hy
        simpa using eqInts_none (some ⟨b, off, none⟩) a' n cap cap' w (by omega)
      · exact eqInts_some b off n cap b' off' cap' xs ys w h.len h'.len hn hb hb' hc hc'
  · have : decide (xs = ys) = false := decide_eq_false fun q => e (by rw [← h.len, ← h'.len, q])
    rw [this]
    exact eqInts_len a a' n cap n' cap' w e









end Go.Proofs.Ythiklcldbjmgfaa

/- szInt64S of the laws. -/
namespace Go.Proofs.Ythiklcldbjmgfaa
open Go.RowKit
set_option maxRecDepth 8000
set_option linter.unusedSimpArgs false

def szN (left : Int) (n : Nat) : Int := if left - (n : Int) < 0 then -1 else left - (n : Int)

set_option maxHeartbeats 400000 in
theorem szInts_any (a : Option Addr) (n cap : Nat) (left : Int) (w : World) (h0 : 0 ≤ left) (h1 : left ≤ 1048576) (hn : n ≤ 9223372036854775807) :
    Calls Try.prog 37 #[.slice a n cap, .int .i64 left] w fun e w' => e = .returned (.int .i64 (szN left n)) ∧ w' = w := by
  unfold szN
  by_cases h : left - (n : Int) < 0
  · rw [if_pos h]
    go_enter Try.func37, Try.ntmps37
    go_wp2
    go_ret
    exact ⟨rfl, rfl⟩
  · rw [if_neg h]
    go_enter Try.func37, Try.ntmps37
    go_wp2
    go_ret
    exact ⟨rfl, rfl⟩
end Go.Proofs.Ythiklcldbjmgfaa
