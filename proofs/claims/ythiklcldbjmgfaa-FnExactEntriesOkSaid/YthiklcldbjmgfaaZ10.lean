/- Bounds of the model: the ends. -/
import Derived.Test.YthiklcldbjmgfaaZ9
import Derived.Deep.DeepCutAuto
import Derived.Test.YthiklcldbjmgfaaZ1
import Derived.Deep.RegionHeld3
import Derived.Deep.Slices
import Derived.Test.YthiklcldbjmgfaaZ2
import Derived.Test.YthiklcldbjmgfaaZ6
import Derived.Test.YthiklcldbjmgfaaZ5
namespace Go.Proofs.Ythiklcldbjmgfaa
open Go.RowKit
set_option maxRecDepth 8000
set_option linter.unusedSimpArgs false
set_option linter.unusedVariables false

end Go.Proofs.Ythiklcldbjmgfaa
/- Bounds of the model: LowOf, HighOf, BoxHas. -/
namespace Go.Proofs.Ythiklcldbjmgfaa
open Go.RowKit
set_option maxRecDepth 8000
set_option linter.unusedSimpArgs false
set_option linter.unusedVariables false







def hasN (n : Nat) (f g : Nat → Int) (xs : List Int) : Bool := allN n (fun i => hasB (f i) (g i) (nth xs i))

theorem sumSq_zero (d : Nat → Int) (n : Nat) (h0 : ∀ i, i < n → 0 ≤ d i ∧ d i ≤ 4194304) : sumSq d n = 0 ↔ ∀ i, i < n → d i = 0 := by
  induction n with
  | zero => simp [sumSq]
  | succ n ih =>
    have ih := ih (fun i hi => h0 i (by omega))
    have b := (sumSq_bounds d n (fun i hi => h0 i (by omega)) n (Nat.le_refl _)).1
    have q := (sq_bounds (h0 n (by omega)).1 (h0 n (by omega)).2).1
    simp only [sumSq]
    constructor
    · intro hs
      have e1 : sumSq d n = 0 := by omega
      have e2 : d n * d n = 0 := by omega
      intro i hi
      rcases Nat.lt_succ_iff_lt_or_eq.1 hi with h | h
      · exact ih.1 e1 i h
      · subst h; exact (Int.mul_eq_zero.1 e2).elim id id
    · intro hs
      rw [ih.2 (fun i hi => hs i (by omega)), hs n (by omega)]; rfl

theorem allN_congr {n : Nat} {p q : Nat → Bool} (h : ∀ i, i < n → p i = q i) : allN n p = allN n q := by
  unfold allN
  rw [Bool.eq_iff_iff]
  simp only [List.all_eq_true, List.mem_range]
  exact ⟨fun k i hi => by rw [← h i hi]; exact k i hi, fun k i hi => by rw [h i hi]; exact k i hi⟩

/-- What is at no distance from a box is what it has. -/
theorem least_zero {n : Nat} {f g : Nat → Int} {m : Nat} {xs : List Int} (hm : xs.length = m) (h : formB n f g m xs = true) : (leastN n f g xs == 0) = hasN n f g xs := by
  simp only [formB, Bool.and_eq_true, decide_eq_true_eq] at h
  obtain ⟨⟨h1, h2⟩, rfl⟩ := h
  have hb : ∀ i, i < n → 0 ≤ leastV (f i) (g i) (nth xs i) ∧ leastV (f i) (g i) (nth xs i) ≤ 4194304 := fun i hi => least_bounds (boxB_at' h1 hi) (vecOkB_at h2 (by omega))
  have key := sumSq_zero (fun i => leastV (f i) (g i) (nth xs i)) n hb
  rw [Bool.eq_iff_iff, beq_iff_eq]
  unfold leastN
  rw [key]
  constructor
  · intro q
    refine allN_yes fun i hi => ?_
    have := q i hi
    simp only [hasB, boxB_at' h1 hi, Bool.true_and, inB, decide_eq_true_eq]
    unfold leastV at this
    omega
  · intro q i hi
    have := allN_at q hi
    simp only [hasB, boxB_at' h1 hi, Bool.true_and, inB, decide_eq_true_eq] at this
    unfold leastV
    omega

def boxHasB (n : Nat) (f g : Nat → Int) (m : Nat) (xs : List Int) : Bool := formB n f g m xs && hasN n f g xs





end Go.Proofs.Ythiklcldbjmgfaa
/- Rows of ranges of the call's own; contracts of the laws' small functions over them: szRangeS, toRangeS, eqRangeS. -/
namespace Go.Proofs.Ythiklcldbjmgfaa
open Go.RowKit
set_option maxRecDepth 8000
set_option linter.unusedSimpArgs false
set_option linter.unusedVariables false

theorem Try.infoRange : (Try.prog.info? 48).map (fun i => (i.zero, i.size, i.bytes)) = some (some (.agg #[.int .i64 0, .int .i64 0]), 2, 16) := by kernel_rfl

/-- A row of ranges of the call's own, that may be written. -/
def OwnP (w : World) (b n : Nat) (f g : Nat → Int) : Prop := w.rowIs b 48 (n * 2) (pcell f g)

theorem OwnP.lt {w : World} {b n : Nat} {f g : Nat → Int} (h : OwnP w b n f g) : b < w.heap.size := World.rowIs.lt h

theorem OwnP.c0 {w : World} {b n : Nat} {f g : Nat → Int} (h : OwnP w b n f g) {i : Nat} (hi : i < n) : w.cell? ⟨b, i * 2, none⟩ = some (.int .i64 (f i)) := by
  rw [World.rowIs.cell h (show i * 2 < n * 2 by omega), pcell_lo]

theorem OwnP.c1 {w : World} {b n : Nat} {f g : Nat → Int} (h : OwnP w b n f g) {i : Nat} (hi : i < n) : w.cell? ⟨b, i * 2 + 1, none⟩ = some (.int .i64 (g i)) := by
  rw [World.rowIs.cell h (show i * 2 + 1 < n * 2 by omega), pcell_hi]

theorem OwnP.prow {w : World} {b n : Nat} {f g : Nat → Int} (h : OwnP w b n f g) : PRow w (some ⟨b, 0, none⟩) n f g :=
  ⟨.inr ⟨b, 0, rfl, h.lt, fun i hi => by rw [Nat.zero_add]; exact ⟨h.c0 hi, h.c1 hi⟩⟩⟩

theorem OwnP.below {w w' : World} {b n : Nat} {f g : Nat → Int} (h : OwnP w b n f g) (hb : Below w.heap.size w w') : OwnP w' b n f g := World.rowIs.of_block h (hb.block b (World.rowIs.lt h))

theorem OwnP.congr {w : World} {b n : Nat} {f g f' g' : Nat → Int} (h : OwnP w b n f g) (hf : ∀ i, i < n → f i = f' i) (hg : ∀ i, i < n → g i = g' i) : OwnP w b n f' g' := by
  refine World.rowIs.congr h fun j hj => ?_
  unfold pcell
  rw [hf (j / 2) (by omega), hg (j / 2) (by omega)]

theorem OwnP.made (w : World) (n : Nat) : OwnP (w.alloc (.cells (madeCells #[.int .i64 0, .int .i64 0] (n * 2)) 48)) w.heap.size n (fun _ => 0) (fun _ => 0) := by
  refine ⟨_, Go.Deep.blk_alloc_new _ _, size_madeCells _ _, fun i hi => ?_⟩
  rcases (show i % 2 = 0 ∨ i % 2 = 1 by omega) with h | h <;> simp [madeCells, hi, h, pcell]

theorem OwnP.set {w : World} {b n : Nat} {f g : Nat → Int} (h : OwnP w b n f g) (k : Nat) (x y : Int) :
    OwnP ((w.setCell ⟨b, k * 2, none⟩ (.int .i64 x)).setCell ⟨b, k * 2 + 1, none⟩ (.int .i64 y)) b n (fun i => if i = k then x else f i) (fun i => if i = k then y else g i) := by
  refine (World.rowIs.set (World.rowIs.set h (k * 2) _) (k * 2 + 1) _).congr fun j hj => ?_
  unfold pcell
  dsimp only
  rcases (show j % 2 = 0 ∨ j % 2 = 1 by omega) with h | h
  · rw [if_neg (show ¬ j = k * 2 + 1 by omega)]
    by_cases e : j = k * 2
    · rw [if_pos e, if_pos h, if_pos (show j / 2 = k by omega)]
    · rw [if_neg e, if_pos h, if_pos h, if_neg (show ¬ j / 2 = k by omega)]
  · by_cases e : j = k * 2 + 1
    · rw [if_pos e, if_neg (by omega), if_pos (show j / 2 = k by omega)]
    · rw [if_neg e, if_neg (by omega), if_neg (by omega), if_neg (by omega), if_neg (show ¬ j / 2 = k by omega)]

theorem OwnP.step {w : World} {b n k : Nat} {f g : Nat → Int} (h : OwnP w b n (upTo k f) (upTo k g)) :
    OwnP ((w.setCell ⟨b, k * 2, none⟩ (.int .i64 (f k))).setCell ⟨b, k * 2 + 1, none⟩ (.int .i64 (g k))) b n (upTo (k + 1) f) (upTo (k + 1) g) := by
  refine (h.set k (f k) (g k)).congr (fun i _ => ?_) (fun i _ => ?_)
  all_goals
    unfold upTo
    by_cases e : i = k
    · subst e; simp
    · by_cases l : i < k
      · simp [e, l, show i < k + 1 by omega]
      · simp [e, l, show ¬ i < k + 1 by omega]

set_option maxHeartbeats 400000 in
theorem szRangeS_any (a : Option Addr) (n cap : Nat) (left : Int) (w : World) (h0 : 0 ≤ left) (h1 : left ≤ 1048576) (hn : n ≤ 9223372036854775807) :
    Calls Try.prog 4 #[.slice a n cap, .int .i64 left] w fun e w' => e = .returned (.int .i64 (if left - (n : Int) < 0 then -1 else left - (n : Int))) ∧ w' = w := by
  by_cases h : left - (n : Int) < 0
  · rw [if_pos h]
    go_enter Try.func4, Try.ntmps4
    go_wp2
    go_ret
    exact ⟨rfl, rfl⟩
  · rw [if_neg h]
    go_enter Try.func4, Try.ntmps4
    go_wp2
    go_ret
    exact ⟨rfl, rfl⟩

def ToRs (w : World) (n : Nat) (f g : Nat → Int) (e : Ending) (w' : World) : Prop :=
  ∃ b, e = .returned (.slice (some ⟨b, 0, none⟩) n n) ∧ w.heap.size ≤ b ∧ OwnP w' b n f g ∧ Below w.heap.size w w'

set_option maxHeartbeats 800000 in
theorem toRangeS_some (b off n cap : Nat) (f g : Nat → Int) (w : World) (hn : n ≤ 1048576) (hb : b < w.heap.size) (hc : ∀ i, i < n → w.cell? ⟨b, off + i * 2, none⟩ = some (.int .i64 (f i)) ∧ w.cell? ⟨b, off + i * 2 + 1, none⟩ = some (.int .i64 (g i))) :
    Calls Try.prog 7 #[.slice (some ⟨b, off, none⟩) n cap] w fun e w' => ToRs w n f g e w' := by
  have hmk := run_make_pairs (P := Try.prog) 27 48 (.int .i64 0) (.int .i64 0) 16 Try.underlying27 Try.infoRange .i64 .i64 n (by omega) (by omega)
  go_enter Try.func7, Try.ntmps7
  go_wp2
  go_loopw [4] (fun i wr => ∃ k : Nat, k ≤ n ∧ i = .int .i64 k ∧ OwnP wr w.heap.size n (upTo k f) (upTo k g) ∧ Below w.heap.size w wr) (fun i _ => n - (intOf i).toNat)
  case atStart =>
    exact ⟨0, Nat.zero_le _, rfl, (OwnP.made w n).congr (fun j _ => by simp [upTo]) (fun j _ => by simp [upTo]), (by repeat' first | with_reducible exact Below.refl _ _ | with_reducible assumption | with_reducible refine below_drewN ?_ _ | with_reducible refine balloc ?_ _ | with_reducible refine Below.drew ?_ | with_reducible refine Below.setCell ?_ (by first | (simp; done) | (simp; omega) | omega) _ | with_reducible refine bstep ?_ (by assumption))⟩
  case round =>
    obtain ⟨k, hk, rfl, hrow, hbel⟩ := hrel
    by_cases hlt : k < n
    · have z1 : wr.cell? ⟨b, off + k * 2, none⟩ = some (.int .i64 (f k)) := (hbel.cell (p := ⟨b, off + k * 2, none⟩) hb).trans (hc k hlt).1
      have z2 : wr.cell? ⟨b, off + k * 2 + 1, none⟩ = some (.int .i64 (g k)) := (hbel.cell (p := ⟨b, off + k * 2 + 1, none⟩) hb).trans (hc k hlt).2
      have R := hide (toRange_any (f k) (g k))
      have HR := hide hrow
      have HB := hide hbel
      have HC := hide hc
      clear hrow hbel hc
      go_wp2_with fail
      refine (R.out _).mono ?_
      rintro e wn ⟨rfl, hbn⟩
      have HR := hide (HR.out.below hbn)
      have y0 := HR.out.c0 hlt
      have y1 := HR.out.c1 hlt
      have y2 := World.rowIs.frozen HR.out (k * 2)
      have y3 := World.rowIs.frozen HR.out (k * 2 + 1)
      go_wp2_with fail
      go_roundw
      case rel =>
        have hbel := HB.out
        exact ⟨k + 1, by omega, by go_num, HR.out.step, (by repeat' first | with_reducible exact Below.refl _ _ | with_reducible assumption | with_reducible refine below_drewN ?_ _ | with_reducible refine balloc ?_ _ | with_reducible refine Below.drew ?_ | with_reducible refine Below.setCell ?_ (by first | (simp; done) | (simp; omega) | omega) _ | with_reducible refine bstep ?_ (by assumption))⟩
      case measure => simp [intOf]; omega
    · go_wp2
      go_ret
      exact ⟨_, rfl, Nat.le_refl _, hrow.congr (fun j hj => by rw [upTo, if_pos (by omega)]) (fun j hj => by rw [upTo, if_pos (by omega)]), hbel⟩

set_option maxHeartbeats 400000 in
theorem toRangeS_none (a : Option Addr) (n cap : Nat) (f g : Nat → Int) (w : World) (hn : n < 1) :
    Calls Try.prog 7 #[.slice a n cap] w fun e w' => ToRs w n f g e w' := by
  have hmk := run_make_pairs (P := Try.prog) 27 48 (.int .i64 0) (.int .i64 0) 16 Try.underlying27 Try.infoRange .i64 .i64 n (by omega) (by omega)
  go_enter Try.func7, Try.ntmps7
  go_wp2
  refine wp_loop_rounds 1 ?_
  rw [rounds_succ]
  go_wp2
  go_ret
  exact ⟨_, rfl, Nat.le_refl _, (OwnP.made w n).congr (fun j hj => absurd hj (by omega)) (fun j hj => absurd hj (by omega)), (by repeat' first | with_reducible exact Below.refl _ _ | with_reducible assumption | with_reducible refine below_drewN ?_ _ | with_reducible refine balloc ?_ _ | with_reducible refine Below.drew ?_ | with_reducible refine Below.setCell ?_ (by first | (simp; done) | (simp; omega) | omega) _ | with_reducible refine bstep ?_ (by assumption))⟩

theorem toRangeS_any (a : Option Addr) (n cap : Nat) (f g : Nat → Int) (w : World) (h : PRow w a n f g) (hn : n ≤ 1048576) :
    Calls Try.prog 7 #[.slice a n cap] w fun e w' => ToRs w n f g e w' := by
  rcases h.lies with h0 | ⟨b, off, rfl, lt, hc⟩
  · exact toRangeS_none a n cap f g w (by omega)
  · exact toRangeS_some b off n cap f g w hn lt hc
end Go.Proofs.Ythiklcldbjmgfaa

/- BoxLeq of the program and of the model. -/
namespace Go.Proofs.Ythiklcldbjmgfaa
open Go.RowKit
set_option maxRecDepth 8000
set_option linter.unusedSimpArgs false
set_option linter.unusedVariables false

def alikeB (n : Nat) (f g : Nat → Int) (n' : Nat) (f' g' : Nat → Int) : Bool := boxB n f g && boxB n' f' g' && decide (n = n')
def leqN (n : Nat) (f g f' g' : Nat → Int) : Bool := allN n (fun i => leqB (f i) (g i) (f' i) (g' i))

theorem boxB_num {n : Nat} {f g : Nat → Int} (h : boxB n f g = true) : 1 ≤ n ∧ n ≤ 8 := by
  simp only [boxB, Bool.and_eq_true, decide_eq_true_eq] at h; exact h.1

theorem boxB_at {n k : Nat} {f g : Nat → Int} (h : boxB n f g = true) (hk : k < n) : rightB (f k) (g k) = true := by
  simp only [boxB, Bool.and_eq_true] at h; exact allN_at h.2 hk

set_option maxHeartbeats 800000 in
theorem boxesAlike_any (a a' : Option Addr) (n cap n' cap' : Nat) (f g f' g' : Nat → Int) (w : World) (h : PRow w a n f g) (h' : PRow w a' n' f' g') :
    Calls Try.prog 17 #[.slice a n cap, .slice a' n' cap'] w fun e w' => e = .returned (.bool (alikeB n f g n' f' g')) ∧ Below w.heap.size w w' := by
  have A := hide (iBoxOk_any a n cap f g w h)
  have B := hide (fun w1 (hb : Below w.heap.size w w1) => iBoxOk_any a' n' cap' f' g' w1 (h'.below hb))
  clear h h'
  unfold alikeB
  cases h1 : boxB n f g
  · rw [h1] at A
    simp only [Bool.and_true, Bool.and_false, Bool.true_and, Bool.false_and]
    go_enter Try.func17, Try.ntmps17
    go_wp2_with fail
    refine A.out.mono ?_
    rintro e w1 ⟨rfl, hb1⟩
    go_wp2_with fail
    go_ret
    exact ⟨rfl, (by repeat' first | with_reducible exact Below.refl _ _ | with_reducible assumption | with_reducible refine below_drewN ?_ _ | with_reducible refine balloc ?_ _ | with_reducible refine Below.drew ?_ | with_reducible refine Below.setCell ?_ (by first | (simp; done) | (simp; omega) | omega) _ | with_reducible refine bstep ?_ (by assumption))⟩
  · rw [h1] at A
    cases h2 : boxB n' f' g'
    · rw [h2] at B
      simp only [Bool.and_true, Bool.and_false, Bool.true_and, Bool.false_and]
      go_enter Try.func17, Try.ntmps17
      go_wp2_with fail
      refine A.out.mono ?_
      rintro e w1 ⟨rfl, hb1⟩
      go_wp2_with fail
      refine (B.out _ hb1).mono ?_
      rintro e w2 ⟨rfl, hb2⟩
      go_wp2_with fail
      go_ret
      exact ⟨rfl, (by repeat' first | with_reducible exact Below.refl _ _ | with_reducible assumption | with_reducible refine below_drewN ?_ _ | with_reducible refine balloc ?_ _ | with_reducible refine Below.drew ?_ | with_reducible refine Below.setCell ?_ (by first | (simp; done) | (simp; omega) | omega) _ | with_reducible refine bstep ?_ (by assumption))⟩
    · rw [h2] at B
      by_cases he : n = n'
      · subst he
        have he' : ((n : Int) == (n : Int)) = true := by simp
        rw [decide_eq_true rfl]
        simp only [Bool.and_true, Bool.and_false, Bool.true_and, Bool.false_and]
        go_enter Try.func17, Try.ntmps17
        go_wp2_with fail
        refine A.out.mono ?_
        rintro e w1 ⟨rfl, hb1⟩
        go_wp2_with fail
        refine (B.out _ hb1).mono ?_
        rintro e w2 ⟨rfl, hb2⟩
        go_wp2_with fail
        go_ret
        exact ⟨rfl, (by repeat' first | with_reducible exact Below.refl _ _ | with_reducible assumption | with_reducible refine below_drewN ?_ _ | with_reducible refine balloc ?_ _ | with_reducible refine Below.drew ?_ | with_reducible refine Below.setCell ?_ (by first | (simp; done) | (simp; omega) | omega) _ | with_reducible refine bstep ?_ (by assumption))⟩
      · have he' : ((n : Int) == (n' : Int)) = false := by simp; omega
        rw [decide_eq_false he]
        simp only [Bool.and_true, Bool.and_false, Bool.true_and, Bool.false_and]
        go_enter Try.func17, Try.ntmps17
        go_wp2_with fail
        refine A.out.mono ?_
        rintro e w1 ⟨rfl, hb1⟩
        go_wp2_with fail
        refine (B.out _ hb1).mono ?_
        rintro e w2 ⟨rfl, hb2⟩
        go_wp2_with fail
        go_ret
        exact ⟨rfl, (by repeat' first | with_reducible exact Below.refl _ _ | with_reducible assumption | with_reducible refine below_drewN ?_ _ | with_reducible refine balloc ?_ _ | with_reducible refine Below.drew ?_ | with_reducible refine Below.setCell ?_ (by first | (simp; done) | (simp; omega) | omega) _ | with_reducible refine bstep ?_ (by assumption))⟩



def boxLeqB (n : Nat) (f g : Nat → Int) (n' : Nat) (f' g' : Nat → Int) : Bool := alikeB n f g n' f' g' && leqN n f g f' g'

end Go.Proofs.Ythiklcldbjmgfaa
/- Items in memory: slices of structs of two numbers and a slice of numbers (three cells each). What such a slice leads to; one that the call owns; worlds that part between two blocks alone. -/
namespace Go.Proofs.Ythiklcldbjmgfaa
open Go.RowKit
set_option maxRecDepth 8000
set_option linter.unusedSimpArgs false
set_option linter.unusedVariables false

/-- An item: an id, tags, a vector. -/
structure It where
  id : Int
  tags : Int
  vec : List Int
abbrev IL := Nat → It
def IL.put (L : IL) (k : Nat) (x : It) : IL := fun i => if i = k then x else L i

theorem IL.put_at (L : IL) (k : Nat) (x : It) : L.put k x k = x := by simp [IL.put]

theorem IL.put_off (L : IL) {k i : Nat} (x : It) (h : i ≠ k) : L.put k x i = L i := by simp [IL.put, h]

/-- At b, o lies the item x. -/
structure IAt (w : World) (b o : Nat) (x : It) : Prop where
  c0 : w.cell? ⟨b, o, none⟩ = some (.int .i64 x.id)
  c1 : w.cell? ⟨b, o + 1, none⟩ = some (.int .i64 x.tags)
  vec : ∃ a n c, w.cell? ⟨b, o + 2, none⟩ = some (.slice a n c) ∧ Row w a n x.vec

theorem IAt.below {w w' : World} {b o : Nat} {x : It} (h : IAt w b o x) (lt : b < w.heap.size) (hb : Below w.heap.size w w') : IAt w' b o x := by
  obtain ⟨a, n, c, hc, hr⟩ := h.vec
  exact ⟨(hb.cell (p := ⟨b, o, none⟩) lt).trans h.c0, (hb.cell (p := ⟨b, o + 1, none⟩) lt).trans h.c1, a, n, c, (hb.cell (p := ⟨b, o + 2, none⟩) lt).trans hc, hr.below hb⟩

/-- A slice of n items that begins at a leads to the items L. -/
structure IRow (w : World) (a : Option Addr) (n : Nat) (L : IL) : Prop where
  lies : n = 0 ∨ ∃ b off, a = some ⟨b, off, none⟩ ∧ b < w.heap.size ∧ ∀ i, i < n → IAt w b (off + i * 3) (L i)

theorem IRow.below {w w' : World} {a : Option Addr} {n : Nat} {L : IL} (h : IRow w a n L) (hb : Below w.heap.size w w') : IRow w' a n L := by
  rcases h.lies with h0 | ⟨b, off, e, lt, hc⟩
  · exact ⟨.inl h0⟩
  · exact ⟨.inr ⟨b, off, e, Nat.lt_of_lt_of_le lt hb.size, fun i hi => (hc i hi).below lt hb⟩⟩

theorem IRow.congr {w : World} {a : Option Addr} {n : Nat} {L M : IL} (h : IRow w a n L) (e : ∀ i, i < n → L i = M i) : IRow w a n M := by
  rcases h.lies with h0 | ⟨b, off, e', lt, hc⟩
  · exact ⟨.inl h0⟩
  · exact ⟨.inr ⟨b, off, e', lt, fun i hi => e i hi ▸ hc i hi⟩⟩

/-- A block whose first m cells are f 0, f 1, .., and may be written. -/
def Arr (w : World) (g m : Nat) (f : Nat → Value) : Prop :=
  ∃ (c : Array Value) (t : TypeId), w.heap[g]? = some (.cells c t (0, 0)) ∧ m ≤ c.size ∧ ∀ j, j < m → c[j]? = some (f j)

theorem Arr.lt {w : World} {g m : Nat} {f : Nat → Value} (h : Arr w g m f) : g < w.heap.size := by
  obtain ⟨c, t, hc, _⟩ := h
  exact (Array.getElem?_eq_some_iff.1 hc).1

theorem Arr.cell {w : World} {g m : Nat} {f : Nat → Value} (h : Arr w g m f) {j : Nat} (hj : j < m) : w.cell? ⟨g, j, none⟩ = some (f j) := by
  obtain ⟨c, t, hc, _, hv⟩ := h
  simp [World.cell?, hc, hv j hj]

theorem Arr.froz {w : World} {g m : Nat} {f : Nat → Value} (h : Arr w g m f) (o : Nat) : w.frozen? ⟨g, o, none⟩ = false := by
  obtain ⟨c, t, hc, _⟩ := h
  simp [World.frozen?, hc]

theorem Arr.block {w w' : World} {g m : Nat} {f : Nat → Value} (h : Arr w g m f) (hb : w'.heap[g]? = w.heap[g]?) : Arr w' g m f := by
  obtain ⟨c, t, hc, hr⟩ := h
  exact ⟨c, t, hb.trans hc, hr⟩

theorem Arr.below {w w' : World} {g m : Nat} {f : Nat → Value} (h : Arr w g m f) (hb : Below w.heap.size w w') : Arr w' g m f := h.block (hb.block g h.lt)

theorem Arr.but {x : Nat} {w w' : World} {g m : Nat} {f : Nat → Value} (h : Arr w g m f) (hb : But x w w') (hne : g ≠ x) : Arr w' g m f := h.block (hb.block g h.lt hne)

theorem Arr.away {w : World} {g m : Nat} {f : Nat → Value} (h : Arr w g m f) (p : Addr) (v : Value) (hp : g ≠ p.block) : Arr (w.setCell p v) g m f := h.block (Below.heap_setCell w p v g hp)

theorem Arr.congr {w : World} {g m : Nat} {f f' : Nat → Value} (h : Arr w g m f) (e : ∀ j, j < m → f j = f' j) : Arr w g m f' := by
  obtain ⟨c, t, hc, hs, hv⟩ := h
  exact ⟨c, t, hc, hs, fun j hj => e j hj ▸ hv j hj⟩

theorem Arr.less {w : World} {g m k : Nat} {f : Nat → Value} (h : Arr w g m f) (hk : k ≤ m) : Arr w g k f := by
  obtain ⟨c, t, hc, hs, hv⟩ := h
  exact ⟨c, t, hc, by omega, fun j hj => hv j (by omega)⟩

theorem heapSet {w : World} {b o : Nat} {c : Array Value} {t : TypeId} {v : Value} (h : w.heap[b]? = some (.cells c t (0, 0))) : (w.setCell ⟨b, o, none⟩ v).heap[b]? = some (.cells (c.setIfInBounds o v) t (0, 0)) := by
  have hlt := (Array.getElem?_eq_some_iff.1 h).1
  simp [World.setCell, h, hlt, Array.getElem_modify, (Array.getElem?_eq_some_iff.1 h).2]

theorem Arr.set {w : World} {g m : Nat} {f : Nat → Value} (h : Arr w g m f) (k : Nat) (v : Value) : Arr (w.setCell ⟨g, k, none⟩ v) g m (fun j => if j = k then v else f j) := by
  obtain ⟨c, t, hc, hs, hv⟩ := h
  refine ⟨_, t, heapSet hc, by simpa using hs, fun j hj => ?_⟩
  by_cases e : j = k
  · subst e
    simp [Array.getElem?_setIfInBounds, show j < c.size by omega]
  · simp [Array.getElem?_setIfInBounds, e, show ¬ k = j by omega, hv j hj]

theorem Arr.ofRow {w : World} {g n : Nat} {t : TypeId} {f : Nat → Value} (h : w.rowIs g t n f) : Arr w g n f := by
  obtain ⟨c, hc, hs, hv⟩ := h
  exact ⟨c, t, hc, by omega, hv⟩
def intF (xs : List Int) : Nat → Value := fun j => .int .i64 (nth xs j)

theorem Own.arr {w : World} {g : Nat} {xs : List Int} (h : Own w g xs) : Arr w g xs.length (intF xs) := Arr.ofRow h

theorem Arr.row {w : World} {g : Nat} {xs : List Int} (h : Arr w g xs.length (intF xs)) : Row w (some ⟨g, 0, none⟩) xs.length xs :=
  ⟨rfl, .inr ⟨g, 0, rfl, h.lt, fun i hi => by rw [Nat.zero_add]; exact h.cell hi⟩⟩


/-- A block of numbers, all its room known: cap cells, the first m are f 0, f 1, .. -/
def ArrC (w : World) (g m : Nat) (f : Nat → Value) (cap : Nat) : Prop :=
  ∃ c : Array Value, w.heap[g]? = some (.cells c 2 (0, 0)) ∧ c.size = cap ∧ m ≤ cap ∧ (cap ≤ maxLen ∨ cap = m) ∧ ∀ j, j < m → c[j]? = some (f j)

theorem ArrC.arr {w : World} {g m : Nat} {f : Nat → Value} {cap : Nat} (h : ArrC w g m f cap) : Arr w g m f := by
  obtain ⟨c, hc, hs, hm, _, hv⟩ := h
  exact ⟨c, _, hc, by omega, hv⟩

theorem ArrC.lt {w : World} {g m : Nat} {f : Nat → Value} {cap : Nat} (h : ArrC w g m f cap) : g < w.heap.size := h.arr.lt

theorem ArrC.cell {w : World} {g m : Nat} {f : Nat → Value} {cap : Nat} (h : ArrC w g m f cap) {j : Nat} (hj : j < m) : w.cell? ⟨g, j, none⟩ = some (f j) := h.arr.cell hj

theorem ArrC.froz {w : World} {g m : Nat} {f : Nat → Value} {cap : Nat} (h : ArrC w g m f cap) (o : Nat) : w.frozen? ⟨g, o, none⟩ = false := h.arr.froz o

theorem ArrC.block {w w' : World} {g m : Nat} {f : Nat → Value} {cap : Nat} (h : ArrC w g m f cap) (hb : w'.heap[g]? = w.heap[g]?) : ArrC w' g m f cap := by
  obtain ⟨c, hc, hr⟩ := h
  exact ⟨c, hb.trans hc, hr⟩

theorem ArrC.away {w : World} {g m : Nat} {f : Nat → Value} {cap : Nat} (h : ArrC w g m f cap) (p : Addr) (v : Value) (hp : g ≠ p.block) : ArrC (w.setCell p v) g m f cap := h.block (Below.heap_setCell w p v g hp)

theorem ArrC.congr {w : World} {g m : Nat} {f f' : Nat → Value} {cap : Nat} (h : ArrC w g m f cap) (e : ∀ j, j < m → f j = f' j) : ArrC w g m f' cap := by
  obtain ⟨c, hc, hs, h1, h2, hv⟩ := h
  exact ⟨c, hc, hs, h1, h2, fun j hj => e j hj ▸ hv j hj⟩

theorem ArrC.set {w : World} {g m : Nat} {f : Nat → Value} {cap : Nat} (h : ArrC w g m f cap) (k : Nat) (v : Value) : ArrC (w.setCell ⟨g, k, none⟩ v) g m (fun j => if j = k then v else f j) cap := by
  obtain ⟨c, hc, hs, h1, h2, hv⟩ := h
  refine ⟨_, heapSet hc, by simpa using hs, h1, h2, fun j hj => ?_⟩
  by_cases e : j = k
  · subst e
    simp [Array.getElem?_setIfInBounds, show j < c.size by omega]
  · simp [Array.getElem?_setIfInBounds, e, show ¬ k = j by omega, hv j hj]

theorem ArrC.row {w : World} {g : Nat} {xs : List Int} {cap : Nat} (h : ArrC w g xs.length (intF xs) cap) : Row w (some ⟨g, 0, none⟩) xs.length xs := h.arr.row

theorem Own.arrc {w : World} {g : Nat} {xs : List Int} (h : Own w g xs) : ArrC w g xs.length (intF xs) xs.length := by
  obtain ⟨c, hc, hs, hv⟩ := h
  exact ⟨c, hc, by omega, Nat.le_refl _, .inr rfl, hv⟩

/-- A slice of numbers that the call owns: it leads to xs, in block b where it has something, from B to ahead of C. -/
def VSl (w : World) (B C : Nat) (v : Value) (xs : List Int) (b : Nat) : Prop :=
  ∃ a c, v = .slice a xs.length c ∧ (xs.length = 0 ∨ (a = some ⟨b, 0, none⟩ ∧ B ≤ b ∧ b < C ∧ ArrC w b xs.length (intF xs) c))

theorem VSl.keep {w w' : World} {B C : Nat} {v : Value} {xs : List Int} {b : Nat} (h : VSl w B C v xs b) (hk : ∀ k, B ≤ k → k < C → k < w.heap.size → w'.heap[k]? = w.heap[k]?) : VSl w' B C v xs b := by
  obtain ⟨a, c, e, h0 | ⟨ea, h1, h2, ha⟩⟩ := h
  · exact ⟨a, c, e, .inl h0⟩
  · exact ⟨a, c, e, .inr ⟨ea, h1, h2, ha.block (hk b h1 h2 ha.lt)⟩⟩

theorem VSl.below {w w' : World} {B C : Nat} {v : Value} {xs : List Int} {b : Nat} (h : VSl w B C v xs b) (hb : Below w.heap.size w w') : VSl w' B C v xs b := h.keep fun k _ _ lt => hb.block k lt

theorem VSl.mono {w : World} {B C B' C' : Nat} {v : Value} {xs : List Int} {b : Nat} (h : VSl w B C v xs b) (h1 : B' ≤ B) (h2 : C ≤ C') : VSl w B' C' v xs b := by
  obtain ⟨a, c, e, h0 | ⟨ea, k1, k2, ha⟩⟩ := h
  · exact ⟨a, c, e, .inl h0⟩
  · exact ⟨a, c, e, .inr ⟨ea, by omega, by omega, ha⟩⟩

theorem VSl.far {w w' : World} {B C B' C' : Nat} {v : Value} {xs : List Int} {b : Nat} (h : VSl w B C v xs b) (hf : Far B' C' w w') (hd : C ≤ B' ∨ C' ≤ B) : VSl w' B C v xs b := h.keep fun k k1 k2 lt => hf.block k lt (by omega)

theorem VSl.row {w : World} {B C : Nat} {v : Value} {xs : List Int} {b : Nat} (h : VSl w B C v xs b) : ∃ a c, v = .slice a xs.length c ∧ Row w a xs.length xs := by
  obtain ⟨a, c, e, h0 | ⟨rfl, k1, k2, ha⟩⟩ := h
  · exact ⟨a, c, e, rfl, .inl h0⟩
  · exact ⟨_, c, e, ha.row⟩

/-- The cells of items whose vectors are the slices sv. -/
def icell (L : IL) (sv : Nat → Value) (j : Nat) : Value := if j % 3 = 0 then .int .i64 (L (j / 3)).id else if j % 3 = 1 then .int .i64 (L (j / 3)).tags else sv (j / 3)

theorem icell_0 (L : IL) (sv : Nat → Value) (i : Nat) : icell L sv (i * 3) = .int .i64 (L i).id := by simp [icell]

theorem icell_1 (L : IL) (sv : Nat → Value) (i : Nat) : icell L sv (i * 3 + 1) = .int .i64 (L i).tags := by
  have h1 : (i * 3 + 1) % 3 = 1 := by omega
  have h2 : (i * 3 + 1) / 3 = i := by omega
  simp [icell, h1, h2]

theorem icell_2 (L : IL) (sv : Nat → Value) (i : Nat) : icell L sv (i * 3 + 2) = sv i := by
  have h1 : (i * 3 + 2) % 3 = 2 := by omega
  have h2 : (i * 3 + 2) / 3 = i := by omega
  simp [icell, h1, h2]

/-- A slice of items that the call owns: the row in block g, the vectors in blocks V i, all from B to ahead of C, no two in one block. -/
structure Its (w : World) (B C : Nat) (a : Option Addr) (n : Nat) (L : IL) (g : Nat) (V : Nat → Nat) (sv : Nat → Value) : Prop where
  arr : n = 0 ∨ (a = some ⟨g, 0, none⟩ ∧ B ≤ g ∧ g < C ∧ Arr w g (n * 3) (icell L sv))
  vec : ∀ i, i < n → VSl w B C (sv i) (L i).vec (V i)
  sep : ∀ i, i < n → (L i).vec.length ≠ 0 → V i ≠ g ∧ ∀ j, j < n → j ≠ i → (L j).vec.length ≠ 0 → V j ≠ V i

theorem Its.keep {w w' : World} {B C : Nat} {a : Option Addr} {n : Nat} {L : IL} {g : Nat} {V : Nat → Nat} {sv : Nat → Value} (h : Its w B C a n L g V sv) (hk : ∀ k, B ≤ k → k < C → k < w.heap.size → w'.heap[k]? = w.heap[k]?) : Its w' B C a n L g V sv := by
  refine ⟨?_, fun i hi => (h.vec i hi).keep hk, h.sep⟩
  rcases h.arr with h0 | ⟨e, h1, h2, ha⟩
  · exact .inl h0
  · exact .inr ⟨e, h1, h2, ha.block (hk g h1 h2 ha.lt)⟩

theorem Its.below {w w' : World} {B C : Nat} {a : Option Addr} {n : Nat} {L : IL} {g : Nat} {V : Nat → Nat} {sv : Nat → Value} (h : Its w B C a n L g V sv) (hb : Below w.heap.size w w') : Its w' B C a n L g V sv := h.keep fun k _ _ lt => hb.block k lt

theorem Its.far {w w' : World} {B C B' C' : Nat} {a : Option Addr} {n : Nat} {L : IL} {g : Nat} {V : Nat → Nat} {sv : Nat → Value} (h : Its w B C a n L g V sv) (hf : Far B' C' w w') (hd : C ≤ B' ∨ C' ≤ B) : Its w' B C a n L g V sv := h.keep fun k k1 k2 lt => hf.block k lt (by omega)

theorem Its.mono {w : World} {B C B' C' : Nat} {a : Option Addr} {n : Nat} {L : IL} {g : Nat} {V : Nat → Nat} {sv : Nat → Value} (h : Its w B C a n L g V sv) (h1 : B' ≤ B) (h2 : C ≤ C') : Its w B' C' a n L g V sv := by
  refine ⟨?_, fun i hi => (h.vec i hi).mono h1 h2, h.sep⟩
  rcases h.arr with h0 | ⟨e, k1, k2, ha⟩
  · exact .inl h0
  · exact .inr ⟨e, by omega, by omega, ha⟩

theorem Its.irow {w : World} {B C : Nat} {a : Option Addr} {n : Nat} {L : IL} {g : Nat} {V : Nat → Nat} {sv : Nat → Value} (h : Its w B C a n L g V sv) : IRow w a n L := by
  rcases h.arr with h0 | ⟨rfl, h1, h2, ha⟩
  · exact ⟨.inl h0⟩
  · refine ⟨.inr ⟨g, 0, rfl, ha.lt, fun i hi => ?_⟩⟩
    rw [Nat.zero_add]
    have c0 := ha.cell (j := i * 3) (by omega)
    have c1 := ha.cell (j := i * 3 + 1) (by omega)
    have c2 := ha.cell (j := i * 3 + 2) (by omega)
    rw [icell_0] at c0
    rw [icell_1] at c1
    rw [icell_2] at c2
    obtain ⟨a', c', e, hr⟩ := (h.vec i hi).row
    rw [e] at c2
    exact ⟨c0, c1, a', _, c', c2, hr⟩

end Go.Proofs.Ythiklcldbjmgfaa

/- The laws' small functions over items: szInt64S, szItem, szItemS, toItem, toItemS, eqItem, eqItemS. -/
namespace Go.Proofs.Ythiklcldbjmgfaa
open Go.RowKit
set_option maxRecDepth 8000
set_option linter.unusedSimpArgs false
set_option linter.unusedVariables false

theorem Try.infoItem : (Try.prog.info? 43).map (fun i => (i.zero, i.size, i.bytes)) = some (some (.agg #[.int .i64 0, .int .i64 0, .slice none 0 0]), 3, 40) := by kernel_rfl

set_option maxHeartbeats 400000 in
theorem szItem_any (x y : Int) (a : Option Addr) (n cap : Nat) (left : Int) (w : World) (h0 : 0 ≤ left) (h1 : left ≤ 1048576) (hn : n ≤ 9223372036854775807) :
    Calls Try.prog 24 #[.agg #[.int .i64 x, .int .i64 y, .slice a n cap], .int .i64 left] w fun e w' => e = .returned (.int .i64 (szN left n)) ∧ Below w.heap.size w w' := by
  have R := hide (fun w1 => szInts_any a n cap left w1 h0 h1 hn)
  unfold szN at R ⊢
  by_cases h : left - (n : Int) < 0
  · rw [if_pos h]
    simp only [if_pos h] at R
    go_enter Try.func24, Try.ntmps24
    go_wp2_with fail
    refine (R.out _).mono ?_
    rintro e w1 ⟨rfl, rfl⟩
    go_wp2_with fail
    go_ret
    exact ⟨rfl, (by repeat' first | with_reducible exact Below.refl _ _ | with_reducible assumption | with_reducible refine below_drewN ?_ _ | with_reducible refine balloc ?_ _ | with_reducible refine Below.drew ?_ | with_reducible refine Below.setCell ?_ (by first | (simp; done) | (simp; omega) | omega) _ | with_reducible refine bstep ?_ (by assumption))⟩
  · rw [if_neg h]
    simp only [if_neg h] at R
    go_enter Try.func24, Try.ntmps24
    go_wp2_with fail
    refine (R.out _).mono ?_
    rintro e w1 ⟨rfl, rfl⟩
    go_wp2_with fail
    go_ret
    exact ⟨rfl, (by repeat' first | with_reducible exact Below.refl _ _ | with_reducible assumption | with_reducible refine below_drewN ?_ _ | with_reducible refine balloc ?_ _ | with_reducible refine Below.drew ?_ | with_reducible refine Below.setCell ?_ (by first | (simp; done) | (simp; omega) | omega) _ | with_reducible refine bstep ?_ (by assumption))⟩

/-- How many numbers the first k vectors have. -/
def sumV (L : IL) : Nat → Nat
  | 0 => 0
  | k + 1 => sumV L k + (L k).vec.length

theorem sumV_mono (L : IL) {j k : Nat} (h : j ≤ k) : sumV L j ≤ sumV L k := by
  induction k with
  | zero => rw [show j = 0 by omega]; exact Nat.le_refl _
  | succ k ih =>
    by_cases e : j = k + 1
    · subst e; exact Nat.le_refl _
    · have := ih (by omega); show sumV L j ≤ sumV L k + _; omega

theorem sumV_at (L : IL) {j k : Nat} (h : j < k) : (L j).vec.length ≤ sumV L k := by
  have := sumV_mono L (show j + 1 ≤ k by omega)
  have e : sumV L (j + 1) = sumV L j + (L j).vec.length := rfl
  omega



/-- A box of three cells that may be written. -/
structure Tri (w : World) (b : Nat) (x y z : Value) : Prop where
  lt : b < w.heap.size
  c0 : w.cell? ⟨b, 0, none⟩ = some x
  c1 : w.cell? ⟨b, 1, none⟩ = some y
  c2 : w.cell? ⟨b, 2, none⟩ = some z
  f0 : w.frozen? ⟨b, 0, none⟩ = false
  f1 : w.frozen? ⟨b, 1, none⟩ = false
  f2 : w.frozen? ⟨b, 2, none⟩ = false

theorem Tri.below {w w' : World} {b : Nat} {x y z : Value} (h : Tri w b x y z) (hb : Below w.heap.size w w') : Tri w' b x y z :=
  ⟨Nat.lt_of_lt_of_le h.lt hb.size, (hb.cell (p := ⟨b, 0, none⟩) h.lt).trans h.c0, (hb.cell (p := ⟨b, 1, none⟩) h.lt).trans h.c1, (hb.cell (p := ⟨b, 2, none⟩) h.lt).trans h.c2,
    (hb.frozen (p := ⟨b, 0, none⟩) h.lt).trans h.f0, (hb.frozen (p := ⟨b, 1, none⟩) h.lt).trans h.f1, (hb.frozen (p := ⟨b, 2, none⟩) h.lt).trans h.f2⟩

theorem Tri.alloc {w : World} {b : Nat} {x y z : Value} (h : Tri w b x y z) (o : Obj) : Tri (w.alloc o) b x y z := h.below (balloc (Below.refl _ _) o)

theorem Tri.new (w : World) (x y z : Value) (T : TypeId) : Tri (w.alloc (.cells #[x, y, z] T)) w.heap.size x y z := ⟨by simp, by simp, by simp, by simp, by simp, by simp, by simp⟩

theorem Tri.newAt (w : World) (x y z : Value) (T : TypeId) (b : Nat) (hb : w.heap.size = b) : Tri (w.alloc (.cells #[x, y, z] T)) b x y z := hb ▸ Tri.new w x y z T

theorem Tri.drew {w : World} {b : Nat} {x y z : Value} (h : Tri w b x y z) : Tri w.drew b x y z := ⟨h.lt, h.c0, h.c1, h.c2, h.f0, h.f1, h.f2⟩

theorem Own.away {w : World} {g : Nat} {xs : List Int} (h : Own w g xs) (p : Addr) (v : Value) (hp : g ≠ p.block) : Own (w.setCell p v) g xs := World.rowIs.of_block h (Below.heap_setCell w p v g hp)

def ToI (w : World) (x : It) (e : Ending) (w' : World) : Prop :=
  ∃ g, e = .returned (.agg #[.int .i64 x.id, .int .i64 x.tags, .slice (some ⟨g, 0, none⟩) x.vec.length x.vec.length]) ∧ w.heap.size ≤ g ∧ Own w' g x.vec ∧ Below w.heap.size w w'

set_option maxHeartbeats 1600000 in
theorem toItem_any (x : It) (a : Option Addr) (n cap : Nat) (w : World) (h : Row w a n x.vec) (hn : n ≤ 1048576) :
    Calls Try.prog 29 #[.agg #[.int .i64 x.id, .int .i64 x.tags, .slice a n cap]] w fun e w' => ToI w x e w' := by
  have R := hide (fun w1 (hb : Below w.heap.size w w1) => toInts_any a n cap x.vec w1 (h.below hb) hn)
  have hl := h.len
  clear h
  obtain ⟨x0, x1, xs⟩ := x
  dsimp only at R hl ⊢
  subst hl
  go_enter Try.func29, Try.ntmps29
  go_wp2_with fail
  refine (R.out _ (by repeat' first | with_reducible exact Below.refl _ _ | with_reducible assumption | with_reducible refine below_drewN ?_ _ | with_reducible refine balloc ?_ _ | with_reducible refine Below.drew ?_ | with_reducible refine Below.setCell ?_ (by first | (simp; done) | (simp; omega) | omega) _ | with_reducible refine bstep ?_ (by assumption))).mono ?_
  rintro e w1 ⟨b1, rfl, l1, o1, hb1⟩
  simp at l1
  have t1 := (((Tri.newAt (w.alloc _) (.int .i64 0) (.int .i64 0) (.slice none 0 0) 43 (w.heap.size + 1) (by simp)).alloc _).below hb1)
  have t2 := ((Tri.newAt ((w.alloc _).alloc _) (.int .i64 x0) (.int .i64 x1) (.slice none 0 0) 43 (w.heap.size + 1 + 1) (by simp)).below hb1)
  obtain ⟨q0, q1, q2, q3, q4, q5, q6⟩ := t1
  obtain ⟨p0, p1, p2, p3, p4, p5, p6⟩ := t2
  go_wp2_with fail
  refine bodyPost_ret (v := .agg #[.int .i64 x0, .int .i64 x1, .slice (some ⟨b1, 0, none⟩) xs.length xs.length]) ?_ rfl ⟨b1, rfl, by omega, ?_, ?_⟩
  · simp [results, Try.results29, go_sem, q1, q2, q3]
  · exact (((o1.away _ _ (by simp; omega)).away _ _ (by simp; omega)).away _ _ (by simp; omega)).away _ _ (by simp; omega)
  · exact (by repeat' first | with_reducible exact Below.refl _ _ | with_reducible assumption | with_reducible refine below_drewN ?_ _ | with_reducible refine balloc ?_ _ | with_reducible refine Below.drew ?_ | with_reducible refine Below.setCell ?_ (by first | (simp; done) | (simp; omega) | omega) _ | with_reducible refine bstep ?_ (by assumption))

/-- Of the loop of toItemS behind k rounds. -/
def upI (k : Nat) (L : IL) : IL := fun i => if i < k then L i else ⟨0, 0, []⟩
def upS (k : Nat) (sv : Nat → Value) : Nat → Value := fun i => if i < k then sv i else .slice none 0 0

theorem upI_put (k : Nat) (L : IL) : (upI k L).put k (L k) = upI (k + 1) L := by
  funext i
  unfold IL.put upI
  by_cases e : i = k
  · subst e; simp
  · by_cases l : i < k
    · simp [e, l, show i < k + 1 by omega]
    · simp [e, l, show ¬ i < k + 1 by omega]
/-- An item is put in its place. -/
theorem Arr.item {w : World} {g m k : Nat} {L : IL} {sv : Nat → Value} (h : Arr w g m (icell L sv)) (x : It) (v : Value) :
    Arr (((w.setCell ⟨g, k * 3, none⟩ (.int .i64 x.id)).setCell ⟨g, k * 3 + 1, none⟩ (.int .i64 x.tags)).setCell ⟨g, k * 3 + 2, none⟩ v) g m (icell (L.put k x) (fun i => if i = k then v else sv i)) := by
  refine (((h.set (k * 3) _).set (k * 3 + 1) _).set (k * 3 + 2) _).congr fun j hj => ?_
  unfold icell IL.put
  rcases (show j % 3 = 0 ∨ j % 3 = 1 ∨ j % 3 = 2 by omega) with h | h | h
  · simp only [h, if_true]
    rw [if_neg (show ¬ j = k * 3 + 2 by omega), if_neg (show ¬ j = k * 3 + 1 by omega)]
    by_cases e : j = k * 3
    · rw [if_pos e, if_pos (show j / 3 = k by omega)]
    · rw [if_neg e, if_neg (show ¬ j / 3 = k by omega)]
  · simp only [h]
    rw [if_neg (show ¬ j = k * 3 + 2 by omega)]
    by_cases e : j = k * 3 + 1
    · rw [if_pos e, if_pos (show j / 3 = k by omega)]; simp
    · rw [if_neg e, if_neg (show ¬ j = k * 3 by omega), if_neg (show ¬ j / 3 = k by omega)]; simp
  · simp only [h]
    by_cases e : j = k * 3 + 2
    · rw [if_pos e]; simp [show j / 3 = k by omega]
    · rw [if_neg e, if_neg (show ¬ j = k * 3 + 1 by omega), if_neg (show ¬ j = k * 3 by omega)]; simp [show ¬ j / 3 = k by omega]

/-- The answer of toItemS, and of whoever builds items of the call's own. -/
def ToIs (w : World) (n : Nat) (L : IL) (e : Ending) (w' : World) : Prop :=
  ∃ a cap g V sv, e = .returned (.slice a n cap) ∧ Its w' w.heap.size w'.heap.size a n L g V sv ∧ Below w.heap.size w w'
/-- The same, with no room behind. -/
def ToIsN (w : World) (n : Nat) (L : IL) (e : Ending) (w' : World) : Prop :=
  ∃ a g V sv, e = .returned (.slice a n n) ∧ Its w' w.heap.size w'.heap.size a n L g V sv ∧ Below w.heap.size w w'
/-- The same, and where it lies. -/
def ToIsG (w : World) (n : Nat) (L : IL) (e : Ending) (w' : World) : Prop :=
  ∃ g V sv, e = .returned (.slice (some ⟨g, 0, none⟩) n n) ∧ g < w'.heap.size ∧ Its w' w.heap.size w'.heap.size (some ⟨g, 0, none⟩) n L g V sv ∧ Below w.heap.size w w'

theorem ToIsG.any {w : World} {n : Nat} {L : IL} {e : Ending} {w' : World} (h : ToIsG w n L e w') : ToIsN w n L e w' := by
  obtain ⟨g, V, sv, he, _, hi, hb⟩ := h
  exact ⟨_, g, V, sv, he, hi, hb⟩

theorem ToIsN.any {w : World} {n : Nat} {L : IL} {e : Ending} {w' : World} (h : ToIsN w n L e w') : ToIs w n L e w' := by
  obtain ⟨a, g, V, sv, he, hi, hb⟩ := h
  exact ⟨a, n, g, V, sv, he, hi, hb⟩

def putF {α : Type} (f : Nat → α) (k : Nat) (x : α) : Nat → α := fun i => if i = k then x else f i

theorem putF_at {α : Type} (f : Nat → α) (k : Nat) (x : α) : putF f k x k = x := by simp [putF]

theorem putF_off {α : Type} (f : Nat → α) {k i : Nat} (x : α) (h : i ≠ k) : putF f k x i = f i := by simp [putF, h]

/-- The vectors of the first k items: slices sv in blocks V of their own, none of them g. -/
structure Vecs (w : World) (B k : Nat) (M : IL) (V : Nat → Nat) (sv : Nat → Value) (g : Nat) : Prop where
  vec : ∀ i, i < k → VSl w B w.heap.size (sv i) (M i).vec (V i)
  sep : ∀ i, i < k → (M i).vec.length ≠ 0 → V i ≠ g ∧ ∀ j, j < k → j ≠ i → (M j).vec.length ≠ 0 → V j ≠ V i

theorem VSl.lt {w : World} {B C : Nat} {v : Value} {xs : List Int} {b : Nat} (h : VSl w B C v xs b) (h0 : xs.length ≠ 0) : B ≤ b ∧ b < C ∧ b < w.heap.size := by
  obtain ⟨a, c, e, h1 | ⟨rfl, k1, k2, ha⟩⟩ := h
  · exact absurd h1 h0
  · exact ⟨k1, k2, ha.lt⟩

theorem Vecs.zero (w : World) (B : Nat) (M : IL) (V : Nat → Nat) (sv : Nat → Value) (g : Nat) : Vecs w B 0 M V sv g := ⟨fun i hi => absurd hi (by omega), fun i hi => absurd hi (by omega)⟩
/-- Block g alone was written. -/
theorem Vecs.row {w w' : World} {B k : Nat} {M : IL} {V : Nat → Nat} {sv : Nat → Value} {g : Nat} (h : Vecs w B k M V sv g) (hs : w.heap.size ≤ w'.heap.size) (hb : ∀ i, i < w.heap.size → i ≠ g → w'.heap[i]? = w.heap[i]?) : Vecs w' B k M V sv g := by
  refine ⟨fun i hi => ?_, h.sep⟩
  obtain ⟨a, c, e, h1 | ⟨rfl, k1, k2, ha⟩⟩ := h.vec i hi
  · exact ⟨a, c, e, .inl h1⟩
  · by_cases h0 : (M i).vec.length = 0
    · exact ⟨_, c, e, .inl h0⟩
    · exact ⟨_, c, e, .inr ⟨rfl, k1, by omega, ha.block (hb _ ha.lt (h.sep i hi h0).1)⟩⟩

theorem Vecs.below {w w' : World} {B k : Nat} {M : IL} {V : Nat → Nat} {sv : Nat → Value} {g : Nat} (h : Vecs w B k M V sv g) (hb : Below w.heap.size w w') : Vecs w' B k M V sv g := h.row hb.size fun i hi _ => hb.block i hi
/-- The row lies in a new block. -/
theorem Vecs.move {w : World} {B k : Nat} {M : IL} {V : Nat → Nat} {sv : Nat → Value} {g g' : Nat} (h : Vecs w B k M V sv g) (hg : w.heap.size ≤ g') : Vecs w B k M V sv g' :=
  ⟨h.vec, fun i hi h0 => ⟨by have := ((h.vec i hi).lt h0).2.2; omega, (h.sep i hi h0).2⟩⟩

theorem Vecs.congr {w : World} {B k : Nat} {M N : IL} {V V' : Nat → Nat} {sv sv' : Nat → Value} {g : Nat} (h : Vecs w B k M V sv g) (e : ∀ i, i < k → M i = N i) (e1 : ∀ i, i < k → V i = V' i) (e2 : ∀ i, i < k → sv i = sv' i) : Vecs w B k N V' sv' g := by
  refine ⟨fun i hi => ?_, fun i hi h0 => ?_⟩
  · rw [← e i hi, ← e1 i hi, ← e2 i hi]; exact h.vec i hi
  · rw [← e i hi] at h0
    obtain ⟨h1, h2⟩ := h.sep i hi h0
    rw [← e1 i hi]
    refine ⟨h1, fun j hj hne hj0 => ?_⟩
    rw [← e j hj] at hj0
    rw [← e1 j hj]
    exact h2 j hj hne hj0
/-- One more. -/
theorem Vecs.step {w w1 : World} {B k : Nat} {M : IL} {V : Nat → Nat} {sv : Nat → Value} {g : Nat} (h : Vecs w B k M V sv g) (hb : Below w.heap.size w w1) (hB : B ≤ w.heap.size) (hg : g < w.heap.size) (x : It) (v : Value) (gv : Nat) (hv : VSl w1 w.heap.size w1.heap.size v x.vec gv) :
    Vecs w1 B (k + 1) (M.put k x) (putF V k gv) (putF sv k v) g := by
  have h' := h.below hb
  refine ⟨fun i hi => ?_, fun i hi h0 => ?_⟩
  · by_cases e : i = k
    · subst e
      rw [IL.put_at, putF_at, putF_at]
      exact hv.mono hB (Nat.le_refl _)
    · rw [IL.put_off _ _ e, putF_off _ _ e, putF_off _ _ e]
      exact h'.vec i (by omega)
  · by_cases e : i = k
    · subst e
      rw [IL.put_at] at h0
      rw [putF_at]
      have := (hv.lt h0).1
      refine ⟨by omega, fun j hj hne hj0 => ?_⟩
      rw [IL.put_off _ _ hne] at hj0
      rw [putF_off _ _ hne]
      have := ((h.vec j (by omega)).lt hj0).2.2
      omega
    · rw [IL.put_off _ _ e] at h0
      rw [putF_off _ _ e]
      refine ⟨(h.sep i (by omega) h0).1, fun j hj hne hj0 => ?_⟩
      by_cases ej : j = k
      · subst ej
        rw [IL.put_at] at hj0
        rw [putF_at]
        have := (hv.lt hj0).1
        have := ((h.vec i (by omega)).lt h0).2.2
        omega
      · rw [IL.put_off _ _ ej] at hj0
        rw [putF_off _ _ ej]
        exact (h.sep i (by omega) h0).2 j (by omega) hne hj0

theorem Vecs.its {w : World} {B n : Nat} {M : IL} {V : Nat → Nat} {sv : Nat → Value} {g : Nat} (h : Vecs w B n M V sv g) (hB : B ≤ g) (ha : Arr w g (n * 3) (icell M sv)) : Its w B w.heap.size (some ⟨g, 0, none⟩) n M g V sv :=
  ⟨.inr ⟨rfl, hB, ha.lt, ha⟩, h.vec, h.sep⟩

theorem Arr.items {w : World} (n : Nat) (t : TypeId) : Arr (w.alloc (.cells (madeCells #[.int .i64 0, .int .i64 0, .slice none 0 0] (n * 3)) t)) w.heap.size (n * 3) (icell (upI 0 (fun _ => ⟨0, 0, []⟩)) (fun _ => .slice none 0 0)) := by
  refine ⟨_, t, Go.Deep.blk_alloc_new _ _, by rw [size_madeCells]; exact Nat.le_refl _, fun i hi => ?_⟩
  rcases (show i % 3 = 0 ∨ i % 3 = 1 ∨ i % 3 = 2 by omega) with h | h | h <;> simp [madeCells, hi, h, icell, upI]

/-- Of the loop of toItemS behind k rounds. -/
def ItsN (w0 w : World) (n k : Nat) (L : IL) : Prop :=
  ∃ V sv, Arr w w0.heap.size (n * 3) (icell (upI k L) sv) ∧ Vecs w w0.heap.size k (upI k L) V sv w0.heap.size

theorem ItsN.step {w0 w w1 : World} {n k : Nat} {L : IL} (h : ItsN w0 w n k L) (h0 : Below w0.heap.size w0 w) (hb : Below w.heap.size w w1) (gv : Nat) (hgv : w.heap.size ≤ gv) (ho : Own w1 gv (L k).vec) :
    ItsN w0 (((w1.setCell ⟨w0.heap.size, k * 3, none⟩ (.int .i64 (L k).id)).setCell ⟨w0.heap.size, k * 3 + 1, none⟩ (.int .i64 (L k).tags)).setCell ⟨w0.heap.size, k * 3 + 2, none⟩ (.slice (some ⟨gv, 0, none⟩) (L k).vec.length (L k).vec.length)) n (k + 1) L := by
  obtain ⟨V, sv, ha, hv⟩ := h
  have lt := ha.lt
  refine ⟨putF V k gv, putF sv k (.slice (some ⟨gv, 0, none⟩) (L k).vec.length (L k).vec.length), ?_, ?_⟩
  · have := (ha.below hb).item (k := k) (L k) (.slice (some ⟨gv, 0, none⟩) (L k).vec.length (L k).vec.length)
    rw [upI_put] at this
    exact this
  · have hs := hv.step hb h0.size lt (L k) (.slice (some ⟨gv, 0, none⟩) (L k).vec.length (L k).vec.length) gv ⟨_, _, rfl, .inr ⟨rfl, hgv, World.rowIs.lt ho, ho.arrc⟩⟩
    rw [upI_put] at hs
    refine hs.row (by simp [World.setCell]) fun i hi hne => ?_
    rw [Below.heap_setCell _ _ _ _ (by simpa using hne), Below.heap_setCell _ _ _ _ (by simpa using hne), Below.heap_setCell _ _ _ _ (by simpa using hne)]









end Go.Proofs.Ythiklcldbjmgfaa