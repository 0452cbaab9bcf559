/- Bounds of the model: the ends. -/
import Derived.Test.YtoiaamcnmpdglaaZ13
import Derived.Deep.DeepCutAuto
import Derived.Test.YtoiaamcnmpdglaaZ1
import Derived.Deep.RegionHeld3
import Derived.Deep.Slices
import Derived.Test.YtoiaamcnmpdglaaZ2
namespace Go.Proofs.Ytoiaamcnmpdglaa
open Go.RowKit
set_option maxRecDepth 8000
set_option linter.unusedSimpArgs false
set_option linter.unusedVariables false

end Go.Proofs.Ytoiaamcnmpdglaa
/- Bounds of the model: LowOf, HighOf, BoxHas. -/
namespace Go.Proofs.Ytoiaamcnmpdglaa
open Go.RowKit
set_option maxRecDepth 8000
set_option linter.unusedSimpArgs false
set_option linter.unusedVariables false

set_option maxHeartbeats 800000 in
theorem l4Form_any (a a' : Option Addr) (n cap n' cap' : Nat) (f g : Nat → Int) (xs : List Int) (w : World) (h : PRow w a n f g) (h' : Row w a' n' xs) (hn : n ≤ 1048576) (hn' : n' ≤ 1048576) :
    Calls Try.prog 32 #[.slice a n cap, .slice a' n' cap'] w fun e w' => e = .returned (.bool (formB n f g n' xs)) ∧ Below w.heap.size w w' := by
  have A := hide (sBoxOk_any a n cap f g w h hn)
  have B := hide (fun w1 (hb : Below w.heap.size w w1) => sVecOk_any a' n' cap' xs w1 (h'.below hb) hn')
  clear h h'
  unfold formB
  cases h1 : boxB n f g
  · rw [h1] at A
    simp only [Bool.and_true, Bool.and_false, Bool.true_and, Bool.false_and]
    go_enter Try.func32, Try.ntmps32
    go_wp2_with fail
    refine A.out.mono ?_
    rintro e w1 ⟨rfl, hb1⟩
    go_wp2_with fail
    go_ret
    exact ⟨rfl, (by repeat' first | with_reducible exact Below.refl _ _ | with_reducible assumption | with_reducible refine below_drewN ?_ _ | with_reducible refine balloc ?_ _ | with_reducible refine Below.drew ?_ | with_reducible refine Below.setCell ?_ (by first | (simp; done) | (simp; omega) | omega) _ | with_reducible refine bstep ?_ (by assumption))⟩
  · rw [h1] at A
    cases h2 : vecOkB xs
    · rw [h2] at B
      simp only [Bool.and_true, Bool.and_false, Bool.true_and, Bool.false_and]
      go_enter Try.func32, Try.ntmps32
      go_wp2_with fail
      refine A.out.mono ?_
      rintro e w1 ⟨rfl, hb1⟩
      go_wp2_with fail
      refine (B.out _ hb1).mono ?_
      rintro e w2 ⟨rfl, rfl⟩
      go_wp2_with fail
      go_ret
      exact ⟨rfl, (by repeat' first | with_reducible exact Below.refl _ _ | with_reducible assumption | with_reducible refine below_drewN ?_ _ | with_reducible refine balloc ?_ _ | with_reducible refine Below.drew ?_ | with_reducible refine Below.setCell ?_ (by first | (simp; done) | (simp; omega) | omega) _ | with_reducible refine bstep ?_ (by assumption))⟩
    · rw [h2] at B
      simp only [Bool.and_true, Bool.and_false, Bool.true_and, Bool.false_and]
      obtain ⟨v, hv⟩ : ∃ v, decide (n = n') = v := ⟨_, rfl⟩
      have he : ((n : Int) == (n' : Int)) = v := by
        by_cases q : n = n'
        · subst q; rw [← hv]; simp
        · rw [← hv, decide_eq_false q]; simp; omega
      rw [hv]
      clear hv
      go_enter Try.func32, Try.ntmps32
      go_wp2_with fail
      refine A.out.mono ?_
      rintro e w1 ⟨rfl, hb1⟩
      go_wp2_with fail
      refine (B.out _ hb1).mono ?_
      rintro e w2 ⟨rfl, rfl⟩
      cases v
      all_goals
        go_wp2_with fail
        go_ret
        exact ⟨rfl, (by repeat' first | with_reducible exact Below.refl _ _ | with_reducible assumption | with_reducible refine below_drewN ?_ _ | with_reducible refine balloc ?_ _ | with_reducible refine Below.drew ?_ | with_reducible refine Below.setCell ?_ (by first | (simp; done) | (simp; omega) | omega) _ | with_reducible refine bstep ?_ (by assumption))⟩





def hasN (n : Nat) (f g : Nat → Int) (xs : List Int) : Bool := allN n (fun i => hasB (f i) (g i) (nth xs i))

theorem sumSq_zero (d : Nat → Int) (n : Nat) (h0 : ∀ i, i < n → 0 ≤ d i ∧ d i ≤ 4194304) : sumSq d n = 0 ↔ ∀ i, i < n → d i = 0 := by
  induction n with
  | zero => simp [sumSq]
  | succ n ih =>
    have ih := ih (fun i hi => h0 i (by omega))
    have b := (sumSq_bounds d n (fun i hi => h0 i (by omega)) n (Nat.le_refl _)).1
    have q := (sq_bounds (h0 n (by omega)).1 (h0 n (by omega)).2).1
    simp only [sumSq]
    constructor
    · intro hs
      have e1 : sumSq d n = 0 := by omega
      have e2 : d n * d n = 0 := by omega
      intro i hi
      rcases Nat.lt_succ_iff_lt_or_eq.1 hi with h | h
      · exact ih.1 e1 i h
      · subst h; exact (Int.mul_eq_zero.1 e2).elim id id
    · intro hs
      rw [ih.2 (fun i hi => hs i (by omega)), hs n (by omega)]; rfl

theorem allN_congr {n : Nat} {p q : Nat → Bool} (h : ∀ i, i < n → p i = q i) : allN n p = allN n q := by
  unfold allN
  rw [Bool.eq_iff_iff]
  simp only [List.all_eq_true, List.mem_range]
  exact ⟨fun k i hi => by rw [← h i hi]; exact k i hi, fun k i hi => by rw [h i hi]; exact k i hi⟩

/-- What is at no distance from a box is what it has. -/
theorem least_zero {n : Nat} {f g : Nat → Int} {m : Nat} {xs : List Int} (hm : xs.length = m) (h : formB n f g m xs = true) : (leastN n f g xs == 0) = hasN n f g xs := by
  simp only [formB, Bool.and_eq_true, decide_eq_true_eq] at h
  obtain ⟨⟨h1, h2⟩, rfl⟩ := h
  have hb : ∀ i, i < n → 0 ≤ leastV (f i) (g i) (nth xs i) ∧ leastV (f i) (g i) (nth xs i) ≤ 4194304 := fun i hi => least_bounds (boxB_at' h1 hi) (vecOkB_at h2 (by omega))
  have key := sumSq_zero (fun i => leastV (f i) (g i) (nth xs i)) n hb
  rw [Bool.eq_iff_iff, beq_iff_eq]
  unfold leastN
  rw [key]
  constructor
  · intro q
    refine allN_yes fun i hi => ?_
    have := q i hi
    simp only [hasB, boxB_at' h1 hi, Bool.true_and, inB, decide_eq_true_eq]
    unfold leastV at this
    omega
  · intro q i hi
    have := allN_at q hi
    simp only [hasB, boxB_at' h1 hi, Bool.true_and, inB, decide_eq_true_eq] at this
    unfold leastV
    omega

def boxHasB (n : Nat) (f g : Nat → Int) (m : Nat) (xs : List Int) : Bool := formB n f g m xs && hasN n f g xs

theorem iBoxHas_any (a a' : Option Addr) (n cap n' cap' : Nat) (f g : Nat → Int) (xs : List Int) (w : World) (h : PRow w a n f g) (h' : Row w a' n' xs) (hn' : n' ≤ 1048576) :
    Calls Try.prog 12 #[.slice a n cap, .slice a' n' cap'] w fun e w' => e = .returned (.bool (boxHasB n f g n' xs)) ∧ Below w.heap.size w w' := by
  have := iBoxHas_raw a a' n cap n' cap' f g xs w h h' hn'
  rwa [show ((if formB n f g n' xs then leastN n f g xs else -1) == 0) = boxHasB n f g n' xs from by
    unfold boxHasB
    cases hF : formB n f g n' xs
    · rfl
    · simp only [if_true, Bool.true_and]; exact least_zero h'.len hF] at this



end Go.Proofs.Ytoiaamcnmpdglaa
/- Rows of ranges of the call's own; contracts of the laws' small functions over them: szRangeS, toRangeS, eqRangeS. -/
namespace Go.Proofs.Ytoiaamcnmpdglaa
open Go.RowKit
set_option maxRecDepth 8000
set_option linter.unusedSimpArgs false
set_option linter.unusedVariables false

theorem Try.infoRange : (Try.prog.info? 64).map (fun i => (i.zero, i.size, i.bytes)) = some (some (.agg #[.int .i64 0, .int .i64 0]), 2, 16) := by kernel_rfl

/-- A row of ranges of the call's own, that may be written. -/
def OwnP (w : World) (b n : Nat) (f g : Nat → Int) : Prop := w.rowIs b 64 (n * 2) (pcell f g)

theorem OwnP.lt {w : World} {b n : Nat} {f g : Nat → Int} (h : OwnP w b n f g) : b < w.heap.size := World.rowIs.lt h

theorem OwnP.c0 {w : World} {b n : Nat} {f g : Nat → Int} (h : OwnP w b n f g) {i : Nat} (hi : i < n) : w.cell? ⟨b, i * 2, none⟩ = some (.int .i64 (f i)) := by
  rw [World.rowIs.cell h (show i * 2 < n * 2 by omega), pcell_lo]

theorem OwnP.c1 {w : World} {b n : Nat} {f g : Nat → Int} (h : OwnP w b n f g) {i : Nat} (hi : i < n) : w.cell? ⟨b, i * 2 + 1, none⟩ = some (.int .i64 (g i)) := by
  rw [World.rowIs.cell h (show i * 2 + 1 < n * 2 by omega), pcell_hi]

theorem OwnP.prow {w : World} {b n : Nat} {f g : Nat → Int} (h : OwnP w b n f g) : PRow w (some ⟨b, 0, none⟩) n f g :=
  ⟨.inr ⟨b, 0, rfl, h.lt, fun i hi => by rw [Nat.zero_add]; exact ⟨h.c0 hi, h.c1 hi⟩⟩⟩

theorem OwnP.below {w w' : World} {b n : Nat} {f g : Nat → Int} (h : OwnP w b n f g) (hb : Below w.heap.size w w') : OwnP w' b n f g := World.rowIs.of_block h (hb.block b (World.rowIs.lt h))

theorem OwnP.congr {w : World} {b n : Nat} {f g f' g' : Nat → Int} (h : OwnP w b n f g) (hf : ∀ i, i < n → f i = f' i) (hg : ∀ i, i < n → g i = g' i) : OwnP w b n f' g' := by
  refine World.rowIs.congr h fun j hj => ?_
  unfold pcell
  rw [hf (j / 2) (by omega), hg (j / 2) (by omega)]

theorem OwnP.made (w : World) (n : Nat) : OwnP (w.alloc (.cells (madeCells #[.int .i64 0, .int .i64 0] (n * 2)) 64)) w.heap.size n (fun _ => 0) (fun _ => 0) := by
  refine ⟨_, Go.Deep.blk_alloc_new _ _, size_madeCells _ _, fun i hi => ?_⟩
  rcases (show i % 2 = 0 ∨ i % 2 = 1 by omega) with h | h <;> simp [madeCells, hi, h, pcell]

theorem OwnP.set {w : World} {b n : Nat} {f g : Nat → Int} (h : OwnP w b n f g) (k : Nat) (x y : Int) :
    OwnP ((w.setCell ⟨b, k * 2, none⟩ (.int .i64 x)).setCell ⟨b, k * 2 + 1, none⟩ (.int .i64 y)) b n (fun i => if i = k then x else f i) (fun i => if i = k then y else g i) := by
  refine (World.rowIs.set (World.rowIs.set h (k * 2) _) (k * 2 + 1) _).congr fun j hj => ?_
  unfold pcell
  dsimp only
  rcases (show j % 2 = 0 ∨ j % 2 = 1 by omega) with h | h
  · rw [if_neg (show ¬ j = k * 2 + 1 by omega)]
    by_cases e : j = k * 2
    · rw [if_pos e, if_pos h, if_pos (show j / 2 = k by omega)]
    · rw [if_neg e, if_pos h, if_pos h, if_neg (show ¬ j / 2 = k by omega)]
  · by_cases e : j = k * 2 + 1
    · rw [if_pos e, if_neg (by omega), if_pos (show j / 2 = k by omega)]
    · rw [if_neg e, if_neg (by omega), if_neg (by omega), if_neg (by omega), if_neg (show ¬ j / 2 = k by omega)]

theorem OwnP.step {w : World} {b n k : Nat} {f g : Nat → Int} (h : OwnP w b n (upTo k f) (upTo k g)) :
    OwnP ((w.setCell ⟨b, k * 2, none⟩ (.int .i64 (f k))).setCell ⟨b, k * 2 + 1, none⟩ (.int .i64 (g k))) b n (upTo (k + 1) f) (upTo (k + 1) g) := by
  refine (h.set k (f k) (g k)).congr (fun i _ => ?_) (fun i _ => ?_)
  all_goals
    unfold upTo
    by_cases e : i = k
    · subst e; simp
    · by_cases l : i < k
      · simp [e, l, show i < k + 1 by omega]
      · simp [e, l, show ¬ i < k + 1 by omega]



def ToRs (w : World) (n : Nat) (f g : Nat → Int) (e : Ending) (w' : World) : Prop :=
  ∃ b, e = .returned (.slice (some ⟨b, 0, none⟩) n n) ∧ w.heap.size ≤ b ∧ OwnP w' b n f g ∧ Below w.heap.size w w'





end Go.Proofs.Ytoiaamcnmpdglaa
/- BoxLeq of the program and of the model. -/
namespace Go.Proofs.Ytoiaamcnmpdglaa
open Go.RowKit
set_option maxRecDepth 8000
set_option linter.unusedSimpArgs false
set_option linter.unusedVariables false

def alikeB (n : Nat) (f g : Nat → Int) (n' : Nat) (f' g' : Nat → Int) : Bool := boxB n f g && boxB n' f' g' && decide (n = n')
def leqN (n : Nat) (f g f' g' : Nat → Int) : Bool := allN n (fun i => leqB (f i) (g i) (f' i) (g' i))

theorem boxB_num {n : Nat} {f g : Nat → Int} (h : boxB n f g = true) : 1 ≤ n ∧ n ≤ 8 := by
  simp only [boxB, Bool.and_eq_true, decide_eq_true_eq] at h; exact h.1

theorem boxB_at {n k : Nat} {f g : Nat → Int} (h : boxB n f g = true) (hk : k < n) : rightB (f k) (g k) = true := by
  simp only [boxB, Bool.and_eq_true] at h; exact allN_at h.2 hk

set_option maxHeartbeats 800000 in
theorem boxesAlike_any (a a' : Option Addr) (n cap n' cap' : Nat) (f g f' g' : Nat → Int) (w : World) (h : PRow w a n f g) (h' : PRow w a' n' f' g') :
    Calls Try.prog 46 #[.slice a n cap, .slice a' n' cap'] w fun e w' => e = .returned (.bool (alikeB n f g n' f' g')) ∧ Below w.heap.size w w' := by
  have A := hide (iBoxOk_any a n cap f g w h)
  have B := hide (fun w1 (hb : Below w.heap.size w w1) => iBoxOk_any a' n' cap' f' g' w1 (h'.below hb))
  clear h h'
  unfold alikeB
  cases h1 : boxB n f g
  · rw [h1] at A
    simp only [Bool.and_true, Bool.and_false, Bool.true_and, Bool.false_and]
    go_enter Try.func46, Try.ntmps46
    go_wp2_with fail
    refine A.out.mono ?_
    rintro e w1 ⟨rfl, hb1⟩
    go_wp2_with fail
    go_ret
    exact ⟨rfl, (by repeat' first | with_reducible exact Below.refl _ _ | with_reducible assumption | with_reducible refine below_drewN ?_ _ | with_reducible refine balloc ?_ _ | with_reducible refine Below.drew ?_ | with_reducible refine Below.setCell ?_ (by first | (simp; done) | (simp; omega) | omega) _ | with_reducible refine bstep ?_ (by assumption))⟩
  · rw [h1] at A
    cases h2 : boxB n' f' g'
    · rw [h2] at B
      simp only [Bool.and_true, Bool.and_false, Bool.true_and, Bool.false_and]
      go_enter Try.func46, Try.ntmps46
      go_wp2_with fail
      refine A.out.mono ?_
      rintro e w1 ⟨rfl, hb1⟩
      go_wp2_with fail
      refine (B.out _ hb1).mono ?_
      rintro e w2 ⟨rfl, hb2⟩
      go_wp2_with fail
      go_ret
      exact ⟨rfl, (by repeat' first | with_reducible exact Below.refl _ _ | with_reducible assumption | with_reducible refine below_drewN ?_ _ | with_reducible refine balloc ?_ _ | with_reducible refine Below.drew ?_ | with_reducible refine Below.setCell ?_ (by first | (simp; done) | (simp; omega) | omega) _ | with_reducible refine bstep ?_ (by assumption))⟩
    · rw [h2] at B
      by_cases he : n = n'
      · subst he
        have he' : ((n : Int) == (n : Int)) = true := by simp
        rw [decide_eq_true rfl]
        simp only [Bool.and_true, Bool.and_false, Bool.true_and, Bool.false_and]
        go_enter Try.func46, Try.ntmps46
        go_wp2_with fail
        refine A.out.mono ?_
        rintro e w1 ⟨rfl, hb1⟩
        go_wp2_with fail
        refine (B.out _ hb1).mono ?_
        rintro e w2 ⟨rfl, hb2⟩
        go_wp2_with fail
        go_ret
        exact ⟨rfl, (by repeat' first | with_reducible exact Below.refl _ _ | with_reducible assumption | with_reducible refine below_drewN ?_ _ | with_reducible refine balloc ?_ _ | with_reducible refine Below.drew ?_ | with_reducible refine Below.setCell ?_ (by first | (simp; done) | (simp; omega) | omega) _ | with_reducible refine bstep ?_ (by assumption))⟩
      · have he' : ((n : Int) == (n' : Int)) = false := by simp; omega
        rw [decide_eq_false he]
        simp only [Bool.and_true, Bool.and_false, Bool.true_and, Bool.false_and]
        go_enter Try.func46, Try.ntmps46
        go_wp2_with fail
        refine A.out.mono ?_
        rintro e w1 ⟨rfl, hb1⟩
        go_wp2_with fail
        refine (B.out _ hb1).mono ?_
        rintro e w2 ⟨rfl, hb2⟩
        go_wp2_with fail
        go_ret
        exact ⟨rfl, (by repeat' first | with_reducible exact Below.refl _ _ | with_reducible assumption | with_reducible refine below_drewN ?_ _ | with_reducible refine balloc ?_ _ | with_reducible refine Below.drew ?_ | with_reducible refine Below.setCell ?_ (by first | (simp; done) | (simp; omega) | omega) _ | with_reducible refine bstep ?_ (by assumption))⟩

set_option maxHeartbeats 1600000 in
theorem iBoxLeq_some (b off n cap b' off' cap' : Nat) (f g f' g' : Nat → Int) (w : World) (h8 : n ≤ 8) (hb : b < w.heap.size) (hb' : b' < w.heap.size)
    (hc : ∀ i, i < n → w.cell? ⟨b, off + i * 2, none⟩ = some (.int .i64 (f i)) ∧ w.cell? ⟨b, off + i * 2 + 1, none⟩ = some (.int .i64 (g i)))
    (hc' : ∀ i, i < n → w.cell? ⟨b', off' + i * 2, none⟩ = some (.int .i64 (f' i)) ∧ w.cell? ⟨b', off' + i * 2 + 1, none⟩ = some (.int .i64 (g' i)))
    (AL : Hid (Calls Try.prog 46 #[.slice (some ⟨b, off, none⟩) n cap, .slice (some ⟨b', off', none⟩) n cap'] w fun e w' => e = .returned (.bool true) ∧ Below w.heap.size w w')) :
    Calls Try.prog 18 #[.slice (some ⟨b, off, none⟩) n cap, .slice (some ⟨b', off', none⟩) n cap'] w fun e w' => e = .returned (.bool (leqN n f g f' g')) ∧ Below w.heap.size w w' := by
  go_enter Try.func18, Try.ntmps18
  go_wp2_with fail
  refine AL.out.mono ?_
  rintro e w1 ⟨rfl, hb1⟩
  go_wp2_with fail
  go_loopw [13] (fun i wr => ∃ k : Nat, k ≤ n ∧ i = .int .i64 k ∧ (∀ j, j < k → leqB (f j) (g j) (f' j) (g' j) = true) ∧ Below w.heap.size w wr) (fun i _ => n - (intOf i).toNat)
  case atStart => exact ⟨0, Nat.zero_le _, rfl, fun j h => absurd h (by omega), (by repeat' first | with_reducible exact Below.refl _ _ | with_reducible assumption | with_reducible refine below_drewN ?_ _ | with_reducible refine balloc ?_ _ | with_reducible refine Below.drew ?_ | with_reducible refine Below.setCell ?_ (by first | (simp; done) | (simp; omega) | omega) _ | with_reducible refine bstep ?_ (by assumption))⟩
  case round =>
    obtain ⟨k, hk, rfl, hpre, hbel⟩ := hrel
    have HP := hide hpre
    have HC := hide hc
    have HC' := hide hc'
    have HB := hide hbel
    by_cases hlt : k < n
    · have z1 : wr.cell? ⟨b, off + k * 2, none⟩ = some (.int .i64 (f k)) := (hbel.cell (p := ⟨b, off + k * 2, none⟩) hb).trans (hc k hlt).1
      have z2 : wr.cell? ⟨b, off + k * 2 + 1, none⟩ = some (.int .i64 (g k)) := (hbel.cell (p := ⟨b, off + k * 2 + 1, none⟩) hb).trans (hc k hlt).2
      have hlt' : (k : Int) < (n : Int) := by omega
      have l2 : b' < wr.heap.size := Nat.lt_of_lt_of_le hb' hbel.size
      have hal := balloc (Below.refl wr.heap.size wr) (.cells #[.int .i64 (f k), .int .i64 (g k)] 64)
      have z3 : (wr.alloc (.cells #[.int .i64 (f k), .int .i64 (g k)] 64)).cell? ⟨b', off' + k * 2, none⟩ = some (.int .i64 (f' k)) := ((hal.cell (p := ⟨b', off' + k * 2, none⟩) l2).trans (hbel.cell (p := ⟨b', off' + k * 2, none⟩) hb')).trans (hc' k hlt).1
      have z4 : (wr.alloc (.cells #[.int .i64 (f k), .int .i64 (g k)] 64)).cell? ⟨b', off' + k * 2 + 1, none⟩ = some (.int .i64 (g' k)) := ((hal.cell (p := ⟨b', off' + k * 2 + 1, none⟩) l2).trans (hbel.cell (p := ⟨b', off' + k * 2 + 1, none⟩) hb')).trans (hc' k hlt).2
      have R := hide (iRangeLeq_any (f k) (g k) (f' k) (g' k))
      clear hpre hbel hc hc' hal
      obtain ⟨v, hv⟩ : ∃ v, leqB (f k) (g k) (f' k) (g' k) = v := ⟨_, rfl⟩
      have HE := hide hv
      rw [hv] at R
      clear hv
      have l3 : b' < (wr.alloc (.cells #[.int .i64 (f k), .int .i64 (g k)] 64)).heap.size := by simp; omega
      go_upto_region 6 with fail
      go_region_held3 (fun w' => w'.cell? ⟨wr.heap.size, 0, none⟩ = some (.int .i64 (f k)) ∧ w'.cell? ⟨wr.heap.size, 1, none⟩ = some (.int .i64 (g k)) ∧ w'.cell? ⟨b', off' + k * 2, none⟩ = some (.int .i64 (f' k)) ∧ w'.cell? ⟨b', off' + k * 2 + 1, none⟩ = some (.int .i64 (g' k))) (refine ⟨?_, ?_, ?_, ?_⟩ <;> first | assumption | (simp [go_sem]; done)) ((go_at_call 47; refine (R.out _).mono ?_; rintro e wn ⟨rfl, hbn⟩; have s1 : wn.cell? ⟨wr.heap.size, 0, none⟩ = some (.int .i64 (f k)) := (hbn.cell (p := ⟨wr.heap.size, 0, none⟩) (by simp)).trans (by simp [go_sem]); have s2 : wn.cell? ⟨wr.heap.size, 1, none⟩ = some (.int .i64 (g k)) := (hbn.cell (p := ⟨wr.heap.size, 1, none⟩) (by simp)).trans (by simp [go_sem]); have s3 := (hbn.cell (p := ⟨b', off' + k * 2, none⟩) l3).trans z3; have s4 := (hbn.cell (p := ⟨b', off' + k * 2 + 1, none⟩) l3).trans z4))
      all_goals
        cases v
        · go_wp2_with fail
          go_ret
          refine ⟨by rw [show leqN n f g f' g' = false from allN_no hlt HE.out]; rfl, ?_⟩
          have hbel := HB.out
          exact (by repeat' first | with_reducible exact Below.refl _ _ | with_reducible assumption | with_reducible refine below_drewN ?_ _ | with_reducible refine balloc ?_ _ | with_reducible refine Below.drew ?_ | with_reducible refine Below.setCell ?_ (by first | (simp; done) | (simp; omega) | omega) _ | with_reducible refine bstep ?_ (by assumption))
        · go_wp2_with fail
          go_roundw
          case rel =>
            have hbel := HB.out
            exact ⟨k + 1, by omega, by go_num, fun j hj => (by rcases Nat.lt_succ_iff_lt_or_eq.1 hj with h | h; exact HP.out j h; rw [h]; exact HE.out), (by repeat' first | with_reducible exact Below.refl _ _ | with_reducible assumption | with_reducible refine below_drewN ?_ _ | with_reducible refine balloc ?_ _ | with_reducible refine Below.drew ?_ | with_reducible refine Below.setCell ?_ (by first | (simp; done) | (simp; omega) | omega) _ | with_reducible refine bstep ?_ (by assumption))⟩
          case measure => simp [intOf]; omega
    · clear hpre hbel hc hc'
      go_wp2_with fail
      go_ret
      exact ⟨by rw [show leqN n f g f' g' = true from allN_yes fun j hj => HP.out j (by omega)]; rfl, HB.out⟩

def boxLeqB (n : Nat) (f g : Nat → Int) (n' : Nat) (f' g' : Nat → Int) : Bool := alikeB n f g n' f' g' && leqN n f g f' g'

set_option maxHeartbeats 800000 in
theorem iBoxLeq_any (a a' : Option Addr) (n cap n' cap' : Nat) (f g f' g' : Nat → Int) (w : World) (h : PRow w a n f g) (h' : PRow w a' n' f' g') :
    Calls Try.prog 18 #[.slice a n cap, .slice a' n' cap'] w fun e w' => e = .returned (.bool (boxLeqB n f g n' f' g')) ∧ Below w.heap.size w w' := by
  have AL := hide (boxesAlike_any a a' n cap n' cap' f g f' g' w h h')
  unfold boxLeqB
  cases hA : alikeB n f g n' f' g'
  · rw [hA] at AL
    simp only [Bool.and_true, Bool.and_false, Bool.true_and, Bool.false_and]
    clear h h'
    go_enter Try.func18, Try.ntmps18
    go_wp2_with fail
    refine AL.out.mono ?_
    rintro e w1 ⟨rfl, hb1⟩
    go_wp2_with fail
    go_ret
    exact ⟨rfl, (by repeat' first | with_reducible exact Below.refl _ _ | with_reducible assumption | with_reducible refine below_drewN ?_ _ | with_reducible refine balloc ?_ _ | with_reducible refine Below.drew ?_ | with_reducible refine Below.setCell ?_ (by first | (simp; done) | (simp; omega) | omega) _ | with_reducible refine bstep ?_ (by assumption))⟩
  · rw [hA] at AL
    rw [Bool.true_and]
    simp only [alikeB, Bool.and_eq_true, decide_eq_true_eq] at hA
    obtain ⟨⟨h1, h2⟩, rfl⟩ := hA
    have hn := boxB_num h1
    rcases h.lies with q | ⟨b, off, rfl, lt, hc⟩
    · omega
    · rcases h'.lies with q | ⟨b', off', rfl, lt', hc'⟩
      · omega
      · exact iBoxLeq_some b off n cap b' off' cap' f g f' g' w hn.2 lt lt' hc hc' AL
end Go.Proofs.Ytoiaamcnmpdglaa

/- eqRangeS of the laws. -/
namespace Go.Proofs.Ytoiaamcnmpdglaa
open Go.RowKit
set_option maxRecDepth 8000
set_option linter.unusedSimpArgs false
set_option linter.unusedVariables false









end Go.Proofs.Ytoiaamcnmpdglaa