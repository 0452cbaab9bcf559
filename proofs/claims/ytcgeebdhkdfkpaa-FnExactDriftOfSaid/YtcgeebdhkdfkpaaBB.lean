/- Rows of ranges of the call's own; contracts of the laws' small functions over them: szRangeS, toRangeS, eqRangeS. -/
import Derived.Test.YtcgeebdhkdfkpaaBA
import Derived.Test.YtcgeebdhkdfkpaaWT
import Derived.Deep.RegionHeld3
import Derived.Deep.Slices
namespace Go.Proofs.Ytcgeebdhkdfkpaa
open Go.RowKit
set_option maxRecDepth 8000
set_option linter.unusedSimpArgs false
set_option linter.unusedVariables false

theorem Try.infoRange : (Try.prog.info? 42).map (fun i => (i.zero, i.size, i.bytes)) = some (some (.agg #[.int .i64 0, .int .i64 0]), 2, 16) := by kernel_rfl

/-- A row of ranges of the call's own, that may be written. -/
def OwnP (w : World) (b n : Nat) (f g : Nat → Int) : Prop := w.rowIs b 42 (n * 2) (pcell f g)

theorem OwnP.lt {w : World} {b n : Nat} {f g : Nat → Int} (h : OwnP w b n f g) : b < w.heap.size := World.rowIs.lt h

theorem OwnP.c0 {w : World} {b n : Nat} {f g : Nat → Int} (h : OwnP w b n f g) {i : Nat} (hi : i < n) : w.cell? ⟨b, i * 2, none⟩ = some (.int .i64 (f i)) := by
  rw [World.rowIs.cell h (show i * 2 < n * 2 by omega), pcell_lo]

theorem OwnP.c1 {w : World} {b n : Nat} {f g : Nat → Int} (h : OwnP w b n f g) {i : Nat} (hi : i < n) : w.cell? ⟨b, i * 2 + 1, none⟩ = some (.int .i64 (g i)) := by
  rw [World.rowIs.cell h (show i * 2 + 1 < n * 2 by omega), pcell_hi]

theorem OwnP.prow {w : World} {b n : Nat} {f g : Nat → Int} (h : OwnP w b n f g) : PRow w (some ⟨b, 0, none⟩) n f g :=
  ⟨.inr ⟨b, 0, rfl, h.lt, fun i hi => by rw [Nat.zero_add]; exact ⟨h.c0 hi, h.c1 hi⟩⟩⟩

theorem OwnP.below {w w' : World} {b n : Nat} {f g : Nat → Int} (h : OwnP w b n f g) (hb : Below w.heap.size w w') : OwnP w' b n f g := World.rowIs.of_block h (hb.block b (World.rowIs.lt h))

theorem OwnP.congr {w : World} {b n : Nat} {f g f' g' : Nat → Int} (h : OwnP w b n f g) (hf : ∀ i, i < n → f i = f' i) (hg : ∀ i, i < n → g i = g' i) : OwnP w b n f' g' := by
  refine World.rowIs.congr h fun j hj => ?_
  unfold pcell
  rw [hf (j / 2) (by omega), hg (j / 2) (by omega)]

theorem OwnP.made (w : World) (n : Nat) : OwnP (w.alloc (.cells (madeCells #[.int .i64 0, .int .i64 0] (n * 2)) 42)) w.heap.size n (fun _ => 0) (fun _ => 0) := by
  refine ⟨_, Go.Deep.blk_alloc_new _ _, size_madeCells _ _, fun i hi => ?_⟩
  rcases (show i % 2 = 0 ∨ i % 2 = 1 by omega) with h | h <;> simp [madeCells, hi, h, pcell]

theorem OwnP.set {w : World} {b n : Nat} {f g : Nat → Int} (h : OwnP w b n f g) (k : Nat) (x y : Int) :
    OwnP ((w.setCell ⟨b, k * 2, none⟩ (.int .i64 x)).setCell ⟨b, k * 2 + 1, none⟩ (.int .i64 y)) b n (fun i => if i = k then x else f i) (fun i => if i = k then y else g i) := by
  refine (World.rowIs.set (World.rowIs.set h (k * 2) _) (k * 2 + 1) _).congr fun j hj => ?_
  unfold pcell
  dsimp only
  rcases (show j % 2 = 0 ∨ j % 2 = 1 by omega) with h | h
  · rw [if_neg (show ¬ j = k * 2 + 1 by omega)]
    by_cases e : j = k * 2
    · rw [if_pos e, if_pos h, if_pos (show j / 2 = k by omega)]
    · rw [if_neg e, if_pos h, if_pos h, if_neg (show ¬ j / 2 = k by omega)]
  · by_cases e : j = k * 2 + 1
    · rw [if_pos e, if_neg (by omega), if_pos (show j / 2 = k by omega)]
    · rw [if_neg e, if_neg (by omega), if_neg (by omega), if_neg (by omega), if_neg (show ¬ j / 2 = k by omega)]

theorem OwnP.step {w : World} {b n k : Nat} {f g : Nat → Int} (h : OwnP w b n (upTo k f) (upTo k g)) :
    OwnP ((w.setCell ⟨b, k * 2, none⟩ (.int .i64 (f k))).setCell ⟨b, k * 2 + 1, none⟩ (.int .i64 (g k))) b n (upTo (k + 1) f) (upTo (k + 1) g) := by
  refine (h.set k (f k) (g k)).congr (fun i _ => ?_) (fun i _ => ?_)
  all_goals
    unfold upTo
    by_cases e : i = k
    · subst e; simp
    · by_cases l : i < k
      · simp [e, l, show i < k + 1 by omega]
      · simp [e, l, show ¬ i < k + 1 by omega]

set_option maxHeartbeats 400000 in
theorem szRangeS_any (a : Option Addr) (n cap : Nat) (left : Int) (w : World) (h0 : 0 ≤ left) (h1 : left ≤ 1048576) (hn : n ≤ 9223372036854775807) :
    Calls Try.prog 4 #[.slice a n cap, .int .i64 left] w fun e w' => e = .returned (.int .i64 (if left - (n : Int) < 0 then -1 else left - (n : Int))) ∧ w' = w := by
  by_cases h : left - (n : Int) < 0
  · rw [if_pos h]
    go_enter Try.func4, Try.ntmps4
    go_wp2
    go_ret
    exact ⟨rfl, rfl⟩
  · rw [if_neg h]
    go_enter Try.func4, Try.ntmps4
    go_wp2
    go_ret
    exact ⟨rfl, rfl⟩

def ToRs (w : World) (n : Nat) (f g : Nat → Int) (e : Ending) (w' : World) : Prop :=
  ∃ b, e = .returned (.slice (some ⟨b, 0, none⟩) n n) ∧ w.heap.size ≤ b ∧ OwnP w' b n f g ∧ Below w.heap.size w w'

set_option maxHeartbeats 800000 in
theorem toRangeS_some (b off n cap : Nat) (f g : Nat → Int) (w : World) (hn : n ≤ 1048576) (hb : b < w.heap.size) (hc : ∀ i, i < n → w.cell? ⟨b, off + i * 2, none⟩ = some (.int .i64 (f i)) ∧ w.cell? ⟨b, off + i * 2 + 1, none⟩ = some (.int .i64 (g i))) :
    Calls Try.prog 7 #[.slice (some ⟨b, off, none⟩) n cap] w fun e w' => ToRs w n f g e w' := by
  have hmk := run_make_pairs (P := Try.prog) 27 42 (.int .i64 0) (.int .i64 0) 16 Try.underlying27 Try.infoRange .i64 .i64 n (by omega) (by omega)
  go_enter Try.func7, Try.ntmps7
  go_wp2
  go_loopw [4] (fun i wr => ∃ k : Nat, k ≤ n ∧ i = .int .i64 k ∧ OwnP wr w.heap.size n (upTo k f) (upTo k g) ∧ Below w.heap.size w wr) (fun i _ => n - (intOf i).toNat)
  case atStart =>
    exact ⟨0, Nat.zero_le _, rfl, (OwnP.made w n).congr (fun j _ => by simp [upTo]) (fun j _ => by simp [upTo]), (by repeat' first | with_reducible exact Below.refl _ _ | with_reducible assumption | with_reducible refine below_drewN ?_ _ | with_reducible refine balloc ?_ _ | with_reducible refine Below.drew ?_ | with_reducible refine Below.setCell ?_ (by first | (simp; done) | (simp; omega) | omega) _ | with_reducible refine bstep ?_ (by assumption))⟩
  case round =>
    obtain ⟨k, hk, rfl, hrow, hbel⟩ := hrel
    by_cases hlt : k < n
    · have z1 : wr.cell? ⟨b, off + k * 2, none⟩ = some (.int .i64 (f k)) := (hbel.cell (p := ⟨b, off + k * 2, none⟩) hb).trans (hc k hlt).1
      have z2 : wr.cell? ⟨b, off + k * 2 + 1, none⟩ = some (.int .i64 (g k)) := (hbel.cell (p := ⟨b, off + k * 2 + 1, none⟩) hb).trans (hc k hlt).2
      have R := hide (toRange_any (f k) (g k))
      have HR := hide hrow
      have HB := hide hbel
      have HC := hide hc
      clear hrow hbel hc
      go_wp2_with fail
      refine (R.out _).mono ?_
      rintro e wn ⟨rfl, hbn⟩
      have HR := hide (HR.out.below hbn)
      have y0 := HR.out.c0 hlt
      have y1 := HR.out.c1 hlt
      have y2 := World.rowIs.frozen HR.out (k * 2)
      have y3 := World.rowIs.frozen HR.out (k * 2 + 1)
      go_wp2_with fail
      go_roundw
      case rel =>
        have hbel := HB.out
        exact ⟨k + 1, by omega, by go_num, HR.out.step, (by repeat' first | with_reducible exact Below.refl _ _ | with_reducible assumption | with_reducible refine below_drewN ?_ _ | with_reducible refine balloc ?_ _ | with_reducible refine Below.drew ?_ | with_reducible refine Below.setCell ?_ (by first | (simp; done) | (simp; omega) | omega) _ | with_reducible refine bstep ?_ (by assumption))⟩
      case measure => simp [intOf]; omega
    · go_wp2
      go_ret
      exact ⟨_, rfl, Nat.le_refl _, hrow.congr (fun j hj => by rw [upTo, if_pos (by omega)]) (fun j hj => by rw [upTo, if_pos (by omega)]), hbel⟩

set_option maxHeartbeats 400000 in
theorem toRangeS_none (a : Option Addr) (n cap : Nat) (f g : Nat → Int) (w : World) (hn : n < 1) :
    Calls Try.prog 7 #[.slice a n cap] w fun e w' => ToRs w n f g e w' := by
  have hmk := run_make_pairs (P := Try.prog) 27 42 (.int .i64 0) (.int .i64 0) 16 Try.underlying27 Try.infoRange .i64 .i64 n (by omega) (by omega)
  go_enter Try.func7, Try.ntmps7
  go_wp2
  refine wp_loop_rounds 1 ?_
  rw [rounds_succ]
  go_wp2
  go_ret
  exact ⟨_, rfl, Nat.le_refl _, (OwnP.made w n).congr (fun j hj => absurd hj (by omega)) (fun j hj => absurd hj (by omega)), (by repeat' first | with_reducible exact Below.refl _ _ | with_reducible assumption | with_reducible refine below_drewN ?_ _ | with_reducible refine balloc ?_ _ | with_reducible refine Below.drew ?_ | with_reducible refine Below.setCell ?_ (by first | (simp; done) | (simp; omega) | omega) _ | with_reducible refine bstep ?_ (by assumption))⟩

theorem toRangeS_any (a : Option Addr) (n cap : Nat) (f g : Nat → Int) (w : World) (h : PRow w a n f g) (hn : n ≤ 1048576) :
    Calls Try.prog 7 #[.slice a n cap] w fun e w' => ToRs w n f g e w' := by
  rcases h.lies with h0 | ⟨b, off, rfl, lt, hc⟩
  · exact toRangeS_none a n cap f g w (by omega)
  · exact toRangeS_some b off n cap f g w hn lt hc
end Go.Proofs.Ytcgeebdhkdfkpaa
