/- The laws' small functions over items: szInt64S, szItem, szItemS, toItem, toItemS, eqItem, eqItemS. -/
import Derived.Test.YtgckhnnkphlciaaDoorSZI
import Derived.Test.YtgckhnnkphlciaaDoorIA
import Derived.Test.YtgckhnnkphlciaaDoorVA
namespace Go.Proofs.YtgckhnnkphlciaaDoor
open Go.RowKit
set_option maxRecDepth 8000
set_option linter.unusedSimpArgs false
set_option linter.unusedVariables false

theorem Tryd.infoItem : (Tryd.prog.info? 27).map (fun i => (i.zero, i.size, i.bytes)) = some (some (.agg #[.int .i64 0, .int .i64 0, .slice none 0 0]), 3, 40) := by kernel_rfl

set_option maxHeartbeats 400000 in
theorem szItem_any (x y : Int) (a : Option Addr) (n cap : Nat) (left : Int) (w : World) (h0 : 0 ≤ left) (h1 : left ≤ 1048576) (hn : n ≤ 9223372036854775807) :
    Calls Tryd.prog 7 #[.agg #[.int .i64 x, .int .i64 y, .slice a n cap], .int .i64 left] w fun e w' => e = .returned (.int .i64 (szN left n)) ∧ Below w.heap.size w w' := by
  have R := hide (fun w1 => szInts_any a n cap left w1 h0 h1 hn)
  unfold szN at R ⊢
  by_cases h : left - (n : Int) < 0
  · rw [if_pos h]
    simp only [if_pos h] at R
    go_enter Tryd.func7, Tryd.ntmps7
    go_wp2_with fail
    refine (R.out _).mono ?_
    rintro e w1 ⟨rfl, rfl⟩
    go_wp2_with fail
    go_ret
    exact ⟨rfl, (by repeat' first | with_reducible exact Below.refl _ _ | with_reducible assumption | with_reducible refine below_drewN ?_ _ | with_reducible refine balloc ?_ _ | with_reducible refine Below.drew ?_ | with_reducible refine Below.setCell ?_ (by first | (simp; done) | (simp; omega) | omega) _ | with_reducible refine bstep ?_ (by assumption))⟩
  · rw [if_neg h]
    simp only [if_neg h] at R
    go_enter Tryd.func7, Tryd.ntmps7
    go_wp2_with fail
    refine (R.out _).mono ?_
    rintro e w1 ⟨rfl, rfl⟩
    go_wp2_with fail
    go_ret
    exact ⟨rfl, (by repeat' first | with_reducible exact Below.refl _ _ | with_reducible assumption | with_reducible refine below_drewN ?_ _ | with_reducible refine balloc ?_ _ | with_reducible refine Below.drew ?_ | with_reducible refine Below.setCell ?_ (by first | (simp; done) | (simp; omega) | omega) _ | with_reducible refine bstep ?_ (by assumption))⟩

/-- How many numbers the first k vectors have. -/
def sumV (L : IL) : Nat → Nat
  | 0 => 0
  | k + 1 => sumV L k + (L k).vec.length

theorem sumV_mono (L : IL) {j k : Nat} (h : j ≤ k) : sumV L j ≤ sumV L k := by
  induction k with
  | zero => rw [show j = 0 by omega]; exact Nat.le_refl _
  | succ k ih =>
    by_cases e : j = k + 1
    · subst e; exact Nat.le_refl _
    · have := ih (by omega); show sumV L j ≤ sumV L k + _; omega

theorem sumV_at (L : IL) {j k : Nat} (h : j < k) : (L j).vec.length ≤ sumV L k := by
  have := sumV_mono L (show j + 1 ≤ k by omega)
  have e : sumV L (j + 1) = sumV L j + (L j).vec.length := rfl
  omega



/-- A box of three cells that may be written. -/
structure Tri (w : World) (b : Nat) (x y z : Value) : Prop where
  lt : b < w.heap.size
  c0 : w.cell? ⟨b, 0, none⟩ = some x
  c1 : w.cell? ⟨b, 1, none⟩ = some y
  c2 : w.cell? ⟨b, 2, none⟩ = some z
  f0 : w.frozen? ⟨b, 0, none⟩ = false
  f1 : w.frozen? ⟨b, 1, none⟩ = false
  f2 : w.frozen? ⟨b, 2, none⟩ = false

theorem Tri.below {w w' : World} {b : Nat} {x y z : Value} (h : Tri w b x y z) (hb : Below w.heap.size w w') : Tri w' b x y z :=
  ⟨Nat.lt_of_lt_of_le h.lt hb.size, (hb.cell (p := ⟨b, 0, none⟩) h.lt).trans h.c0, (hb.cell (p := ⟨b, 1, none⟩) h.lt).trans h.c1, (hb.cell (p := ⟨b, 2, none⟩) h.lt).trans h.c2,
    (hb.frozen (p := ⟨b, 0, none⟩) h.lt).trans h.f0, (hb.frozen (p := ⟨b, 1, none⟩) h.lt).trans h.f1, (hb.frozen (p := ⟨b, 2, none⟩) h.lt).trans h.f2⟩

theorem Tri.alloc {w : World} {b : Nat} {x y z : Value} (h : Tri w b x y z) (o : Obj) : Tri (w.alloc o) b x y z := h.below (balloc (Below.refl _ _) o)

theorem Tri.new (w : World) (x y z : Value) (T : TypeId) : Tri (w.alloc (.cells #[x, y, z] T)) w.heap.size x y z := ⟨by simp, by simp, by simp, by simp, by simp, by simp, by simp⟩

theorem Tri.newAt (w : World) (x y z : Value) (T : TypeId) (b : Nat) (hb : w.heap.size = b) : Tri (w.alloc (.cells #[x, y, z] T)) b x y z := hb ▸ Tri.new w x y z T

theorem Tri.drew {w : World} {b : Nat} {x y z : Value} (h : Tri w b x y z) : Tri w.drew b x y z := ⟨h.lt, h.c0, h.c1, h.c2, h.f0, h.f1, h.f2⟩

theorem Own.away {w : World} {g : Nat} {xs : List Int} (h : Own w g xs) (p : Addr) (v : Value) (hp : g ≠ p.block) : Own (w.setCell p v) g xs := World.rowIs.of_block h (Below.heap_setCell w p v g hp)

def ToI (w : World) (x : It) (e : Ending) (w' : World) : Prop :=
  ∃ g, e = .returned (.agg #[.int .i64 x.id, .int .i64 x.tags, .slice (some ⟨g, 0, none⟩) x.vec.length x.vec.length]) ∧ w.heap.size ≤ g ∧ Own w' g x.vec ∧ Below w.heap.size w w'

set_option maxHeartbeats 1600000 in
theorem toItem_any (x : It) (a : Option Addr) (n cap : Nat) (w : World) (h : Row w a n x.vec) (hn : n ≤ 1048576) :
    Calls Tryd.prog 9 #[.agg #[.int .i64 x.id, .int .i64 x.tags, .slice a n cap]] w fun e w' => ToI w x e w' := by
  have R := hide (fun w1 (hb : Below w.heap.size w w1) => toInts_any a n cap x.vec w1 (h.below hb) hn)
  have hl := h.len
  clear h
  obtain ⟨x0, x1, xs⟩ := x
  dsimp only at R hl ⊢
  subst hl
  go_enter Tryd.func9, Tryd.ntmps9
  go_wp2_with fail
  refine (R.out _ (by repeat' first | with_reducible exact Below.refl _ _ | with_reducible assumption | with_reducible refine below_drewN ?_ _ | with_reducible refine balloc ?_ _ | with_reducible refine Below.drew ?_ | with_reducible refine Below.setCell ?_ (by first | (simp; done) | (simp; omega) | omega) _ | with_reducible refine bstep ?_ (by assumption))).mono ?_
  rintro e w1 ⟨b1, rfl, l1, o1, hb1⟩
  simp at l1
  have t1 := (((Tri.newAt (w.alloc _) (.int .i64 0) (.int .i64 0) (.slice none 0 0) 27 (w.heap.size + 1) (by simp)).alloc _).below hb1)
  have t2 := ((Tri.newAt ((w.alloc _).alloc _) (.int .i64 x0) (.int .i64 x1) (.slice none 0 0) 27 (w.heap.size + 1 + 1) (by simp)).below hb1)
  obtain ⟨q0, q1, q2, q3, q4, q5, q6⟩ := t1
  obtain ⟨p0, p1, p2, p3, p4, p5, p6⟩ := t2
  go_wp2_with fail
  refine bodyPost_ret (v := .agg #[.int .i64 x0, .int .i64 x1, .slice (some ⟨b1, 0, none⟩) xs.length xs.length]) ?_ rfl ⟨b1, rfl, by omega, ?_, ?_⟩
  · simp [results, Tryd.results9, go_sem, q1, q2, q3]
  · exact (((o1.away _ _ (by simp; omega)).away _ _ (by simp; omega)).away _ _ (by simp; omega)).away _ _ (by simp; omega)
  · exact (by repeat' first | with_reducible exact Below.refl _ _ | with_reducible assumption | with_reducible refine below_drewN ?_ _ | with_reducible refine balloc ?_ _ | with_reducible refine Below.drew ?_ | with_reducible refine Below.setCell ?_ (by first | (simp; done) | (simp; omega) | omega) _ | with_reducible refine bstep ?_ (by assumption))

/-- Of the loop of toItemS behind k rounds. -/
def upI (k : Nat) (L : IL) : IL := fun i => if i < k then L i else ⟨0, 0, []⟩
def upS (k : Nat) (sv : Nat → Value) : Nat → Value := fun i => if i < k then sv i else .slice none 0 0

theorem upI_put (k : Nat) (L : IL) : (upI k L).put k (L k) = upI (k + 1) L := by
  funext i
  unfold IL.put upI
  by_cases e : i = k
  · subst e; simp
  · by_cases l : i < k
    · simp [e, l, show i < k + 1 by omega]
    · simp [e, l, show ¬ i < k + 1 by omega]
/-- An item is put in its place. -/
theorem Arr.item {w : World} {g m k : Nat} {L : IL} {sv : Nat → Value} (h : Arr w g m (icell L sv)) (x : It) (v : Value) :
    Arr (((w.setCell ⟨g, k * 3, none⟩ (.int .i64 x.id)).setCell ⟨g, k * 3 + 1, none⟩ (.int .i64 x.tags)).setCell ⟨g, k * 3 + 2, none⟩ v) g m (icell (L.put k x) (fun i => if i = k then v else sv i)) := by
  refine (((h.set (k * 3) _).set (k * 3 + 1) _).set (k * 3 + 2) _).congr fun j hj => ?_
  unfold icell IL.put
  rcases (show j % 3 = 0 ∨ j % 3 = 1 ∨ j % 3 = 2 by omega) with h | h | h
  · simp only [h, if_true]
    rw [if_neg (show ¬ j = k * 3 + 2 by omega), if_neg (show ¬ j = k * 3 + 1 by omega)]
    by_cases e : j = k * 3
    · rw [if_pos e, if_pos (show j / 3 = k by omega)]
    · rw [if_neg e, if_neg (show ¬ j / 3 = k by omega)]
  · simp only [h]
    rw [if_neg (show ¬ j = k * 3 + 2 by omega)]
    by_cases e : j = k * 3 + 1
    · rw [if_pos e, if_pos (show j / 3 = k by omega)]; simp
    · rw [if_neg e, if_neg (show ¬ j = k * 3 by omega), if_neg (show ¬ j / 3 = k by omega)]; simp
  · simp only [h]
    by_cases e : j = k * 3 + 2
    · rw [if_pos e]; simp [show j / 3 = k by omega]
    · rw [if_neg e, if_neg (show ¬ j = k * 3 + 1 by omega), if_neg (show ¬ j = k * 3 by omega)]; simp [show ¬ j / 3 = k by omega]

/-- The answer of toItemS, and of whoever builds items of the call's own. -/
def ToIs (w : World) (n : Nat) (L : IL) (e : Ending) (w' : World) : Prop :=
  ∃ a cap g V sv, e = .returned (.slice a n cap) ∧ Its w' w.heap.size w'.heap.size a n L g V sv ∧ Below w.heap.size w w'
/-- The same, with no room behind. -/
def ToIsN (w : World) (n : Nat) (L : IL) (e : Ending) (w' : World) : Prop :=
  ∃ a g V sv, e = .returned (.slice a n n) ∧ Its w' w.heap.size w'.heap.size a n L g V sv ∧ Below w.heap.size w w'
/-- The same, and where it lies. -/
def ToIsG (w : World) (n : Nat) (L : IL) (e : Ending) (w' : World) : Prop :=
  ∃ g V sv, e = .returned (.slice (some ⟨g, 0, none⟩) n n) ∧ g < w'.heap.size ∧ Its w' w.heap.size w'.heap.size (some ⟨g, 0, none⟩) n L g V sv ∧ Below w.heap.size w w'

theorem ToIsG.any {w : World} {n : Nat} {L : IL} {e : Ending} {w' : World} (h : ToIsG w n L e w') : ToIsN w n L e w' := by
  obtain ⟨g, V, sv, he, _, hi, hb⟩ := h
  exact ⟨_, g, V, sv, he, hi, hb⟩

theorem ToIsN.any {w : World} {n : Nat} {L : IL} {e : Ending} {w' : World} (h : ToIsN w n L e w') : ToIs w n L e w' := by
  obtain ⟨a, g, V, sv, he, hi, hb⟩ := h
  exact ⟨a, n, g, V, sv, he, hi, hb⟩

def putF {α : Type} (f : Nat → α) (k : Nat) (x : α) : Nat → α := fun i => if i = k then x else f i

theorem putF_at {α : Type} (f : Nat → α) (k : Nat) (x : α) : putF f k x k = x := by simp [putF]

theorem putF_off {α : Type} (f : Nat → α) {k i : Nat} (x : α) (h : i ≠ k) : putF f k x i = f i := by simp [putF, h]

/-- The vectors of the first k items: slices sv in blocks V of their own, none of them g. -/
structure Vecs (w : World) (B k : Nat) (M : IL) (V : Nat → Nat) (sv : Nat → Value) (g : Nat) : Prop where
  vec : ∀ i, i < k → VSl w B w.heap.size (sv i) (M i).vec (V i)
  sep : ∀ i, i < k → (M i).vec.length ≠ 0 → V i ≠ g ∧ ∀ j, j < k → j ≠ i → (M j).vec.length ≠ 0 → V j ≠ V i

theorem VSl.lt {w : World} {B C : Nat} {v : Value} {xs : List Int} {b : Nat} (h : VSl w B C v xs b) (h0 : xs.length ≠ 0) : B ≤ b ∧ b < C ∧ b < w.heap.size := by
  obtain ⟨a, c, e, h1 | ⟨rfl, k1, k2, ha⟩⟩ := h
  · exact absurd h1 h0
  · exact ⟨k1, k2, ha.lt⟩

theorem Vecs.zero (w : World) (B : Nat) (M : IL) (V : Nat → Nat) (sv : Nat → Value) (g : Nat) : Vecs w B 0 M V sv g := ⟨fun i hi => absurd hi (by omega), fun i hi => absurd hi (by omega)⟩
/-- Block g alone was written. -/
theorem Vecs.row {w w' : World} {B k : Nat} {M : IL} {V : Nat → Nat} {sv : Nat → Value} {g : Nat} (h : Vecs w B k M V sv g) (hs : w.heap.size ≤ w'.heap.size) (hb : ∀ i, i < w.heap.size → i ≠ g → w'.heap[i]? = w.heap[i]?) : Vecs w' B k M V sv g := by
  refine ⟨fun i hi => ?_, h.sep⟩
  obtain ⟨a, c, e, h1 | ⟨rfl, k1, k2, ha⟩⟩ := h.vec i hi
  · exact ⟨a, c, e, .inl h1⟩
  · by_cases h0 : (M i).vec.length = 0
    · exact ⟨_, c, e, .inl h0⟩
    · exact ⟨_, c, e, .inr ⟨rfl, k1, by omega, ha.block (hb _ ha.lt (h.sep i hi h0).1)⟩⟩

theorem Vecs.below {w w' : World} {B k : Nat} {M : IL} {V : Nat → Nat} {sv : Nat → Value} {g : Nat} (h : Vecs w B k M V sv g) (hb : Below w.heap.size w w') : Vecs w' B k M V sv g := h.row hb.size fun i hi _ => hb.block i hi
/-- The row lies in a new block. -/
theorem Vecs.move {w : World} {B k : Nat} {M : IL} {V : Nat → Nat} {sv : Nat → Value} {g g' : Nat} (h : Vecs w B k M V sv g) (hg : w.heap.size ≤ g') : Vecs w B k M V sv g' :=
  ⟨h.vec, fun i hi h0 => ⟨by have := ((h.vec i hi).lt h0).2.2; omega, (h.sep i hi h0).2⟩⟩

theorem Vecs.congr {w : World} {B k : Nat} {M N : IL} {V V' : Nat → Nat} {sv sv' : Nat → Value} {g : Nat} (h : Vecs w B k M V sv g) (e : ∀ i, i < k → M i = N i) (e1 : ∀ i, i < k → V i = V' i) (e2 : ∀ i, i < k → sv i = sv' i) : Vecs w B k N V' sv' g := by
  refine ⟨fun i hi => ?_, fun i hi h0 => ?_⟩
  · rw [← e i hi, ← e1 i hi, ← e2 i hi]; exact h.vec i hi
  · rw [← e i hi] at h0
    obtain ⟨h1, h2⟩ := h.sep i hi h0
    rw [← e1 i hi]
    refine ⟨h1, fun j hj hne hj0 => ?_⟩
    rw [← e j hj] at hj0
    rw [← e1 j hj]
    exact h2 j hj hne hj0
/-- One more. -/
theorem Vecs.step {w w1 : World} {B k : Nat} {M : IL} {V : Nat → Nat} {sv : Nat → Value} {g : Nat} (h : Vecs w B k M V sv g) (hb : Below w.heap.size w w1) (hB : B ≤ w.heap.size) (hg : g < w.heap.size) (x : It) (v : Value) (gv : Nat) (hv : VSl w1 w.heap.size w1.heap.size v x.vec gv) :
    Vecs w1 B (k + 1) (M.put k x) (putF V k gv) (putF sv k v) g := by
  have h' := h.below hb
  refine ⟨fun i hi => ?_, fun i hi h0 => ?_⟩
  · by_cases e : i = k
    · subst e
      rw [IL.put_at, putF_at, putF_at]
      exact hv.mono hB (Nat.le_refl _)
    · rw [IL.put_off _ _ e, putF_off _ _ e, putF_off _ _ e]
      exact h'.vec i (by omega)
  · by_cases e : i = k
    · subst e
      rw [IL.put_at] at h0
      rw [putF_at]
      have := (hv.lt h0).1
      refine ⟨by omega, fun j hj hne hj0 => ?_⟩
      rw [IL.put_off _ _ hne] at hj0
      rw [putF_off _ _ hne]
      have := ((h.vec j (by omega)).lt hj0).2.2
      omega
    · rw [IL.put_off _ _ e] at h0
      rw [putF_off _ _ e]
      refine ⟨(h.sep i (by omega) h0).1, fun j hj hne hj0 => ?_⟩
      by_cases ej : j = k
      · subst ej
        rw [IL.put_at] at hj0
        rw [putF_at]
        have := (hv.lt hj0).1
        have := ((h.vec i (by omega)).lt h0).2.2
        omega
      · rw [IL.put_off _ _ ej] at hj0
        rw [putF_off _ _ ej]
        exact (h.sep i (by omega) h0).2 j (by omega) hne hj0

theorem Vecs.its {w : World} {B n : Nat} {M : IL} {V : Nat → Nat} {sv : Nat → Value} {g : Nat} (h : Vecs w B n M V sv g) (hB : B ≤ g) (ha : Arr w g (n * 3) (icell M sv)) : Its w B w.heap.size (some ⟨g, 0, none⟩) n M g V sv :=
  ⟨.inr ⟨rfl, hB, ha.lt, ha⟩, h.vec, h.sep⟩

theorem Arr.items {w : World} (n : Nat) (t : TypeId) : Arr (w.alloc (.cells (madeCells #[.int .i64 0, .int .i64 0, .slice none 0 0] (n * 3)) t)) w.heap.size (n * 3) (icell (upI 0 (fun _ => ⟨0, 0, []⟩)) (fun _ => .slice none 0 0)) := by
  refine ⟨_, t, Go.Deep.blk_alloc_new _ _, by rw [size_madeCells]; exact Nat.le_refl _, fun i hi => ?_⟩
  rcases (show i % 3 = 0 ∨ i % 3 = 1 ∨ i % 3 = 2 by omega) with h | h | h <;> simp [madeCells, hi, h, icell, upI]

/-- Of the loop of toItemS behind k rounds. -/
def ItsN (w0 w : World) (n k : Nat) (L : IL) : Prop :=
  ∃ V sv, Arr w w0.heap.size (n * 3) (icell (upI k L) sv) ∧ Vecs w w0.heap.size k (upI k L) V sv w0.heap.size

theorem ItsN.step {w0 w w1 : World} {n k : Nat} {L : IL} (h : ItsN w0 w n k L) (h0 : Below w0.heap.size w0 w) (hb : Below w.heap.size w w1) (gv : Nat) (hgv : w.heap.size ≤ gv) (ho : Own w1 gv (L k).vec) :
    ItsN w0 (((w1.setCell ⟨w0.heap.size, k * 3, none⟩ (.int .i64 (L k).id)).setCell ⟨w0.heap.size, k * 3 + 1, none⟩ (.int .i64 (L k).tags)).setCell ⟨w0.heap.size, k * 3 + 2, none⟩ (.slice (some ⟨gv, 0, none⟩) (L k).vec.length (L k).vec.length)) n (k + 1) L := by
  obtain ⟨V, sv, ha, hv⟩ := h
  have lt := ha.lt
  refine ⟨putF V k gv, putF sv k (.slice (some ⟨gv, 0, none⟩) (L k).vec.length (L k).vec.length), ?_, ?_⟩
  · have := (ha.below hb).item (k := k) (L k) (.slice (some ⟨gv, 0, none⟩) (L k).vec.length (L k).vec.length)
    rw [upI_put] at this
    exact this
  · have hs := hv.step hb h0.size lt (L k) (.slice (some ⟨gv, 0, none⟩) (L k).vec.length (L k).vec.length) gv ⟨_, _, rfl, .inr ⟨rfl, hgv, World.rowIs.lt ho, ho.arrc⟩⟩
    rw [upI_put] at hs
    refine hs.row (by simp [World.setCell]) fun i hi hne => ?_
    rw [Below.heap_setCell _ _ _ _ (by simpa using hne), Below.heap_setCell _ _ _ _ (by simpa using hne), Below.heap_setCell _ _ _ _ (by simpa using hne)]









end Go.Proofs.YtgckhnnkphlciaaDoor