/- The row of a vector: of the model, and of the program. -/
import Derived.Test.YthiklcldbjmgfaaZ13
import Derived.Test.YthiklcldbjmgfaaZ10
import Derived.Test.YthiklcldbjmgfaaZ14
import Derived.Deep.RegionHeldLaw
import Derived.Test.YthiklcldbjmgfaaZ6
namespace Go.Proofs.Ythiklcldbjmgfaa
open Go.RowKit
set_option maxRecDepth 8000
set_option linter.unusedSimpArgs false
set_option linter.unusedVariables false

theorem infoI64_parts : ∃ i : TypeInfo, Try.prog.info? 2 = some i ∧ i.zero = some (.int .i64 0) ∧ i.size = 1 ∧ i.bytes = 8 := by
  obtain ⟨i, hi, hzz⟩ := Option.map_eq_some_iff.1 Try.infoI64
  simp only [Prod.mk.injEq] at hzz
  exact ⟨i, hi, hzz.1, hzz.2.1, hzz.2.2⟩

/-- A list that the model has made: where it lies, and what it holds. -/
def Made (w : World) (n : Nat) (c : Nat → Int) (e : Ending) (w' : World) : Prop :=
  ∃ a cap, e = .returned (.slice a n cap) ∧ Row w' a n (ints c n) ∧ (∀ b off, a = some ⟨b, off, none⟩ → w.heap.size ≤ b) ∧ Below w.heap.size w w'

set_option maxHeartbeats 4000000 in
set_option maxRecDepth 4000 in
theorem l5Codes_some (b off n cap b' off' cap' : Nat) (t : Int) (f g : Nat → Int) (xs : List Int) (w : World) (h8 : n ≤ 8) (hb : b < w.heap.size) (hb' : b' < w.heap.size)
    (hc : ∀ i, i < n → w.cell? ⟨b, off + i * 2, none⟩ = some (.int .i64 (f i)) ∧ w.cell? ⟨b, off + i * 2 + 1, none⟩ = some (.int .i64 (g i)))
    (hc' : ∀ i, i < n → w.cell? ⟨b', off' + i, none⟩ = some (.int .i64 (nth xs i))) :
    Calls Try.prog 58 #[.slice (some ⟨b, off, none⟩) n cap, .slice (some ⟨b', off', none⟩) n cap', .int .i64 t] w fun e w' => Made w n (vcode f g xs t) e w' := by
  obtain ⟨i0, hi, hz0, hz1, hz2⟩ := infoI64_parts
  obtain ⟨c, ec⟩ : ∃ c, vcode f g xs t = c := ⟨_, rfl⟩
  have CD := hide (fun (k : Nat) => sCodeOf_any (f k) (g k) t (nth xs k))
  simp only [show ∀ k, codeB (f k) (g k) t (nth xs k) = vcode f g xs t k from fun _ => rfl] at CD
  rw [ec] at CD ⊢
  clear ec
  go_enter Try.func58, Try.ntmps58
  go_wp2_with fail
  go_loopw [7, 8] (fun v i wr => ∃ k : Nat, k ≤ n ∧ i = .int .i64 k ∧ wr.ownsRow w.heap.size 2 1 v k (vals c k) ∧ Below w.heap.size w wr) (fun _ i _ => n - (intOf i).toNat)
  case atStart => exact ⟨0, Nat.zero_le _, rfl, World.ownsRow_made w #[] 0 (Nat.le_refl _) (Nat.zero_le _) rfl, (by repeat' first | with_reducible exact Below.refl _ _ | with_reducible assumption | with_reducible refine below_drewN ?_ _ | with_reducible refine balloc ?_ _ | with_reducible refine Below.drew ?_ | with_reducible refine Below.setCell ?_ (by first | (simp; done) | (simp; omega) | omega) _ | with_reducible refine bstep ?_ (by assumption))⟩
  case round =>
    obtain ⟨k, hk, rfl, hown, hbel⟩ := hrel
    have HC := hide hc
    have HC' := hide hc'
    have HB := hide hbel
    by_cases hlt : k < n
    · have z1 : wr.cell? ⟨b, off + k * 2, none⟩ = some (.int .i64 (f k)) := (hbel.cell (p := ⟨b, off + k * 2, none⟩) hb).trans (hc k hlt).1
      have z2 : wr.cell? ⟨b, off + k * 2 + 1, none⟩ = some (.int .i64 (g k)) := (hbel.cell (p := ⟨b, off + k * 2 + 1, none⟩) hb).trans (hc k hlt).2
      have z3 : wr.cell? ⟨b', off' + k, none⟩ = some (.int .i64 (nth xs k)) := (hbel.cell (p := ⟨b', off' + k, none⟩) hb').trans (hc' k hlt)
      have hlt' : (k : Int) < (n : Int) := by omega
      have l1 : b < wr.heap.size := Nat.lt_of_lt_of_le hb hbel.size
      have l2 : b' < wr.heap.size := Nat.lt_of_lt_of_le hb' hbel.size
      have sz := hbel.size
      have R := hide (CD.out k)
      have HO := hide hown
      clear hbel hc hc' hown
      go_upto_region 5 with fail
      go_region_held_law (fun w' => w'.cell? ⟨b, off + k * 2, none⟩ = some (.int .i64 (f k)) ∧ w'.cell? ⟨b, off + k * 2 + 1, none⟩ = some (.int .i64 (g k)) ∧ w'.cell? ⟨b', off' + k, none⟩ = some (.int .i64 (nth xs k))) (refine ⟨?_, ?_, ?_⟩ <;> first | assumption | (simp [go_sem]; done) | (rw [World.cell?_alloc_past _ _ _ (by omega)]; assumption))
        (first
          | (go_at_call 64; refine (R.out _).mono ?_; rintro e wn ⟨rfl, hbn⟩; have s1 := (hbn.cell (p := ⟨b, off + k * 2, none⟩) l1).trans z1; have s2 := (hbn.cell (p := ⟨b, off + k * 2 + 1, none⟩) l1).trans z2; have s3 := (hbn.cell (p := ⟨b', off' + k, none⟩) l2).trans z3; have szn : wr.heap.size ≤ wn.heap.size := hbn.size; have HOn := hide (owns_below (owns_drewP HO.out) hbn); have HBn := hide (bstep (HB.out.drew) hbn))
          | (refine step_append_lies _ rfl _ _ 35 rfl w.heap.size 2 i0 _ 1 8 Try.underlying35 hi hz0 hz1 hz2 rfl (by decide) _ _ _ rfl (HOn.out.alloc _) ⟨_, 0, none⟩ 1 1 [.int .i64 (c k)] rfl rfl (one_new _ _ _) (by intro u hu; simp at hu; subst hu; rfl) (by omega) (by unfold maxLen; omega) (by omega) (by simp; omega) _ rfl ?_; intro gg cc wq hown1 hgrow hat hglt; have HBq := hide (below_appP (balloc HBn.out _) (by simp; omega) (HOn.out.alloc _) hgrow); have t1 := (HBq.out.cell (p := ⟨b, off + k * 2, none⟩) hb).trans (HC.out k hlt).1; have t2 := (HBq.out.cell (p := ⟨b, off + k * 2 + 1, none⟩) hb).trans (HC.out k hlt).2; have t3 := (HBq.out.cell (p := ⟨b', off' + k, none⟩) hb').trans (HC'.out k hlt)))
      all_goals
        have HO1 := hide hown1
        clear hown1 hgrow hat
        go_wp2_with fail
        go_roundw
        case rel => exact ⟨k + 1, by omega, by go_num, by rw [vals_succ]; exact HO1.out, HBq.out⟩
        case measure => simp [intOf]; omega
    · obtain rfl : k = n := by omega
      obtain ⟨a2, c2, hv2, hr2, hf2⟩ := row_of_owns hown
      subst hv2
      clear hbel hc hc' hown
      go_wp2_with fail
      go_ret
      exact ⟨a2, c2, rfl, hr2, hf2, HB.out⟩

/-- The model's row: three lists that are read. -/
def MadeRow (w : World) (n : Nat) (c1 c2 c3 : Nat → Int) (v : Value) (w' : World) : Prop :=
  ∃ a1 a2 a3 k1 k2 k3, v = .agg #[.slice a1 n k1, .slice a2 n k2, .slice a3 n k3] ∧ Row w' a1 n (ints c1 n) ∧ Row w' a2 n (ints c2 n) ∧ Row w' a3 n (ints c3 n) ∧ Below w.heap.size w w'

/-- The same, and it lies in new memory. -/
def FreshRow (w : World) (n : Nat) (c1 c2 c3 : Nat → Int) (v : Value) (w' : World) : Prop :=
  ∃ a1 a2 a3 k1 k2 k3, v = .agg #[.slice a1 n k1, .slice a2 n k2, .slice a3 n k3] ∧ Row w' a1 n (ints c1 n) ∧ Row w' a2 n (ints c2 n) ∧ Row w' a3 n (ints c3 n) ∧ (∀ b off, a1 = some ⟨b, off, none⟩ → w.heap.size ≤ b) ∧ (∀ b off, a2 = some ⟨b, off, none⟩ → w.heap.size ≤ b) ∧ (∀ b off, a3 = some ⟨b, off, none⟩ → w.heap.size ≤ b) ∧ Below w.heap.size w w'

theorem row_tri {w : World} {a : Option Addr} {n q : Nat} {xs : List Int} (h : Row w a n xs) (hne : ∀ b off, a = some ⟨b, off, none⟩ → b ≠ q) (u v x : Value) :
    Row (((w.setCell ⟨q, 0, none⟩ u).setCell ⟨q, 1, none⟩ v).setCell ⟨q, 2, none⟩ x) a n xs :=
  ((((But.refl q w).setCell 0 u).setCell 1 v).setCell 2 x).row h hne

set_option maxHeartbeats 4000000 in
theorem l5Row_some (b off n cap b' off' cap' : Nat) (f g : Nat → Int) (xs : List Int) (w : World) (h8 : n ≤ 8) (hb : b < w.heap.size) (hb' : b' < w.heap.size)
    (hc : ∀ i, i < n → w.cell? ⟨b, off + i * 2, none⟩ = some (.int .i64 (f i)) ∧ w.cell? ⟨b, off + i * 2 + 1, none⟩ = some (.int .i64 (g i)))
    (hc' : ∀ i, i < n → w.cell? ⟨b', off' + i, none⟩ = some (.int .i64 (nth xs i))) :
    Calls Try.prog 42 #[.slice (some ⟨b, off, none⟩) n cap, .slice (some ⟨b', off', none⟩) n cap'] w fun e w' => ∃ v, e = .returned v ∧ FreshRow w n (vcode f g xs 1) (vcode f g xs 2) (vcode f g xs 3) v w' := by
  have CD := hide (fun (t : Int) (w1 : World) (hB : Below w.heap.size w w1) => l5Codes_some b off n cap b' off' cap' t f g xs w1 h8 (Nat.lt_of_lt_of_le hb hB.size) (Nat.lt_of_lt_of_le hb' hB.size)
    (fun i hi => ⟨(hB.cell (p := ⟨b, off + i * 2, none⟩) hb).trans (hc i hi).1, (hB.cell (p := ⟨b, off + i * 2 + 1, none⟩) hb).trans (hc i hi).2⟩) (fun i hi => (hB.cell (p := ⟨b', off' + i, none⟩) hb').trans (hc' i hi)))
  clear hc hc'
  go_enter Try.func42, Try.ntmps42
  go_wp2_with fail
  refine (CD.out 1 _ (by repeat' first | with_reducible exact Below.refl _ _ | with_reducible assumption | with_reducible refine below_drewN ?_ _ | with_reducible refine balloc ?_ _ | with_reducible refine Below.drew ?_ | with_reducible refine Below.setCell ?_ (by first | (simp; done) | (simp; omega) | omega) _ | with_reducible refine bstep ?_ (by assumption))).mono ?_
  rintro e w1 ⟨a1, k1, rfl, r1, n1, hb1⟩
  have T1 : TriW w1 w.heap.size (.slice none 0 0) (.slice none 0 0) (.slice none 0 0) := (TriW.new w _ _ _ _ _ rfl).below hb1
  have B1 : Below w.heap.size w w1 := (by repeat' first | with_reducible exact Below.refl _ _ | with_reducible assumption | with_reducible refine below_drewN ?_ _ | with_reducible refine balloc ?_ _ | with_reducible refine Below.drew ?_ | with_reducible refine Below.setCell ?_ (by first | (simp; done) | (simp; omega) | omega) _ | with_reducible refine bstep ?_ (by assumption))
  go_wp2_with fail
  refine (CD.out 2 _ B1).mono ?_
  rintro e w2 ⟨a2, k2, rfl, r2, n2, hb2⟩
  have T2 := T1.below hb2
  have r1' := r1.below hb2
  have B2 := bstep B1 hb2
  go_wp2_with fail
  refine (CD.out 3 _ B2).mono ?_
  rintro e w3 ⟨a3, k3, rfl, r3, n3, hb3⟩
  have T3 := T2.below hb3
  have r1'' := r1'.below hb3
  have r2'' := r2.below hb3
  have B3 := bstep B2 hb3
  have lw : w.heap.size < w1.heap.size := T1.lt
  have lw2 : w.heap.size < w2.heap.size := T2.lt
  obtain ⟨ls, s0, s1, s2, f0, f1, f2⟩ := T3
  have hR := hide r3
  have hR1 := hide r1''
  have hR2 := hide r2''
  clear r1 r2 r3 r1' r1'' r2'' T1 T2 hb1 hb2 hb3
  go_wp2_with fail
  refine bodyPost_ret (v := .agg #[.slice a1 n k1, .slice a2 n k2, .slice a3 n k3]) ?_ rfl ⟨_, rfl, a1, a2, a3, k1, k2, k3, rfl, ?_, ?_, ?_, (fun b off e => by have := n1 b off e; simp at this; omega), (fun b off e => by have := n2 b off e; omega), (fun b off e => by have := n3 b off e; omega), ?_⟩
  · simp [results, Try.results42, go_sem, *]
  · exact row_tri hR1.out (fun b off e => by have := n1 b off e; simp at this; omega) _ _ _
  · exact row_tri hR2.out (fun b off e => by have := n2 b off e; omega) _ _ _
  · exact row_tri hR.out (fun b off e => by have := n3 b off e; omega) _ _ _
  · exact ((B3.setCell (by simp) _).setCell (by simp) _).setCell (by simp) _

/-- The answer of the model's RowOf. -/
def SRow (w : World) (F : Bool) (n : Nat) (c1 c2 c3 : Nat → Int) (e : Ending) (w' : World) : Prop :=
  ∃ v, e = .returned (.tuple #[v, .bool F]) ∧ MadeRow w (if F then n else 0) c1 c2 c3 v w'



end Go.Proofs.Ythiklcldbjmgfaa

/- RowOf of the program; the laws' small functions over rows: eqRow, markRow, heldRow. -/
namespace Go.Proofs.Ythiklcldbjmgfaa
open Go.RowKit
set_option maxRecDepth 8000
set_option linter.unusedSimpArgs false
set_option linter.unusedVariables false

/-- Three lists of the call's own between two blocks, or three that are empty. -/
structure Row3 (B C : Nat) (w : World) (a1 a2 a3 : Option Addr) (m : Nat) (L1 L2 L3 : List Int) : Prop where
  l1 : L1.length = m
  l2 : L2.length = m
  l3 : L3.length = m
  lies : (m = 0) ∨ ∃ g1 g2 g3, a1 = some ⟨g1, 0, none⟩ ∧ a2 = some ⟨g2, 0, none⟩ ∧ a3 = some ⟨g3, 0, none⟩ ∧ B ≤ g1 ∧ B ≤ g2 ∧ B ≤ g3 ∧ g1 < C ∧ g2 < C ∧ g3 < C ∧ g1 ≠ g2 ∧ g1 ≠ g3 ∧ g2 ≠ g3 ∧ Own w g1 L1 ∧ Own w g2 L2 ∧ Own w g3 L3

theorem Row3.rows {B C : Nat} {w : World} {a1 a2 a3 : Option Addr} {m : Nat} {L1 L2 L3 : List Int} (h : Row3 B C w a1 a2 a3 m L1 L2 L3) : Row w a1 m L1 ∧ Row w a2 m L2 ∧ Row w a3 m L3 := by
  rcases h.lies with h0 | ⟨g1, g2, g3, rfl, rfl, rfl, _, _, _, _, _, _, _, _, _, o1, o2, o3⟩
  · exact ⟨⟨h.l1, .inl h0⟩, ⟨h.l2, .inl h0⟩, ⟨h.l3, .inl h0⟩⟩
  · have r1 := o1.row
    have r2 := o2.row
    have r3 := o3.row
    rw [h.l1] at r1
    rw [h.l2] at r2
    rw [h.l3] at r3
    exact ⟨r1, r2, r3⟩

theorem Row3.keep {B C : Nat} {w w' : World} {a1 a2 a3 : Option Addr} {m : Nat} {L1 L2 L3 : List Int} (h : Row3 B C w a1 a2 a3 m L1 L2 L3) (hk : ∀ k, B ≤ k → k < C → k < w.heap.size → w'.heap[k]? = w.heap[k]?) : Row3 B C w' a1 a2 a3 m L1 L2 L3 := by
  refine ⟨h.l1, h.l2, h.l3, ?_⟩
  rcases h.lies with h0 | ⟨g1, g2, g3, e1, e2, e3, b1, b2, b3, c1, c2, c3, d1, d2, d3, o1, o2, o3⟩
  · exact .inl h0
  · exact .inr ⟨g1, g2, g3, e1, e2, e3, b1, b2, b3, c1, c2, c3, d1, d2, d3, World.rowIs.of_block o1 (hk _ b1 c1 (World.rowIs.lt o1)), World.rowIs.of_block o2 (hk _ b2 c2 (World.rowIs.lt o2)), World.rowIs.of_block o3 (hk _ b3 c3 (World.rowIs.lt o3))⟩

theorem Row3.below {B C : Nat} {w w' : World} {a1 a2 a3 : Option Addr} {m : Nat} {L1 L2 L3 : List Int} (h : Row3 B C w a1 a2 a3 m L1 L2 L3) (hb : Below w.heap.size w w') : Row3 B C w' a1 a2 a3 m L1 L2 L3 := h.keep fun k _ _ lt => hb.block k lt

theorem Row3.far {B C B' C' : Nat} {w w' : World} {a1 a2 a3 : Option Addr} {m : Nat} {L1 L2 L3 : List Int} (h : Row3 B C w a1 a2 a3 m L1 L2 L3) (hf : Far B' C' w w') (hd : C ≤ B' ∨ C' ≤ B) : Row3 B C w' a1 a2 a3 m L1 L2 L3 := h.keep fun k k1 k2 lt => hf.block k lt (by omega)

/-- The answer of the program's RowOf. -/
def IRowA (w : World) (F : Bool) (n : Nat) (c1 c2 c3 : Nat → Int) (e : Ending) (w' : World) : Prop :=
  ∃ m a1 a2 a3 k1 k2 k3, e = .returned (.tuple #[.agg #[.slice a1 m k1, .slice a2 m k2, .slice a3 m k3], .bool F]) ∧ m = (if F then n else 0) ∧ Row3 w.heap.size w'.heap.size w' a1 a2 a3 m (ints c1 m) (ints c2 m) (ints c3 m) ∧ Below w.heap.size w w'

theorem ints_zero (c : Nat → Int) : ints c 0 = [] := rfl



set_option maxHeartbeats 4000000 in
theorem eqRow_same (a1 a2 a3 b1 b2 b3 : Option Addr) (m k1 k2 k3 q1 q2 q3 : Nat) (L1 L2 L3 : List Int) (w : World) (hm : m ≤ 1048576) (r1 : Row w a1 m L1) (r2 : Row w a2 m L2) (r3 : Row w a3 m L3) (s1 : Row w b1 m L1) (s2 : Row w b2 m L2) (s3 : Row w b3 m L3) :
    Calls Try.prog 36 #[.agg #[.slice a1 m k1, .slice a2 m k2, .slice a3 m k3], .agg #[.slice b1 m q1, .slice b2 m q2, .slice b3 m q3]] w fun e w' => e = .returned (.bool true) ∧ Below w.heap.size w w' := by
  have E1 := hide (fun w1 (hb : Below w.heap.size w w1) => eqInts_any a1 b1 m k1 m q1 L1 L1 w1 (r1.below hb) (s1.below hb) hm)
  have E2 := hide (fun w1 (hb : Below w.heap.size w w1) => eqInts_any a2 b2 m k2 m q2 L2 L2 w1 (r2.below hb) (s2.below hb) hm)
  have E3 := hide (fun w1 (hb : Below w.heap.size w w1) => eqInts_any a3 b3 m k3 m q3 L3 L3 w1 (r3.below hb) (s3.below hb) hm)
  rw [decide_eq_true rfl] at E1 E2 E3
  clear r1 r2 r3 s1 s2 s3
  have T0 : TriW (((w.alloc (.cells #[.slice a1 m k1, .slice a2 m k2, .slice a3 m k3] 44)).alloc (.cells #[.slice b1 m q1, .slice b2 m q2, .slice b3 m q3] 44))) w.heap.size (.slice a1 m k1) (.slice a2 m k2) (.slice a3 m k3) := (TriW.new w _ _ _ _ _ rfl).alloc _
  have U0 : TriW (((w.alloc (.cells #[.slice a1 m k1, .slice a2 m k2, .slice a3 m k3] 44)).alloc (.cells #[.slice b1 m q1, .slice b2 m q2, .slice b3 m q3] 44))) (w.heap.size + 1) (.slice b1 m q1) (.slice b2 m q2) (.slice b3 m q3) := TriW.new (w.alloc _) _ _ _ _ _ (by simp)
  have B0 : Below w.heap.size w (((w.alloc (.cells #[.slice a1 m k1, .slice a2 m k2, .slice a3 m k3] 44)).alloc (.cells #[.slice b1 m q1, .slice b2 m q2, .slice b3 m q3] 44))) := (by repeat' first | with_reducible exact Below.refl _ _ | with_reducible assumption | with_reducible refine below_drewN ?_ _ | with_reducible refine balloc ?_ _ | with_reducible refine Below.drew ?_ | with_reducible refine Below.setCell ?_ (by first | (simp; done) | (simp; omega) | omega) _ | with_reducible refine bstep ?_ (by assumption))
  have HT0 := hide T0
  have HU0 := hide U0
  clear T0 U0
  go_enter Try.func36, Try.ntmps36
  go_wp2_with fail
  refine (E1.out _ B0).mono ?_
  rintro e w1 ⟨rfl, hb1⟩
  have HT1 := hide (HT0.out.below hb1)
  have HU1 := hide (HU0.out.below hb1)
  have B1 := bstep B0 hb1
  obtain ⟨_, t0, t1, t2, _, _, _⟩ := HT1.out
  obtain ⟨_, u0, u1, u2, _, _, _⟩ := HU1.out
  clear HT0 HU0 hb1
  go_wp2_with fail
  refine (E2.out _ B1).mono ?_
  rintro e w2 ⟨rfl, hb2⟩
  have HT2 := hide (HT1.out.below hb2)
  have HU2 := hide (HU1.out.below hb2)
  have B2 := bstep B1 hb2
  clear t0 t1 t2 u0 u1 u2 hb2
  obtain ⟨_, t0, t1, t2, _, _, _⟩ := HT2.out
  obtain ⟨_, u0, u1, u2, _, _, _⟩ := HU2.out
  go_wp2_with fail
  refine (E3.out _ B2).mono ?_
  rintro e w3 ⟨rfl, hb3⟩
  go_wp2_with fail
  go_ret
  exact ⟨rfl, bstep B2 hb3⟩



end Go.Proofs.Ythiklcldbjmgfaa