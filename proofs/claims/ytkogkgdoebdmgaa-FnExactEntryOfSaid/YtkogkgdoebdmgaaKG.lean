/- RowOf of the program; the laws' small functions over rows: eqRow, markRow, heldRow. -/
import Derived.Test.YtkogkgdoebdmgaaKF
import Derived.Test.YtkogkgdoebdmgaaVM0
import Derived.Test.YtkogkgdoebdmgaaFAR
namespace Go.Proofs.Ytkogkgdoebdmgaa
open Go.RowKit
set_option linter.unusedSimpArgs false
set_option linter.unusedVariables false

/-- Three lists of the call's own between two blocks, or three that are empty. -/
structure Row3 (B C : Nat) (w : World) (a1 a2 a3 : Option Addr) (m : Nat) (L1 L2 L3 : List Int) : Prop where
  l1 : L1.length = m
  l2 : L2.length = m
  l3 : L3.length = m
  lies : (m = 0) ∨ ∃ g1 g2 g3, a1 = some ⟨g1, 0, none⟩ ∧ a2 = some ⟨g2, 0, none⟩ ∧ a3 = some ⟨g3, 0, none⟩ ∧ B ≤ g1 ∧ B ≤ g2 ∧ B ≤ g3 ∧ g1 < C ∧ g2 < C ∧ g3 < C ∧ g1 ≠ g2 ∧ g1 ≠ g3 ∧ g2 ≠ g3 ∧ Own w g1 L1 ∧ Own w g2 L2 ∧ Own w g3 L3

theorem Row3.rows {B C : Nat} {w : World} {a1 a2 a3 : Option Addr} {m : Nat} {L1 L2 L3 : List Int} (h : Row3 B C w a1 a2 a3 m L1 L2 L3) : Row w a1 m L1 ∧ Row w a2 m L2 ∧ Row w a3 m L3 := by
  rcases h.lies with h0 | ⟨g1, g2, g3, rfl, rfl, rfl, _, _, _, _, _, _, _, _, _, o1, o2, o3⟩
  · exact ⟨⟨h.l1, .inl h0⟩, ⟨h.l2, .inl h0⟩, ⟨h.l3, .inl h0⟩⟩
  · have r1 := o1.row
    have r2 := o2.row
    have r3 := o3.row
    rw [h.l1] at r1
    rw [h.l2] at r2
    rw [h.l3] at r3
    exact ⟨r1, r2, r3⟩
theorem Row3.keep {B C : Nat} {w w' : World} {a1 a2 a3 : Option Addr} {m : Nat} {L1 L2 L3 : List Int} (h : Row3 B C w a1 a2 a3 m L1 L2 L3) (hk : ∀ k, B ≤ k → k < C → k < w.heap.size → w'.heap[k]? = w.heap[k]?) : Row3 B C w' a1 a2 a3 m L1 L2 L3 := by
  refine ⟨h.l1, h.l2, h.l3, ?_⟩
  rcases h.lies with h0 | ⟨g1, g2, g3, e1, e2, e3, b1, b2, b3, c1, c2, c3, d1, d2, d3, o1, o2, o3⟩
  · exact .inl h0
  · exact .inr ⟨g1, g2, g3, e1, e2, e3, b1, b2, b3, c1, c2, c3, d1, d2, d3, World.rowIs.of_block o1 (hk _ b1 c1 (World.rowIs.lt o1)), World.rowIs.of_block o2 (hk _ b2 c2 (World.rowIs.lt o2)), World.rowIs.of_block o3 (hk _ b3 c3 (World.rowIs.lt o3))⟩
theorem Row3.below {B C : Nat} {w w' : World} {a1 a2 a3 : Option Addr} {m : Nat} {L1 L2 L3 : List Int} (h : Row3 B C w a1 a2 a3 m L1 L2 L3) (hb : Below w.heap.size w w') : Row3 B C w' a1 a2 a3 m L1 L2 L3 := h.keep fun k _ _ lt => hb.block k lt
theorem Row3.far {B C B' C' : Nat} {w w' : World} {a1 a2 a3 : Option Addr} {m : Nat} {L1 L2 L3 : List Int} (h : Row3 B C w a1 a2 a3 m L1 L2 L3) (hf : Far B' C' w w') (hd : C ≤ B' ∨ C' ≤ B) : Row3 B C w' a1 a2 a3 m L1 L2 L3 := h.keep fun k k1 k2 lt => hf.block k lt (by omega)

/-- The answer of the program's RowOf. -/
def IRowA (w : World) (F : Bool) (n : Nat) (c1 c2 c3 : Nat → Int) (e : Ending) (w' : World) : Prop :=
  ∃ m a1 a2 a3 k1 k2 k3, e = .returned (.tuple #[.agg #[.slice a1 m k1, .slice a2 m k2, .slice a3 m k3], .bool F]) ∧ m = (if F then n else 0) ∧ Row3 w.heap.size w'.heap.size w' a1 a2 a3 m (ints c1 m) (ints c2 m) (ints c3 m) ∧ Below w.heap.size w w'

theorem ints_zero (c : Nat → Int) : ints c 0 = [] := rfl

set_option maxHeartbeats 4000000 in
theorem iRowOf_any (a a' : Option Addr) (n cap n' cap' : Nat) (f g : Nat → Int) (xs : List Int) (w : World) (h : PRow w a n f g) (h' : Row w a' n' xs) (hn' : n' ≤ 1048576) :
    Calls Try.prog 28 #[.slice a n cap, .slice a' n' cap'] w fun e w' => IRowA w (formB n f g n' xs) n (vcode f g xs 1) (vcode f g xs 2) (vcode f g xs 3) e w' := by
  have PV := hide (fun w1 (hb : Below w.heap.size w w1) => packVector_any a a' n cap n' cap' f g xs w1 (h.below hb) (h'.below hb) hn')
  unfold packT at PV
  cases hF : formB n f g n' xs
  · rw [hF] at PV
    simp only [Bool.false_eq_true, if_false] at PV
    clear h h'
    go_enter Try.func28, Try.ntmps28
    go_wp2_with fail
    refine (PV.out _ (by repeat' first | with_reducible exact Below.refl _ _ | with_reducible assumption | with_reducible refine below_drewN ?_ _ | with_reducible refine balloc ?_ _ | with_reducible refine Below.drew ?_ | with_reducible refine Below.setCell ?_ (by first | (simp; done) | (simp; omega) | omega) _ | with_reducible refine bstep ?_ (by assumption))).mono ?_
    rintro e w1 ⟨rfl, hb1⟩
    have T1 : TriW w1 w.heap.size (.slice none 0 0) (.slice none 0 0) (.slice none 0 0) := (TriW.new w _ _ _ _ _ rfl).below hb1
    obtain ⟨ls, s0, s1, s2, f0, f1, f2⟩ := T1
    have B1 : Below w.heap.size w w1 := (by repeat' first | with_reducible exact Below.refl _ _ | with_reducible assumption | with_reducible refine below_drewN ?_ _ | with_reducible refine balloc ?_ _ | with_reducible refine Below.drew ?_ | with_reducible refine Below.setCell ?_ (by first | (simp; done) | (simp; omega) | omega) _ | with_reducible refine bstep ?_ (by assumption))
    have B2 := balloc B1 (.cells #[.int .u8 0, .int .u32 0, .int .u64 0, .int .u8 0, .int .i64 0] 71)
    clear hb1
    go_wp2_with fail
    refine bodyPost_ret (v := .tuple #[.agg #[.slice none 0 0, .slice none 0 0, .slice none 0 0], .bool false]) ?_ rfl ⟨0, none, none, none, 0, 0, 0, rfl, rfl, ⟨rfl, rfl, rfl, .inl rfl⟩, ?_⟩
    · simp [results, Try.results28, go_sem, *]
    · exact (by repeat' first | with_reducible exact Below.refl _ _ | with_reducible assumption | with_reducible refine below_drewN ?_ _ | with_reducible refine balloc ?_ _ | with_reducible refine Below.drew ?_ | with_reducible refine Below.setCell ?_ (by first | (simp; done) | (simp; omega) | omega) _ | with_reducible refine bstep ?_ (by assumption))
  · rw [hF] at PV
    simp only [if_true] at PV
    simp only [formB, Bool.and_eq_true, decide_eq_true_eq] at hF
    obtain ⟨⟨h1, h2⟩, rfl⟩ := hF
    have hn8 := boxB_num' h1
    have RW := hide (fun (w1 : World) => row_any (vcode f g xs 1) (vcode f g xs 2) (vcode f g xs 3) n w1 hn8.2 (vcode_ok xs (fun i hi => boxB_at' h1 hi)))
    generalize vcode f g xs 1 = c1 at RW PV ⊢
    generalize vcode f g xs 2 = c2 at RW PV ⊢
    generalize vcode f g xs 3 = c3 at RW PV ⊢
    clear h h' h1 h2
    go_enter Try.func28, Try.ntmps28
    go_wp2_with fail
    refine (PV.out _ (by repeat' first | with_reducible exact Below.refl _ _ | with_reducible assumption | with_reducible refine below_drewN ?_ _ | with_reducible refine balloc ?_ _ | with_reducible refine Below.drew ?_ | with_reducible refine Below.setCell ?_ (by first | (simp; done) | (simp; omega) | omega) _ | with_reducible refine bstep ?_ (by assumption))).mono ?_
    rintro e w1 ⟨rfl, hb1⟩
    have T1 : TriW w1 w.heap.size (.slice none 0 0) (.slice none 0 0) (.slice none 0 0) := (TriW.new w _ _ _ _ _ rfl).below hb1
    have B1 : Below w.heap.size w w1 := (by repeat' first | with_reducible exact Below.refl _ _ | with_reducible assumption | with_reducible refine below_drewN ?_ _ | with_reducible refine balloc ?_ _ | with_reducible refine Below.drew ?_ | with_reducible refine Below.setCell ?_ (by first | (simp; done) | (simp; omega) | omega) _ | with_reducible refine bstep ?_ (by assumption))
    have lw : w.heap.size < w1.heap.size := T1.lt
    clear hb1
    go_wp2_with fail
    refine (RW.out _).mono ?_
    rintro e w2 ⟨v, rfl, ⟨g1, g2, g3, rfl, b1, b2, b3, d1, d2, d3, o1, o2, o3⟩, hb2⟩
    have T2 := T1.below (bstep (balloc (Below.refl _ _) _) hb2)
    have B2 : Below w.heap.size w w2 := (by repeat' first | with_reducible exact Below.refl _ _ | with_reducible assumption | with_reducible refine below_drewN ?_ _ | with_reducible refine balloc ?_ _ | with_reducible refine Below.drew ?_ | with_reducible refine Below.setCell ?_ (by first | (simp; done) | (simp; omega) | omega) _ | with_reducible refine bstep ?_ (by assumption))
    obtain ⟨ls, s0, s1, s2, f0, f1, f2⟩ := T2
    have O1 := hide o1
    have O2 := hide o2
    have O3 := hide o3
    have sz : w1.heap.size + 1 ≤ w2.heap.size := by have := hb2.size; simpa using this
    simp only [World.size_alloc] at b1 b2 b3
    clear hb2 T1 o1 o2 o3
    go_wp2_with fail
    refine bodyPost_ret (v := .tuple #[.agg #[.slice (some ⟨g1, 0, none⟩) n n, .slice (some ⟨g2, 0, none⟩) n n, .slice (some ⟨g3, 0, none⟩) n n], .bool true]) ?_ rfl ⟨n, _, _, _, n, n, n, rfl, rfl, ⟨ints_len _ _, ints_len _ _, ints_len _ _, .inr ⟨g1, g2, g3, rfl, rfl, rfl, by omega, by omega, by omega, ?_, ?_, ?_, d1, d2, d3, ?_, ?_, ?_⟩⟩, ?_⟩
    · simp [results, Try.results28, go_sem, *]
    · simpa [World.setCell] using World.rowIs.lt O1.out
    · simpa [World.setCell] using World.rowIs.lt O2.out
    · simpa [World.setCell] using World.rowIs.lt O3.out
    · exact own_away (own_away (own_away O1.out _ _ (by simp; omega)) _ _ (by simp; omega)) _ _ (by simp; omega)
    · exact own_away (own_away (own_away O2.out _ _ (by simp; omega)) _ _ (by simp; omega)) _ _ (by simp; omega)
    · exact own_away (own_away (own_away O3.out _ _ (by simp; omega)) _ _ (by simp; omega)) _ _ (by simp; omega)
    · exact ((B2.setCell (by simp) _).setCell (by simp) _).setCell (by simp) _

set_option maxHeartbeats 4000000 in
theorem eqRow_same (a1 a2 a3 b1 b2 b3 : Option Addr) (m k1 k2 k3 q1 q2 q3 : Nat) (L1 L2 L3 : List Int) (w : World) (hm : m ≤ 1048576) (r1 : Row w a1 m L1) (r2 : Row w a2 m L2) (r3 : Row w a3 m L3) (s1 : Row w b1 m L1) (s2 : Row w b2 m L2) (s3 : Row w b3 m L3) :
    Calls Try.prog 30 #[.agg #[.slice a1 m k1, .slice a2 m k2, .slice a3 m k3], .agg #[.slice b1 m q1, .slice b2 m q2, .slice b3 m q3]] w fun e w' => e = .returned (.bool true) ∧ Below w.heap.size w w' := by
  have E1 := hide (fun w1 (hb : Below w.heap.size w w1) => eqInts_any a1 b1 m k1 m q1 L1 L1 w1 (r1.below hb) (s1.below hb) hm)
  have E2 := hide (fun w1 (hb : Below w.heap.size w w1) => eqInts_any a2 b2 m k2 m q2 L2 L2 w1 (r2.below hb) (s2.below hb) hm)
  have E3 := hide (fun w1 (hb : Below w.heap.size w w1) => eqInts_any a3 b3 m k3 m q3 L3 L3 w1 (r3.below hb) (s3.below hb) hm)
  rw [decide_eq_true rfl] at E1 E2 E3
  clear r1 r2 r3 s1 s2 s3
  have T0 : TriW (((w.alloc (.cells #[.slice a1 m k1, .slice a2 m k2, .slice a3 m k3] 30)).alloc (.cells #[.slice b1 m q1, .slice b2 m q2, .slice b3 m q3] 30))) w.heap.size (.slice a1 m k1) (.slice a2 m k2) (.slice a3 m k3) := (TriW.new w _ _ _ _ _ rfl).alloc _
  have U0 : TriW (((w.alloc (.cells #[.slice a1 m k1, .slice a2 m k2, .slice a3 m k3] 30)).alloc (.cells #[.slice b1 m q1, .slice b2 m q2, .slice b3 m q3] 30))) (w.heap.size + 1) (.slice b1 m q1) (.slice b2 m q2) (.slice b3 m q3) := TriW.new (w.alloc _) _ _ _ _ _ (by simp)
  have B0 : Below w.heap.size w (((w.alloc (.cells #[.slice a1 m k1, .slice a2 m k2, .slice a3 m k3] 30)).alloc (.cells #[.slice b1 m q1, .slice b2 m q2, .slice b3 m q3] 30))) := (by repeat' first | with_reducible exact Below.refl _ _ | with_reducible assumption | with_reducible refine below_drewN ?_ _ | with_reducible refine balloc ?_ _ | with_reducible refine Below.drew ?_ | with_reducible refine Below.setCell ?_ (by first | (simp; done) | (simp; omega) | omega) _ | with_reducible refine bstep ?_ (by assumption))
  have HT0 := hide T0
  have HU0 := hide U0
  clear T0 U0
  go_enter Try.func30, Try.ntmps30
  go_wp2_with fail
  refine (E1.out _ B0).mono ?_
  rintro e w1 ⟨rfl, hb1⟩
  have HT1 := hide (HT0.out.below hb1)
  have HU1 := hide (HU0.out.below hb1)
  have B1 := bstep B0 hb1
  obtain ⟨_, t0, t1, t2, _, _, _⟩ := HT1.out
  obtain ⟨_, u0, u1, u2, _, _, _⟩ := HU1.out
  clear HT0 HU0 hb1
  go_wp2_with fail
  refine (E2.out _ B1).mono ?_
  rintro e w2 ⟨rfl, hb2⟩
  have HT2 := hide (HT1.out.below hb2)
  have HU2 := hide (HU1.out.below hb2)
  have B2 := bstep B1 hb2
  clear t0 t1 t2 u0 u1 u2 hb2
  obtain ⟨_, t0, t1, t2, _, _, _⟩ := HT2.out
  obtain ⟨_, u0, u1, u2, _, _, _⟩ := HU2.out
  go_wp2_with fail
  refine (E3.out _ B2).mono ?_
  rintro e w3 ⟨rfl, hb3⟩
  go_wp2_with fail
  go_ret
  exact ⟨rfl, bstep B2 hb3⟩

set_option maxHeartbeats 4000000 in
theorem markRow_any (B C : Nat) (a1 a2 a3 : Option Addr) (m k1 k2 k3 : Nat) (q : Int) (L1 L2 L3 : List Int) (w : World) (hm : m ≤ 8) (hq : 0 ≤ q) (hq2 : q ≤ 10000000) (h : Row3 B C w a1 a2 a3 m L1 L2 L3) :
    Calls Try.prog 34 #[.agg #[.slice a1 m k1, .slice a2 m k2, .slice a3 m k3], .int .i64 q] w fun e w' => e = .returned (.int .i64 (q + m + m + m)) ∧ Row3 B C w' a1 a2 a3 m (marks q m) (marks (q + m) m) (marks (q + m + m) m) ∧ Far B C w w' := by
  obtain ⟨l1, l2, l3, hl⟩ := h
  rcases hl with h0 | ⟨g1, g2, g3, rfl, rfl, rfl, b1, b2, b3, c1, c2, c3, d1, d2, d3, o1, o2, o3⟩
  · subst h0
    go_enter Try.func34, Try.ntmps34
    go_wp2_with fail
    refine (markInts_none a1 0 k1 q _ (by omega)).mono ?_
    rintro e w1 ⟨rfl, rfl⟩
    go_wp2_with fail
    refine (markInts_none a2 0 k2 q _ (by omega)).mono ?_
    rintro e w1 ⟨rfl, rfl⟩
    go_wp2_with fail
    refine (markInts_none a3 0 k3 q _ (by omega)).mono ?_
    rintro e w1 ⟨rfl, rfl⟩
    go_wp2_with fail
    go_ret
    exact ⟨by simp, ⟨rfl, rfl, rfl, .inl rfl⟩, Far.ofBelow (by repeat' first | with_reducible exact Below.refl _ _ | with_reducible assumption | with_reducible refine below_drewN ?_ _ | with_reducible refine balloc ?_ _ | with_reducible refine Below.drew ?_ | with_reducible refine Below.setCell ?_ (by first | (simp; done) | (simp; omega) | omega) _ | with_reducible refine bstep ?_ (by assumption))⟩
  · have T0 := TriW.new w (.slice (some ⟨g1, 0, none⟩) m k1) (.slice (some ⟨g2, 0, none⟩) m k2) (.slice (some ⟨g3, 0, none⟩) m k3) 30 _ rfl
    have ba : Below w.heap.size w (w.alloc (.cells #[.slice (some ⟨g1, 0, none⟩) m k1, .slice (some ⟨g2, 0, none⟩) m k2, .slice (some ⟨g3, 0, none⟩) m k3] 30)) := (by repeat' first | with_reducible exact Below.refl _ _ | with_reducible assumption | with_reducible refine below_drewN ?_ _ | with_reducible refine balloc ?_ _ | with_reducible refine Below.drew ?_ | with_reducible refine Below.setCell ?_ (by first | (simp; done) | (simp; omega) | omega) _ | with_reducible refine bstep ?_ (by assumption))
    have x1 := World.rowIs.lt o1
    have x2 := World.rowIs.lt o2
    have x3 := World.rowIs.lt o3
    have p1 := hide (Own.below o1 ba)
    have p2 := hide (Own.below o2 ba)
    have p3 := hide (Own.below o3 ba)
    have fa : Far B C w (w.alloc (.cells #[.slice (some ⟨g1, 0, none⟩) m k1, .slice (some ⟨g2, 0, none⟩) m k2, .slice (some ⟨g3, 0, none⟩) m k3] 30)) := Far.ofBelow ba
    have HT0 := hide T0
    clear o1 o2 o3 T0
    go_enter Try.func34, Try.ntmps34
    go_wp2_with fail
    refine (markInts_any g1 m k1 q L1 _ p1.out l1 (by omega) hq (by omega)).mono ?_
    rintro e w1 ⟨rfl, o1, hb1⟩
    have O1 := hide o1
    have p2 := hide (hb1.own p2.out (Ne.symm d1))
    have p3 := hide (hb1.own p3.out (Ne.symm d2))
    have T1 := TriW.but HT0.out hb1 (by omega)
    have HT1 := hide T1
    obtain ⟨_, t0, t1, t2, _, _, _⟩ := T1
    have fb := hide (fa.trans (Far.ofBut hb1 b1 c1))
    clear o1 hb1 HT0
    go_wp2_with fail
    refine (markInts_any g2 m k2 (q + m) L2 _ p2.out l2 (by omega) (by omega) (by omega)).mono ?_
    rintro e w2 ⟨rfl, o2, hb2⟩
    have O2 := hide o2
    have O1 := hide (hb2.own O1.out d1)
    have p3 := hide (hb2.own p3.out (Ne.symm d3))
    have T2 := TriW.but HT1.out hb2 (by omega)
    clear t0 t1 t2 HT1
    obtain ⟨_, t0, t1, t2, _, _, _⟩ := T2
    have fb := hide (fb.out.trans (Far.ofBut hb2 b2 c2))
    clear o2 hb2
    go_wp2_with fail
    refine (markInts_any g3 m k3 (q + m + m) L3 _ p3.out l3 (by omega) (by omega) (by omega)).mono ?_
    rintro e w3 ⟨rfl, o3, hb3⟩
    have O3 := hide o3
    have O1 := hide (hb3.own O1.out d2)
    have O2 := hide (hb3.own O2.out d3)
    have fb := hide (fb.out.trans (Far.ofBut hb3 b3 c3))
    clear o3 hb3
    go_wp2_with fail
    go_ret
    exact ⟨rfl, ⟨marks_len _ _, marks_len _ _, marks_len _ _, .inr ⟨g1, g2, g3, rfl, rfl, rfl, b1, b2, b3, c1, c2, c3, d1, d2, d3, O1.out, O2.out, O3.out⟩⟩, fb.out⟩

set_option maxHeartbeats 4000000 in
theorem heldRow_any (B C : Nat) (a1 a2 a3 : Option Addr) (m k1 k2 k3 : Nat) (q : Int) (w : World) (hm : m ≤ 8) (hq : 0 ≤ q) (hq2 : q ≤ 10000000) (h : Row3 B C w a1 a2 a3 m (marks q m) (marks (q + m) m) (marks (q + m + m) m)) :
    Calls Try.prog 36 #[.agg #[.slice a1 m k1, .slice a2 m k2, .slice a3 m k3], .int .i64 q] w fun e w' => e = .returned (.int .i64 (q + m + m + m)) ∧ Below w.heap.size w w' := by
  obtain ⟨l1, l2, l3, hl⟩ := h
  rcases hl with h0 | ⟨g1, g2, g3, rfl, rfl, rfl, b1, b2, b3, c1, c2, c3, d1, d2, d3, o1, o2, o3⟩
  · subst h0
    go_enter Try.func36, Try.ntmps36
    go_wp2_with fail
    refine (heldInts_none a1 0 k1 q _ (by omega)).mono ?_
    rintro e w1 ⟨rfl, rfl⟩
    go_wp2_with fail
    refine (heldInts_none a2 0 k2 q _ (by omega)).mono ?_
    rintro e w1 ⟨rfl, rfl⟩
    go_wp2_with fail
    refine (heldInts_none a3 0 k3 q _ (by omega)).mono ?_
    rintro e w1 ⟨rfl, rfl⟩
    go_wp2_with fail
    go_ret
    exact ⟨by simp, (by repeat' first | with_reducible exact Below.refl _ _ | with_reducible assumption | with_reducible refine below_drewN ?_ _ | with_reducible refine balloc ?_ _ | with_reducible refine Below.drew ?_ | with_reducible refine Below.setCell ?_ (by first | (simp; done) | (simp; omega) | omega) _ | with_reducible refine bstep ?_ (by assumption))⟩
  · have ba : Below w.heap.size w (w.alloc (.cells #[.slice (some ⟨g1, 0, none⟩) m k1, .slice (some ⟨g2, 0, none⟩) m k2, .slice (some ⟨g3, 0, none⟩) m k3] 30)) := (by repeat' first | with_reducible exact Below.refl _ _ | with_reducible assumption | with_reducible refine below_drewN ?_ _ | with_reducible refine balloc ?_ _ | with_reducible refine Below.drew ?_ | with_reducible refine Below.setCell ?_ (by first | (simp; done) | (simp; omega) | omega) _ | with_reducible refine bstep ?_ (by assumption))
    have p1 := hide (Own.below o1 ba)
    have p2 := hide (Own.below o2 ba)
    have p3 := hide (Own.below o3 ba)
    clear o1 o2 o3
    go_enter Try.func36, Try.ntmps36
    go_wp2_with fail
    refine (heldInts_any g1 m k1 q _ p1.out (by omega) hq (by omega)).mono ?_
    rintro e w1 ⟨rfl, rfl⟩
    go_wp2_with fail
    refine (heldInts_any g2 m k2 (q + m) _ p2.out (by omega) (by omega) (by omega)).mono ?_
    rintro e w1 ⟨rfl, rfl⟩
    go_wp2_with fail
    refine (heldInts_any g3 m k3 (q + m + m) _ p3.out (by omega) (by omega) (by omega)).mono ?_
    rintro e w1 ⟨rfl, rfl⟩
    go_wp2_with fail
    go_ret
    exact ⟨rfl, ba⟩
end Go.Proofs.Ytkogkgdoebdmgaa
