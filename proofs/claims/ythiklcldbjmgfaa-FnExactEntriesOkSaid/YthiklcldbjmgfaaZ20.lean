/- RowOk of the model. -/
import Derived.Test.YthiklcldbjmgfaaZ18
import Derived.Test.YthiklcldbjmgfaaZ8
import Derived.Test.YthiklcldbjmgfaaZ5
namespace Go.Proofs.Ythiklcldbjmgfaa
open Go.RowKit
set_option maxRecDepth 8000
set_option linter.unusedSimpArgs false
set_option linter.unusedVariables false

/-- The number that the model takes for a code of tier 3. -/
def numS (lo hi c : Int) : Int := if c = -1 ∧ lo = cellLo lo hi 3 c then cellHi lo hi 3 c else cellLo lo hi 3 c

theorem numS_def (lo hi c : Int) : numS lo hi c = if c = -1 ∧ lo = cellLo lo hi 3 c then cellHi lo hi 3 c else cellLo lo hi 3 c := rfl

theorem TriW.belowAt {w w' : World} {b X : Nat} {v0 v1 v2 : Value} (h : TriW w b v0 v1 v2) (hb : Below X w w') (hX : b < X) : TriW w' b v0 v1 v2 :=
  ⟨Nat.lt_of_lt_of_le h.lt hb.size, (hb.cell (p := ⟨b, 0, none⟩) hX).trans h.c0, (hb.cell (p := ⟨b, 1, none⟩) hX).trans h.c1, (hb.cell (p := ⟨b, 2, none⟩) hX).trans h.c2,
    (hb.frozen (p := ⟨b, 0, none⟩) hX).trans h.f0, (hb.frozen (p := ⟨b, 1, none⟩) hX).trans h.f1, (hb.frozen (p := ⟨b, 2, none⟩) hX).trans h.f2⟩

theorem below_appQ {X B : Nat} {w wr w2 : World} {v : Value} {k : Nat} {e : TypeId} {size : Nat} {xs : List Value} (hb : Below X w wr) (hX : X ≤ wr.heap.size) (hXB : X ≤ B) (ho : wr.ownsRow B e size v k xs) (hg : wr.grownBy w2 v.ownBlock) : Below X w w2 :=
  hb.grown hg hX fun k' hk' => Nat.le_trans hXB (ho.lt k' hk').1

theorem codeB_off {lo hi t x : Int} (h : ¬ (lo ≤ x ∧ x ≤ hi)) : codeB lo hi t x = -1 := by
  have : hasB lo hi x = false := by unfold hasB inB; rw [decide_eq_false h, Bool.and_false]
  simp [codeB, this]

theorem rowAt_model {lo hi a b c : Int} (hr : rightB lo hi = true) : (cellB lo hi 3 c && ((codeB lo hi 1 (numS lo hi c) == a) && ((codeB lo hi 2 (numS lo hi c) == b) && (codeB lo hi 3 (numS lo hi c) == c)))) = rowAt lo hi a b c := by
  obtain ⟨a1, a2, a3, a4, a5⟩ := right_nums hr
  unfold rowAt
  by_cases hc : c = -1
  · subst hc
    have hcB : cellB lo hi 3 (-1) = true := by simp [cellB, hr, tierB]
    have hlo : cellLo lo hi 3 (-1) = -1048576 := by simp [cellLo, hcB]
    have hhi : cellHi lo hi 3 (-1) = 1048576 := by simp [cellHi, hcB]
    simp only [numI, numIB, if_true, hcB, Bool.true_and]
    by_cases h1 : -1048576 < lo
    · have hs : ¬ (lo ≤ numS lo hi (-1) ∧ numS lo hi (-1) ≤ hi) := by
        unfold numS; rw [hlo, if_neg (by omega)]; omega
      simp only [h1, if_true, decide_true, Bool.true_or, Bool.true_and]
      rw [codeB_off hs, codeB_off hs, codeB_off hs, codeB_off (x := lo - 1) (by omega), codeB_off (x := lo - 1) (by omega), codeB_off (x := lo - 1) (by omega)]
    · have hl : lo = -1048576 := by omega
      have hn : numS lo hi (-1) = 1048576 := by unfold numS; rw [hlo, if_pos ⟨rfl, hl⟩, hhi]
      rw [hn]
      by_cases h2 : hi < 1048576
      · simp only [h1, h2, if_true, if_false, decide_true, decide_false, Bool.or_true, Bool.true_and]
        rw [codeB_off (x := 1048576) (by omega), codeB_off (x := 1048576) (by omega), codeB_off (x := 1048576) (by omega), codeB_off (x := hi + 1) (by omega), codeB_off (x := hi + 1) (by omega), codeB_off (x := hi + 1) (by omega)]
      · simp only [h1, h2, if_false, decide_false, Bool.or_false, Bool.false_and]
        have hh : hasB lo hi 1048576 = true := by unfold hasB inB; rw [hr, decide_eq_true (by omega)]; rfl
        have h3 : codeB lo hi 3 1048576 ≠ -1 := by
          simp only [codeB, hh, show tierB 3 = true from rfl, Bool.and_self, if_true, show cellsN 3 = 256 from rfl]
          have := code_nonneg lo hi 256 1048576 (by omega) (by omega) a5
          omega
        simp [h3]
  · have hn : numS lo hi c = numI lo hi c := by unfold numS numI; rw [if_neg (by omega), if_neg hc]
    rw [hn]
    simp only [numIB, hc, if_false]

/-- Where the model looks in a round: nothing that was there has turned. -/
structure KS (w0 w : World) (p0 p1 p2 p3 : Addr) (v0 v1 v2 v3 : Value) : Prop where
  bel : Below w0.heap.size w0 w
  c0 : w.cell? p0 = some v0
  c1 : w.cell? p1 = some v1
  c2 : w.cell? p2 = some v2
  c3 : w.cell? p3 = some v3

theorem KS.of {w0 w : World} {p0 p1 p2 p3 : Addr} {v0 v1 v2 v3 : Value} (hb : Below w0.heap.size w0 w) (h0 : w0.cell? p0 = some v0) (h1 : w0.cell? p1 = some v1) (h2 : w0.cell? p2 = some v2) (h3 : w0.cell? p3 = some v3) : KS w0 w p0 p1 p2 p3 v0 v1 v2 v3 :=
  ⟨hb, (hb.cell (cellLt h0)).trans h0, (hb.cell (cellLt h1)).trans h1, (hb.cell (cellLt h2)).trans h2, (hb.cell (cellLt h3)).trans h3⟩

theorem KS.below {w0 w w' : World} {p0 p1 p2 p3 : Addr} {v0 v1 v2 v3 : Value} (h : KS w0 w p0 p1 p2 p3 v0 v1 v2 v3) (hb : Below w.heap.size w w') : KS w0 w' p0 p1 p2 p3 v0 v1 v2 v3 :=
  ⟨bstep h.bel hb, (hb.cell (cellLt h.c0)).trans h.c0, (hb.cell (cellLt h.c1)).trans h.c1, (hb.cell (cellLt h.c2)).trans h.c2, (hb.cell (cellLt h.c3)).trans h.c3⟩

/-- Whether the row of the model's numbers is this one. -/
def sameRowB (n : Nat) (f g : Nat → Int) (L1 L2 L3 : List Int) : Bool :=
  decide (ints (vcode f g (ints (fun i => numS (f i) (g i) (nth L3 i)) n) 1) n = L1) && (decide (ints (vcode f g (ints (fun i => numS (f i) (g i) (nth L3 i)) n) 2) n = L2) && decide (ints (vcode f g (ints (fun i => numS (f i) (g i) (nth L3 i)) n) 3) n = L3))

theorem Below.drewN {X : Nat} {a b : World} (h : Below X a b) (n : Nat) : Below X a (b.drewN n) := ⟨h.os, h.tape, h.output, h.size, h.block⟩

theorem owns_drewNP {w : World} {base : Nat} {e : TypeId} {size : Nat} {v : Value} {n : Nat} {xs : List Value} (m : Nat) (h : w.ownsRow base e size v n xs) : (w.drewN m).ownsRow base e size v n xs := h

theorem balloc' {X : Nat} {w a : World} (h : Below X w a) (hX : X ≤ a.heap.size) (o : Obj) : Below X w (a.alloc o) := h.alloc hX o

end Go.Proofs.Ythiklcldbjmgfaa
/- RowOk: the model at all arguments; it is what the program asks. -/
namespace Go.Proofs.Ythiklcldbjmgfaa
open Go.RowKit
set_option maxRecDepth 8000
set_option linter.unusedSimpArgs false
set_option linter.unusedVariables false

theorem ints_dec {c : Nat → Int} {n : Nat} {L : List Int} (hl : L.length = n) : decide (ints c n = L) = allN n (fun i => c i == nth L i) := by
  subst hl
  by_cases h : ints c L.length = L
  · rw [decide_eq_true h, allN_yes]
    intro i hi
    have : nth (ints c L.length) i = nth L i := by rw [h]
    rw [nth_ints _ _ _ hi] at this
    simp [this]
  · rw [decide_eq_false h]
    symm
    rw [Bool.eq_false_iff]
    intro q
    refine h (nth_ext (ints_len _ _) fun j hj => ?_)
    rw [ints_len] at hj
    rw [nth_ints _ _ _ hj]
    simpa using allN_at q hj

theorem allN_and (n : Nat) (p q : Nat → Bool) : (allN n p && allN n q) = allN n (fun i => p i && q i) := by
  rw [Bool.eq_iff_iff]
  constructor
  · intro h
    simp only [Bool.and_eq_true] at h
    exact allN_yes fun i hi => by rw [allN_at h.1 hi, allN_at h.2 hi]; rfl
  · intro h
    simp only [Bool.and_eq_true]
    have : ∀ i, i < n → p i = true ∧ q i = true := fun i hi => by simpa using allN_at h hi
    exact ⟨allN_yes fun i hi => (this i hi).1, allN_yes fun i hi => (this i hi).2⟩

theorem allN_same {n : Nat} {p q : Nat → Bool} (h : ∀ i, i < n → p i = q i) : allN n p = allN n q := by
  unfold allN
  rw [Bool.eq_iff_iff, List.all_eq_true, List.all_eq_true]
  constructor
  · intro k i hi; rw [← h i (List.mem_range.1 hi)]; exact k i hi
  · intro k i hi; rw [h i (List.mem_range.1 hi)]; exact k i hi

theorem rowOk_model {n : Nat} {f g : Nat → Int} {L1 L2 L3 : List Int} (hr : ∀ i, i < n → rightB (f i) (g i) = true) (l3 : L3.length = n) :
    (allN n (fun i => cellB (f i) (g i) 3 (nth L3 i)) && sameRowB n f g L1 L2 L3) = (decide (L1.length = n ∧ L2.length = n ∧ L3.length = n) && allN n (fun i => rowAt (f i) (g i) (nth L1 i) (nth L2 i) (nth L3 i))) := by
  unfold sameRowB
  by_cases h1 : L1.length = n
  · by_cases h2 : L2.length = n
    · rw [ints_dec h1, ints_dec h2, ints_dec l3, allN_and, allN_and, allN_and, decide_eq_true ⟨h1, h2, l3⟩, Bool.true_and]
      refine allN_same fun i hi => ?_
      rw [← rowAt_model (hr i hi)]
      simp only [vcode, nth_ints _ _ _ hi]
    · rw [show decide (L1.length = n ∧ L2.length = n ∧ L3.length = n) = false from decide_eq_false (fun q => h2 q.2.1), Bool.false_and]
      rw [show decide (ints (vcode f g (ints (fun i => numS (f i) (g i) (nth L3 i)) n) 2) n = L2) = false from decide_eq_false (fun q => h2 (by rw [← q, ints_len]))]
      simp
  · rw [show decide (L1.length = n ∧ L2.length = n ∧ L3.length = n) = false from decide_eq_false (fun q => h1 q.1), Bool.false_and]
    rw [show decide (ints (vcode f g (ints (fun i => numS (f i) (g i) (nth L3 i)) n) 1) n = L1) = false from decide_eq_false (fun q => h1 (by rw [← q, ints_len]))]
    simp





/-- szRow answers a number below 0 where the row has more than is left. -/
def szRowV (left : Int) (r : RowV) : Int := if left - (r.m1 : Int) - (r.m2 : Int) - (r.m3 : Int) < 0 then -1 else left - (r.m1 : Int) - (r.m2 : Int) - (r.m3 : Int)

set_option maxHeartbeats 4000000 in
theorem szRow_any (r : RowV) (left : Int) (w : World) (h0 : 0 ≤ left) (h1 : left ≤ 1048576) (l1 : r.m1 ≤ 9223372036854775807) (l2 : r.m2 ≤ 9223372036854775807) (l3 : r.m3 ≤ 9223372036854775807) :
    Calls Try.prog 25 #[r.v, .int .i64 left] w fun e w' => e = .returned (.int .i64 (szRowV left r)) ∧ Below w.heap.size w w' := by
  obtain ⟨a1, a2, a3, m1, m2, m3, k1, k2, k3⟩ := r
  unfold RowV.v szRowV
  simp only at l1 l2 l3 ⊢
  have S1 := hide (fun w => szInts_any a1 m1 k1 left w h0 h1 l1)
  by_cases x1 : left - (m1 : Int) < 0
  · rw [show szN left m1 = -1 from if_pos x1] at S1
    rw [if_pos (by omega)]
    clear x1
    go_enter Try.func25, Try.ntmps25
    go_wp2_with fail
    refine (S1.out _).mono ?_
    rintro e w1 ⟨rfl, rfl⟩
    go_wp2_with fail
    go_ret
    exact ⟨rfl, (by repeat' first | with_reducible exact Below.refl _ _ | with_reducible assumption | with_reducible refine below_drewN ?_ _ | with_reducible refine balloc ?_ _ | with_reducible refine Below.drew ?_ | with_reducible refine Below.setCell ?_ (by first | (simp; done) | (simp; omega) | omega) _ | with_reducible refine bstep ?_ (by assumption))⟩
  · rw [show szN left m1 = left - m1 from if_neg x1] at S1
    have S2 := hide (fun w => szInts_any a2 m2 k2 (left - m1) w (by omega) (by omega) l2)
    by_cases x2 : left - (m1 : Int) - (m2 : Int) < 0
    · rw [show szN (left - m1) m2 = -1 from if_pos x2] at S2
      rw [if_pos (by omega)]
      go_enter Try.func25, Try.ntmps25
      go_wp2_with fail
      refine (S1.out _).mono ?_
      rintro e w1 ⟨rfl, rfl⟩
      go_wp2_with fail
      refine (S2.out _).mono ?_
      rintro e w1 ⟨rfl, rfl⟩
      go_wp2_with fail
      go_ret
      exact ⟨rfl, (by repeat' first | with_reducible exact Below.refl _ _ | with_reducible assumption | with_reducible refine below_drewN ?_ _ | with_reducible refine balloc ?_ _ | with_reducible refine Below.drew ?_ | with_reducible refine Below.setCell ?_ (by first | (simp; done) | (simp; omega) | omega) _ | with_reducible refine bstep ?_ (by assumption))⟩
    · rw [show szN (left - m1) m2 = left - m1 - m2 from if_neg x2] at S2
      have S3 := hide (fun w => szInts_any a3 m3 k3 (left - m1 - m2) w (by omega) (by omega) l3)
      obtain ⟨v, hv⟩ : ∃ v, szN (left - m1 - m2) m3 = v := ⟨_, rfl⟩
      have hv' : (if left - (m1 : Int) - (m2 : Int) - (m3 : Int) < 0 then -1 else left - (m1 : Int) - (m2 : Int) - (m3 : Int)) = v := hv
      rw [hv']
      rw [hv] at S3
      have hD : v = -1 ∨ 0 ≤ v := by unfold szN at hv; omega
      clear hv hv'
      rcases hD with rfl | hv0
      all_goals
        go_enter Try.func25, Try.ntmps25
        go_wp2_with fail
        refine (S1.out _).mono ?_
        rintro e w1 ⟨rfl, rfl⟩
        go_wp2_with fail
        refine (S2.out _).mono ?_
        rintro e w1 ⟨rfl, rfl⟩
        go_wp2_with fail
        refine (S3.out _).mono ?_
        rintro e w1 ⟨rfl, rfl⟩
        go_wp2_with fail
        go_ret
        exact ⟨rfl, (by repeat' first | with_reducible exact Below.refl _ _ | with_reducible assumption | with_reducible refine below_drewN ?_ _ | with_reducible refine balloc ?_ _ | with_reducible refine Below.drew ?_ | with_reducible refine Below.setCell ?_ (by first | (simp; done) | (simp; omega) | omega) _ | with_reducible refine bstep ?_ (by assumption))⟩

/-- A row of the call's own, copied out of one that is read: each of its lists has a block of its own. -/
structure Mine3 (B C : Nat) (w : World) (g1 g2 g3 : Nat) (L1 L2 L3 : List Int) : Prop where
  o1 : Own w g1 L1
  o2 : Own w g2 L2
  o3 : Own w g3 L3
  lo : B ≤ g1 ∧ B ≤ g2 ∧ B ≤ g3
  hi : g1 < C ∧ g2 < C ∧ g3 < C
  apart : g1 ≠ g2 ∧ g1 ≠ g3 ∧ g2 ≠ g3

theorem Mine3.below {B C : Nat} {w w' : World} {g1 g2 g3 : Nat} {L1 L2 L3 : List Int} (h : Mine3 B C w g1 g2 g3 L1 L2 L3) (hb : Below w.heap.size w w') : Mine3 B C w' g1 g2 g3 L1 L2 L3 := ⟨h.o1.below hb, h.o2.below hb, h.o3.below hb, h.lo, h.hi, h.apart⟩
def rowM (g1 g2 g3 m1 m2 m3 : Nat) : RowV := ⟨some ⟨g1, 0, none⟩, some ⟨g2, 0, none⟩, some ⟨g3, 0, none⟩, m1, m2, m3, m1, m2, m3⟩

theorem Mine3.is {B C : Nat} {w : World} {g1 g2 g3 : Nat} {L1 L2 L3 : List Int} (h : Mine3 B C w g1 g2 g3 L1 L2 L3) : (rowM g1 g2 g3 L1.length L2.length L3.length).is w L1 L2 L3 := ⟨h.o1.row, h.o2.row, h.o3.row⟩

theorem TriW.set0 {w : World} {b : Nat} {v0 v1 v2 : Value} (h : TriW w b v0 v1 v2) (u : Value) : TriW (w.setCell ⟨b, 0, none⟩ u) b u v1 v2 := by
  obtain ⟨h0, h1, h2, h3, f0, f1, f2⟩ := h
  exact ⟨by simpa [World.setCell] using h0, by simp [go_sem, h1, h2, h3], by simp [go_sem, h1, h2, h3], by simp [go_sem, h1, h2, h3], by simp [go_sem, f0], by simp [go_sem, f1], by simp [go_sem, f2]⟩

theorem TriW.set1 {w : World} {b : Nat} {v0 v1 v2 : Value} (h : TriW w b v0 v1 v2) (u : Value) : TriW (w.setCell ⟨b, 1, none⟩ u) b v0 u v2 := by
  obtain ⟨h0, h1, h2, h3, f0, f1, f2⟩ := h
  exact ⟨by simpa [World.setCell] using h0, by simp [go_sem, h1, h2, h3], by simp [go_sem, h1, h2, h3], by simp [go_sem, h1, h2, h3], by simp [go_sem, f0], by simp [go_sem, f1], by simp [go_sem, f2]⟩

def ToRow (w : World) (L1 L2 L3 : List Int) (e : Ending) (w' : World) : Prop :=
  ∃ g1 g2 g3, e = .returned (rowM g1 g2 g3 L1.length L2.length L3.length).v ∧ Mine3 w.heap.size w'.heap.size w' g1 g2 g3 L1 L2 L3 ∧ Below w.heap.size w w'

set_option maxHeartbeats 4000000 in
theorem toRow_any (r : RowV) (L1 L2 L3 : List Int) (w : World) (hr : r.is w L1 L2 L3) (l1 : r.m1 ≤ 1048576) (l2 : r.m2 ≤ 1048576) (l3 : r.m3 ≤ 1048576) :
    Calls Try.prog 30 #[r.v] w fun e w' => ToRow w L1 L2 L3 e w' := by
  have e1 := hr.r1.len
  have e2 := hr.r2.len
  have e3 := hr.r3.len
  obtain ⟨a1, a2, a3, m1, m2, m3, k1, k2, k3⟩ := r
  unfold RowV.v
  simp only at l1 l2 l3 e1 e2 e3 ⊢
  subst e1 e2 e3
  have T1 := hide (fun w1 (hb : Below w.heap.size w w1) => toInts_any a1 L1.length k1 L1 w1 (hr.r1.below hb) l1)
  have T2 := hide (fun w1 (hb : Below w.heap.size w w1) => toInts_any a2 L2.length k2 L2 w1 (hr.r2.below hb) l2)
  have T3 := hide (fun w1 (hb : Below w.heap.size w w1) => toInts_any a3 L3.length k3 L3 w1 (hr.r3.below hb) l3)
  clear hr
  generalize hn1 : L1.length = n1 at T1
  generalize hn2 : L2.length = n2 at T2
  generalize hn3 : L3.length = n3 at T3
  have N1 := hide hn1
  have N2 := hide hn2
  have N3 := hide hn3
  clear hn1 hn2 hn3
  go_enter Try.func30, Try.ntmps30
  go_wp2_with fail
  refine (T1.out _ (by repeat' first | with_reducible exact Below.refl _ _ | with_reducible assumption | with_reducible refine below_drewN ?_ _ | with_reducible refine balloc ?_ _ | with_reducible refine Below.drew ?_ | with_reducible refine Below.setCell ?_ (by first | (simp; done) | (simp; omega) | omega) _ | with_reducible refine bstep ?_ (by assumption))).mono ?_
  rintro e w1 ⟨g1, rfl, x1, o1, hb1⟩
  have TA : TriW w1 w.heap.size (.slice a1 n1 k1) (.slice a2 n2 k2) (.slice a3 n3 k3) := (((TriW.new w _ _ _ _ _ rfl).alloc _).alloc _).below hb1
  have TB : TriW w1 (w.heap.size + 1) (.slice none 0 0) (.slice none 0 0) (.slice none 0 0) := ((TriW.new (w.alloc _) _ _ _ _ _ (by simp)).alloc _).below hb1
  have TC : TriW w1 (w.heap.size + 2) (.slice none 0 0) (.slice none 0 0) (.slice none 0 0) := (TriW.new ((w.alloc _).alloc _) _ _ _ _ _ (by simp)).below hb1
  have y1 := World.rowIs.lt o1
  have lw := TC.lt
  simp at x1
  have B1 : Below w.heap.size w w1 := (by repeat' first | with_reducible exact Below.refl _ _ | with_reducible assumption | with_reducible refine below_drewN ?_ _ | with_reducible refine balloc ?_ _ | with_reducible refine Below.drew ?_ | with_reducible refine Below.setCell ?_ (by first | (simp; done) | (simp; omega) | omega) _ | with_reducible refine bstep ?_ (by assumption))
  have O1 := hide o1
  have HA := hide TA
  have HBx := hide TB
  have HCx := hide TC
  obtain ⟨_, p0, p1, p2, _, _, _⟩ := TA
  obtain ⟨_, r0, r1, r2, s0, s1, s2⟩ := TC
  clear TB hb1 o1
  go_wp2_with fail
  have B1' := B1.setCell (p := ⟨w.heap.size + 2, 0, none⟩) (by simp) (.slice (some ⟨g1, 0, none⟩) n1 n1)
  refine (T2.out _ B1').mono ?_
  rintro e w2 ⟨g2, rfl, x2, o2, hb2⟩
  have HA := hide ((HA.out.away ⟨w.heap.size + 2, 0, none⟩ (.slice (some ⟨g1, 0, none⟩) n1 n1) (by simp)).below hb2)
  have HBx := hide ((HBx.out.away ⟨w.heap.size + 2, 0, none⟩ (.slice (some ⟨g1, 0, none⟩) n1 n1) (by simp)).below hb2)
  have HCx := hide ((HCx.out.set0 (.slice (some ⟨g1, 0, none⟩) n1 n1)).below hb2)
  have O1 := hide ((own_away O1.out ⟨w.heap.size + 2, 0, none⟩ (.slice (some ⟨g1, 0, none⟩) n1 n1) (by simp; omega)).below hb2)
  have x2' : w1.heap.size ≤ g2 := by simpa [World.setCell] using x2
  have z2 : w1.heap.size ≤ w2.heap.size := by simpa [World.setCell] using hb2.size
  have y2 := World.rowIs.lt o2
  have O2 := hide o2
  have B2 := bstep B1' hb2
  clear p0 p1 p2 r0 r1 r2 s0 s1 s2 hb2 o2 x2
  obtain ⟨_, p0, p1, p2, _, _, _⟩ := HA.out
  obtain ⟨_, r0, r1, r2, s0, s1, s2⟩ := HCx.out
  go_wp2_with fail
  have B2' := B2.setCell (p := ⟨w.heap.size + 2, 1, none⟩) (by simp) (.slice (some ⟨g2, 0, none⟩) n2 n2)
  refine (T3.out _ B2').mono ?_
  rintro e w3 ⟨g3, rfl, x3, o3, hb3⟩
  have HBx := hide ((HBx.out.away ⟨w.heap.size + 2, 1, none⟩ (.slice (some ⟨g2, 0, none⟩) n2 n2) (by simp)).below hb3)
  have HCx := hide ((HCx.out.set1 (.slice (some ⟨g2, 0, none⟩) n2 n2)).below hb3)
  have O1 := hide ((own_away O1.out ⟨w.heap.size + 2, 1, none⟩ (.slice (some ⟨g2, 0, none⟩) n2 n2) (by simp; omega)).below hb3)
  have O2 := hide ((own_away O2.out ⟨w.heap.size + 2, 1, none⟩ (.slice (some ⟨g2, 0, none⟩) n2 n2) (by simp; omega)).below hb3)
  have x3' : w2.heap.size ≤ g3 := by simpa [World.setCell] using x3
  have z3 : w2.heap.size ≤ w3.heap.size := by simpa [World.setCell] using hb3.size
  have y3 := World.rowIs.lt o3
  have O3 := hide o3
  have B3 := bstep B2' hb3
  clear p0 p1 p2 r0 r1 r2 s0 s1 s2 hb3 o3 x3
  obtain ⟨_, p0, p1, p2, f0, f1, f2⟩ := HBx.out
  obtain ⟨_, r0, r1, r2, s0, s1, s2⟩ := HCx.out
  go_wp2_with fail
  refine bodyPost_ret (v := .agg #[.slice (some ⟨g1, 0, none⟩) n1 n1, .slice (some ⟨g2, 0, none⟩) n2 n2, .slice (some ⟨g3, 0, none⟩) n3 n3]) ?_ rfl ⟨g1, g2, g3, ?_, ⟨?_, ?_, ?_, by omega, ?_, by omega⟩, ?_⟩
  · simp [results, Try.results30, go_sem, *]
  · rw [N1.out, N2.out, N3.out]; rfl
  · exact own_away (own_away (own_away (own_away O1.out _ _ (by simp; omega)) _ _ (by simp; omega)) _ _ (by simp; omega)) _ _ (by simp; omega)
  · exact own_away (own_away (own_away (own_away O2.out _ _ (by simp; omega)) _ _ (by simp; omega)) _ _ (by simp; omega)) _ _ (by simp; omega)
  · exact own_away (own_away (own_away (own_away O3.out _ _ (by simp; omega)) _ _ (by simp; omega)) _ _ (by simp; omega)) _ _ (by simp; omega)
  · simp [World.setCell]; omega
  · exact (((B3.setCell (by first | (simp; done) | (simp; omega)) _).setCell (by first | (simp; done) | (simp; omega)) _).setCell (by first | (simp; done) | (simp; omega)) _).setCell (by first | (simp; done) | (simp; omega)) _

set_option maxHeartbeats 4000000 in
theorem eqRowV_same (r s : RowV) (L1 L2 L3 : List Int) (w : World) (hr : r.is w L1 L2 L3) (hs : s.is w L1 L2 L3) (q1 : r.m1 ≤ 1048576) (q2 : r.m2 ≤ 1048576) (q3 : r.m3 ≤ 1048576) :
    Calls Try.prog 36 #[r.v, s.v] w fun e w' => e = .returned (.bool true) ∧ Below w.heap.size w w' := by
  obtain ⟨a1, a2, a3, m1, m2, m3, k1, k2, k3⟩ := r
  obtain ⟨b1, b2, b3, n1, n2, n3, j1, j2, j3⟩ := s
  obtain ⟨r1, r2, r3⟩ := hr
  obtain ⟨s1, s2, s3⟩ := hs
  simp only at r1 r2 r3 s1 s2 s3 q1 q2 q3
  unfold RowV.v
  simp only
  have E1 := hide (fun w1 (hb : Below w.heap.size w w1) => eqInts_any a1 b1 m1 k1 n1 j1 L1 L1 w1 (r1.below hb) (s1.below hb) q1)
  have E2 := hide (fun w1 (hb : Below w.heap.size w w1) => eqInts_any a2 b2 m2 k2 n2 j2 L2 L2 w1 (r2.below hb) (s2.below hb) q2)
  have E3 := hide (fun w1 (hb : Below w.heap.size w w1) => eqInts_any a3 b3 m3 k3 n3 j3 L3 L3 w1 (r3.below hb) (s3.below hb) q3)
  rw [decide_eq_true rfl] at E1 E2 E3
  clear r1 r2 r3 s1 s2 s3
  obtain ⟨W0, hW0⟩ : ∃ W, (((w.alloc (.cells #[.slice a1 m1 k1, .slice a2 m2 k2, .slice a3 m3 k3] 44)).alloc (.cells #[.slice b1 n1 j1, .slice b2 n2 j2, .slice b3 n3 j3] 44))) = W := ⟨_, rfl⟩
  have T0 : TriW W0 w.heap.size (.slice a1 m1 k1) (.slice a2 m2 k2) (.slice a3 m3 k3) := hW0 ▸ (TriW.new w _ _ _ _ _ rfl).alloc _
  have U0 : TriW W0 (w.heap.size + 1) (.slice b1 n1 j1) (.slice b2 n2 j2) (.slice b3 n3 j3) := hW0 ▸ TriW.new (w.alloc _) _ _ _ _ _ (by simp)
  have B0 : Below w.heap.size w W0 := hW0 ▸ (by repeat' first | with_reducible exact Below.refl _ _ | with_reducible assumption | with_reducible refine below_drewN ?_ _ | with_reducible refine balloc ?_ _ | with_reducible refine Below.drew ?_ | with_reducible refine Below.setCell ?_ (by first | (simp; done) | (simp; omega) | omega) _ | with_reducible refine bstep ?_ (by assumption))
  have HW := hide hW0
  clear hW0
  go_enter Try.func36, Try.ntmps36
  go_wp2_with fail
  rw [HW.out]
  refine (E1.out _ B0).mono ?_
  rintro e w1 ⟨rfl, hb1⟩
  have T1 := T0.below hb1
  have U1 := U0.below hb1
  have B1 := bstep B0 hb1
  have HT := hide T1
  have HU := hide U1
  obtain ⟨_, t0, t1, t2, _, _, _⟩ := T1
  obtain ⟨_, u0, u1, u2, _, _, _⟩ := U1
  go_wp2_with fail
  refine (E2.out _ B1).mono ?_
  rintro e w2 ⟨rfl, hb2⟩
  have T2 := HT.out.below hb2
  have U2 := HU.out.below hb2
  have B2 := bstep B1 hb2
  clear t0 t1 t2 u0 u1 u2
  obtain ⟨_, t0, t1, t2, _, _, _⟩ := T2
  obtain ⟨_, u0, u1, u2, _, _, _⟩ := U2
  go_wp2_with fail
  refine (E3.out _ B2).mono ?_
  rintro e w3 ⟨rfl, hb3⟩
  go_wp2_with fail
  go_ret
  exact ⟨rfl, bstep B2 hb3⟩

end Go.Proofs.Ythiklcldbjmgfaa
