/- RowOk of the model. -/
import Derived.Test.YtbeakenblppngaaZ18
import Derived.Test.YtbeakenblppngaaZ8
import Derived.Test.YtbeakenblppngaaZ5
import Derived.Test.YtbeakenblppngaaZ14
namespace Go.Proofs.Ytbeakenblppngaa
open Go.RowKit
set_option maxRecDepth 8000
set_option linter.unusedSimpArgs false
set_option linter.unusedVariables false

/-- The number that the model takes for a code of tier 3. -/
def numS (lo hi c : Int) : Int := if c = -1 ∧ lo = cellLo lo hi 3 c then cellHi lo hi 3 c else cellLo lo hi 3 c

theorem numS_def (lo hi c : Int) : numS lo hi c = if c = -1 ∧ lo = cellLo lo hi 3 c then cellHi lo hi 3 c else cellLo lo hi 3 c := rfl

theorem TriW.belowAt {w w' : World} {b X : Nat} {v0 v1 v2 : Value} (h : TriW w b v0 v1 v2) (hb : Below X w w') (hX : b < X) : TriW w' b v0 v1 v2 :=
  ⟨Nat.lt_of_lt_of_le h.lt hb.size, (hb.cell (p := ⟨b, 0, none⟩) hX).trans h.c0, (hb.cell (p := ⟨b, 1, none⟩) hX).trans h.c1, (hb.cell (p := ⟨b, 2, none⟩) hX).trans h.c2,
    (hb.frozen (p := ⟨b, 0, none⟩) hX).trans h.f0, (hb.frozen (p := ⟨b, 1, none⟩) hX).trans h.f1, (hb.frozen (p := ⟨b, 2, none⟩) hX).trans h.f2⟩

theorem below_appQ {X B : Nat} {w wr w2 : World} {v : Value} {k : Nat} {e : TypeId} {size : Nat} {xs : List Value} (hb : Below X w wr) (hX : X ≤ wr.heap.size) (hXB : X ≤ B) (ho : wr.ownsRow B e size v k xs) (hg : wr.grownBy w2 v.ownBlock) : Below X w w2 :=
  hb.grown hg hX fun k' hk' => Nat.le_trans hXB (ho.lt k' hk').1

theorem codeB_off {lo hi t x : Int} (h : ¬ (lo ≤ x ∧ x ≤ hi)) : codeB lo hi t x = -1 := by
  have : hasB lo hi x = false := by unfold hasB inB; rw [decide_eq_false h, Bool.and_false]
  simp [codeB, this]

theorem rowAt_model {lo hi a b c : Int} (hr : rightB lo hi = true) : (cellB lo hi 3 c && ((codeB lo hi 1 (numS lo hi c) == a) && ((codeB lo hi 2 (numS lo hi c) == b) && (codeB lo hi 3 (numS lo hi c) == c)))) = rowAt lo hi a b c := by
  obtain ⟨a1, a2, a3, a4, a5⟩ := right_nums hr
  unfold rowAt
  by_cases hc : c = -1
  · subst hc
    have hcB : cellB lo hi 3 (-1) = true := by simp [cellB, hr, tierB]
    have hlo : cellLo lo hi 3 (-1) = -1048576 := by simp [cellLo, hcB]
    have hhi : cellHi lo hi 3 (-1) = 1048576 := by simp [cellHi, hcB]
    simp only [numI, numIB, if_true, hcB, Bool.true_and]
    by_cases h1 : -1048576 < lo
    · have hs : ¬ (lo ≤ numS lo hi (-1) ∧ numS lo hi (-1) ≤ hi) := by
        unfold numS; rw [hlo, if_neg (by omega)]; omega
      simp only [h1, if_true, decide_true, Bool.true_or, Bool.true_and]
      rw [codeB_off hs, codeB_off hs, codeB_off hs, codeB_off (x := lo - 1) (by omega), codeB_off (x := lo - 1) (by omega), codeB_off (x := lo - 1) (by omega)]
    · have hl : lo = -1048576 := by omega
      have hn : numS lo hi (-1) = 1048576 := by unfold numS; rw [hlo, if_pos ⟨rfl, hl⟩, hhi]
      rw [hn]
      by_cases h2 : hi < 1048576
      · simp only [h1, h2, if_true, if_false, decide_true, decide_false, Bool.or_true, Bool.true_and]
        rw [codeB_off (x := 1048576) (by omega), codeB_off (x := 1048576) (by omega), codeB_off (x := 1048576) (by omega), codeB_off (x := hi + 1) (by omega), codeB_off (x := hi + 1) (by omega), codeB_off (x := hi + 1) (by omega)]
      · simp only [h1, h2, if_false, decide_false, Bool.or_false, Bool.false_and]
        have hh : hasB lo hi 1048576 = true := by unfold hasB inB; rw [hr, decide_eq_true (by omega)]; rfl
        have h3 : codeB lo hi 3 1048576 ≠ -1 := by
          simp only [codeB, hh, show tierB 3 = true from rfl, Bool.and_self, if_true, show cellsN 3 = 256 from rfl]
          have := code_nonneg lo hi 256 1048576 (by omega) (by omega) a5
          omega
        simp [h3]
  · have hn : numS lo hi c = numI lo hi c := by unfold numS numI; rw [if_neg (by omega), if_neg hc]
    rw [hn]
    simp only [numIB, hc, if_false]

/-- Where the model looks in a round: nothing that was there has turned. -/
structure KS (w0 w : World) (p0 p1 p2 p3 : Addr) (v0 v1 v2 v3 : Value) : Prop where
  bel : Below w0.heap.size w0 w
  c0 : w.cell? p0 = some v0
  c1 : w.cell? p1 = some v1
  c2 : w.cell? p2 = some v2
  c3 : w.cell? p3 = some v3

theorem KS.of {w0 w : World} {p0 p1 p2 p3 : Addr} {v0 v1 v2 v3 : Value} (hb : Below w0.heap.size w0 w) (h0 : w0.cell? p0 = some v0) (h1 : w0.cell? p1 = some v1) (h2 : w0.cell? p2 = some v2) (h3 : w0.cell? p3 = some v3) : KS w0 w p0 p1 p2 p3 v0 v1 v2 v3 :=
  ⟨hb, (hb.cell (cellLt h0)).trans h0, (hb.cell (cellLt h1)).trans h1, (hb.cell (cellLt h2)).trans h2, (hb.cell (cellLt h3)).trans h3⟩

theorem KS.below {w0 w w' : World} {p0 p1 p2 p3 : Addr} {v0 v1 v2 v3 : Value} (h : KS w0 w p0 p1 p2 p3 v0 v1 v2 v3) (hb : Below w.heap.size w w') : KS w0 w' p0 p1 p2 p3 v0 v1 v2 v3 :=
  ⟨bstep h.bel hb, (hb.cell (cellLt h.c0)).trans h.c0, (hb.cell (cellLt h.c1)).trans h.c1, (hb.cell (cellLt h.c2)).trans h.c2, (hb.cell (cellLt h.c3)).trans h.c3⟩

/-- Whether the row of the model's numbers is this one. -/
def sameRowB (n : Nat) (f g : Nat → Int) (L1 L2 L3 : List Int) : Bool :=
  decide (ints (vcode f g (ints (fun i => numS (f i) (g i) (nth L3 i)) n) 1) n = L1) && (decide (ints (vcode f g (ints (fun i => numS (f i) (g i) (nth L3 i)) n) 2) n = L2) && decide (ints (vcode f g (ints (fun i => numS (f i) (g i) (nth L3 i)) n) 3) n = L3))

theorem Below.drewN {X : Nat} {a b : World} (h : Below X a b) (n : Nat) : Below X a (b.drewN n) := ⟨h.os, h.tape, h.output, h.size, h.block⟩

theorem owns_drewNP {w : World} {base : Nat} {e : TypeId} {size : Nat} {v : Value} {n : Nat} {xs : List Value} (m : Nat) (h : w.ownsRow base e size v n xs) : (w.drewN m).ownsRow base e size v n xs := h

theorem balloc' {X : Nat} {w a : World} (h : Below X w a) (hX : X ≤ a.heap.size) (o : Obj) : Below X w (a.alloc o) := h.alloc hX o

end Go.Proofs.Ytbeakenblppngaa
/- RowOk: the model at all arguments; it is what the program asks. -/
namespace Go.Proofs.Ytbeakenblppngaa
open Go.RowKit
set_option maxRecDepth 8000
set_option linter.unusedSimpArgs false
set_option linter.unusedVariables false

theorem ints_dec {c : Nat → Int} {n : Nat} {L : List Int} (hl : L.length = n) : decide (ints c n = L) = allN n (fun i => c i == nth L i) := by
  subst hl
  by_cases h : ints c L.length = L
  · rw [decide_eq_true h, allN_yes]
    intro i hi
    have : nth (ints c L.length) i = nth L i := by rw [h]
    rw [nth_ints _ _ _ hi] at this
    simp [this]
  · rw [decide_eq_false h]
    symm
    rw [Bool.eq_false_iff]
    intro q
    refine h (nth_ext (ints_len _ _) fun j hj => ?_)
    rw [ints_len] at hj
    rw [nth_ints _ _ _ hj]
    simpa using allN_at q hj

theorem allN_and (n : Nat) (p q : Nat → Bool) : (allN n p && allN n q) = allN n (fun i => p i && q i) := by
  rw [Bool.eq_iff_iff]
  constructor
  · intro h
    simp only [Bool.and_eq_true] at h
    exact allN_yes fun i hi => by rw [allN_at h.1 hi, allN_at h.2 hi]; rfl
  · intro h
    simp only [Bool.and_eq_true]
    have : ∀ i, i < n → p i = true ∧ q i = true := fun i hi => by simpa using allN_at h hi
    exact ⟨allN_yes fun i hi => (this i hi).1, allN_yes fun i hi => (this i hi).2⟩

theorem allN_same {n : Nat} {p q : Nat → Bool} (h : ∀ i, i < n → p i = q i) : allN n p = allN n q := by
  unfold allN
  rw [Bool.eq_iff_iff, List.all_eq_true, List.all_eq_true]
  constructor
  · intro k i hi; rw [← h i (List.mem_range.1 hi)]; exact k i hi
  · intro k i hi; rw [h i (List.mem_range.1 hi)]; exact k i hi

theorem rowOk_model {n : Nat} {f g : Nat → Int} {L1 L2 L3 : List Int} (hr : ∀ i, i < n → rightB (f i) (g i) = true) (l3 : L3.length = n) :
    (allN n (fun i => cellB (f i) (g i) 3 (nth L3 i)) && sameRowB n f g L1 L2 L3) = (decide (L1.length = n ∧ L2.length = n ∧ L3.length = n) && allN n (fun i => rowAt (f i) (g i) (nth L1 i) (nth L2 i) (nth L3 i))) := by
  unfold sameRowB
  by_cases h1 : L1.length = n
  · by_cases h2 : L2.length = n
    · rw [ints_dec h1, ints_dec h2, ints_dec l3, allN_and, allN_and, allN_and, decide_eq_true ⟨h1, h2, l3⟩, Bool.true_and]
      refine allN_same fun i hi => ?_
      rw [← rowAt_model (hr i hi)]
      simp only [vcode, nth_ints _ _ _ hi]
    · rw [show decide (L1.length = n ∧ L2.length = n ∧ L3.length = n) = false from decide_eq_false (fun q => h2 q.2.1), Bool.false_and]
      rw [show decide (ints (vcode f g (ints (fun i => numS (f i) (g i) (nth L3 i)) n) 2) n = L2) = false from decide_eq_false (fun q => h2 (by rw [← q, ints_len]))]
      simp
  · rw [show decide (L1.length = n ∧ L2.length = n ∧ L3.length = n) = false from decide_eq_false (fun q => h1 q.1), Bool.false_and]
    rw [show decide (ints (vcode f g (ints (fun i => numS (f i) (g i) (nth L3 i)) n) 1) n = L1) = false from decide_eq_false (fun q => h1 (by rw [← q, ints_len]))]
    simp





/-- szRow answers a number below 0 where the row has more than is left. -/
def szRowV (left : Int) (r : RowV) : Int := if left - (r.m1 : Int) - (r.m2 : Int) - (r.m3 : Int) < 0 then -1 else left - (r.m1 : Int) - (r.m2 : Int) - (r.m3 : Int)

set_option maxHeartbeats 4000000 in
theorem szRow_any (r : RowV) (left : Int) (w : World) (h0 : 0 ≤ left) (h1 : left ≤ 1048576) (l1 : r.m1 ≤ 9223372036854775807) (l2 : r.m2 ≤ 9223372036854775807) (l3 : r.m3 ≤ 9223372036854775807) :
    Calls Try.prog 16 #[r.v, .int .i64 left] w fun e w' => e = .returned (.int .i64 (szRowV left r)) ∧ Below w.heap.size w w' := by
  obtain ⟨a1, a2, a3, m1, m2, m3, k1, k2, k3⟩ := r
  unfold RowV.v szRowV
  simp only at l1 l2 l3 ⊢
  have S1 := hide (fun w => szInts_any a1 m1 k1 left w h0 h1 l1)
  by_cases x1 : left - (m1 : Int) < 0
  · rw [show szN left m1 = -1 from if_pos x1] at S1
    rw [if_pos (by omega)]
    clear x1
    go_enter Try.func16, Try.ntmps16
    go_wp2_with fail
    refine (S1.out _).mono ?_
    rintro e w1 ⟨rfl, rfl⟩
    go_wp2_with fail
    go_ret
    exact ⟨rfl, (by repeat' first | with_reducible exact Below.refl _ _ | with_reducible assumption | with_reducible refine below_drewN ?_ _ | with_reducible refine balloc ?_ _ | with_reducible refine Below.drew ?_ | with_reducible refine Below.setCell ?_ (by first | (simp; done) | (simp; omega) | omega) _ | with_reducible refine bstep ?_ (by assumption))⟩
  · rw [show szN left m1 = left - m1 from if_neg x1] at S1
    have S2 := hide (fun w => szInts_any a2 m2 k2 (left - m1) w (by omega) (by omega) l2)
    by_cases x2 : left - (m1 : Int) - (m2 : Int) < 0
    · rw [show szN (left - m1) m2 = -1 from if_pos x2] at S2
      rw [if_pos (by omega)]
      go_enter Try.func16, Try.ntmps16
      go_wp2_with fail
      refine (S1.out _).mono ?_
      rintro e w1 ⟨rfl, rfl⟩
      go_wp2_with fail
      refine (S2.out _).mono ?_
      rintro e w1 ⟨rfl, rfl⟩
      go_wp2_with fail
      go_ret
      exact ⟨rfl, (by repeat' first | with_reducible exact Below.refl _ _ | with_reducible assumption | with_reducible refine below_drewN ?_ _ | with_reducible refine balloc ?_ _ | with_reducible refine Below.drew ?_ | with_reducible refine Below.setCell ?_ (by first | (simp; done) | (simp; omega) | omega) _ | with_reducible refine bstep ?_ (by assumption))⟩
    · rw [show szN (left - m1) m2 = left - m1 - m2 from if_neg x2] at S2
      have S3 := hide (fun w => szInts_any a3 m3 k3 (left - m1 - m2) w (by omega) (by omega) l3)
      obtain ⟨v, hv⟩ : ∃ v, szN (left - m1 - m2) m3 = v := ⟨_, rfl⟩
      have hv' : (if left - (m1 : Int) - (m2 : Int) - (m3 : Int) < 0 then -1 else left - (m1 : Int) - (m2 : Int) - (m3 : Int)) = v := hv
      rw [hv']
      rw [hv] at S3
      have hD : v = -1 ∨ 0 ≤ v := by unfold szN at hv; omega
      clear hv hv'
      rcases hD with rfl | hv0
      all_goals
        go_enter Try.func16, Try.ntmps16
        go_wp2_with fail
        refine (S1.out _).mono ?_
        rintro e w1 ⟨rfl, rfl⟩
        go_wp2_with fail
        refine (S2.out _).mono ?_
        rintro e w1 ⟨rfl, rfl⟩
        go_wp2_with fail
        refine (S3.out _).mono ?_
        rintro e w1 ⟨rfl, rfl⟩
        go_wp2_with fail
        go_ret
        exact ⟨rfl, (by repeat' first | with_reducible exact Below.refl _ _ | with_reducible assumption | with_reducible refine below_drewN ?_ _ | with_reducible refine balloc ?_ _ | with_reducible refine Below.drew ?_ | with_reducible refine Below.setCell ?_ (by first | (simp; done) | (simp; omega) | omega) _ | with_reducible refine bstep ?_ (by assumption))⟩

/-- A row of the call's own, copied out of one that is read: each of its lists has a block of its own. -/
structure Mine3 (B C : Nat) (w : World) (g1 g2 g3 : Nat) (L1 L2 L3 : List Int) : Prop where
  o1 : Own w g1 L1
  o2 : Own w g2 L2
  o3 : Own w g3 L3
  lo : B ≤ g1 ∧ B ≤ g2 ∧ B ≤ g3
  hi : g1 < C ∧ g2 < C ∧ g3 < C
  apart : g1 ≠ g2 ∧ g1 ≠ g3 ∧ g2 ≠ g3

theorem Mine3.below {B C : Nat} {w w' : World} {g1 g2 g3 : Nat} {L1 L2 L3 : List Int} (h : Mine3 B C w g1 g2 g3 L1 L2 L3) (hb : Below w.heap.size w w') : Mine3 B C w' g1 g2 g3 L1 L2 L3 := ⟨h.o1.below hb, h.o2.below hb, h.o3.below hb, h.lo, h.hi, h.apart⟩
def rowM (g1 g2 g3 m1 m2 m3 : Nat) : RowV := ⟨some ⟨g1, 0, none⟩, some ⟨g2, 0, none⟩, some ⟨g3, 0, none⟩, m1, m2, m3, m1, m2, m3⟩

theorem Mine3.is {B C : Nat} {w : World} {g1 g2 g3 : Nat} {L1 L2 L3 : List Int} (h : Mine3 B C w g1 g2 g3 L1 L2 L3) : (rowM g1 g2 g3 L1.length L2.length L3.length).is w L1 L2 L3 := ⟨h.o1.row, h.o2.row, h.o3.row⟩

theorem TriW.set0 {w : World} {b : Nat} {v0 v1 v2 : Value} (h : TriW w b v0 v1 v2) (u : Value) : TriW (w.setCell ⟨b, 0, none⟩ u) b u v1 v2 := by
  obtain ⟨h0, h1, h2, h3, f0, f1, f2⟩ := h
  exact ⟨by simpa [World.setCell] using h0, by simp [go_sem, h1, h2, h3], by simp [go_sem, h1, h2, h3], by simp [go_sem, h1, h2, h3], by simp [go_sem, f0], by simp [go_sem, f1], by simp [go_sem, f2]⟩

theorem TriW.set1 {w : World} {b : Nat} {v0 v1 v2 : Value} (h : TriW w b v0 v1 v2) (u : Value) : TriW (w.setCell ⟨b, 1, none⟩ u) b v0 u v2 := by
  obtain ⟨h0, h1, h2, h3, f0, f1, f2⟩ := h
  exact ⟨by simpa [World.setCell] using h0, by simp [go_sem, h1, h2, h3], by simp [go_sem, h1, h2, h3], by simp [go_sem, h1, h2, h3], by simp [go_sem, f0], by simp [go_sem, f1], by simp [go_sem, f2]⟩

def ToRow (w : World) (L1 L2 L3 : List Int) (e : Ending) (w' : World) : Prop :=
  ∃ g1 g2 g3, e = .returned (rowM g1 g2 g3 L1.length L2.length L3.length).v ∧ Mine3 w.heap.size w'.heap.size w' g1 g2 g3 L1 L2 L3 ∧ Below w.heap.size w w'

set_option maxHeartbeats 4000000 in
theorem toRow_any (r : RowV) (L1 L2 L3 : List Int) (w : World) (hr : r.is w L1 L2 L3) (l1 : r.m1 ≤ 1048576) (l2 : r.m2 ≤ 1048576) (l3 : r.m3 ≤ 1048576) :
    Calls Try.prog 24 #[r.v] w fun e w' => ToRow w L1 L2 L3 e w' := by
  have e1 := hr.r1.len
  have e2 := hr.r2.len
  have e3 := hr.r3.len
  obtain ⟨a1, a2, a3, m1, m2, m3, k1, k2, k3⟩ := r
  unfold RowV.v
  simp only at l1 l2 l3 e1 e2 e3 ⊢
  subst e1 e2 e3
  have T1 := hide (fun w1 (hb : Below w.heap.size w w1) => toInts_any a1 L1.length k1 L1 w1 (hr.r1.below hb) l1)
  have T2 := hide (fun w1 (hb : Below w.heap.size w w1) => toInts_any a2 L2.length k2 L2 w1 (hr.r2.below hb) l2)
  have T3 := hide (fun w1 (hb : Below w.heap.size w w1) => toInts_any a3 L3.length k3 L3 w1 (hr.r3.below hb) l3)
  clear hr
  generalize hn1 : L1.length = n1 at T1
  generalize hn2 : L2.length = n2 at T2
  generalize hn3 : L3.length = n3 at T3
  have N1 := hide hn1
  have N2 := hide hn2
  have N3 := hide hn3
  clear hn1 hn2 hn3
  go_enter Try.func24, Try.ntmps24
  go_wp2_with fail
  refine (T1.out _ (by repeat' first | with_reducible exact Below.refl _ _ | with_reducible assumption | with_reducible refine below_drewN ?_ _ | with_reducible refine balloc ?_ _ | with_reducible refine Below.drew ?_ | with_reducible refine Below.setCell ?_ (by first | (simp; done) | (simp; omega) | omega) _ | with_reducible refine bstep ?_ (by assumption))).mono ?_
  rintro e w1 ⟨g1, rfl, x1, o1, hb1⟩
  have TA : TriW w1 w.heap.size (.slice a1 n1 k1) (.slice a2 n2 k2) (.slice a3 n3 k3) := (((TriW.new w _ _ _ _ _ rfl).alloc _).alloc _).below hb1
  have TB : TriW w1 (w.heap.size + 1) (.slice none 0 0) (.slice none 0 0) (.slice none 0 0) := ((TriW.new (w.alloc _) _ _ _ _ _ (by simp)).alloc _).below hb1
  have TC : TriW w1 (w.heap.size + 2) (.slice none 0 0) (.slice none 0 0) (.slice none 0 0) := (TriW.new ((w.alloc _).alloc _) _ _ _ _ _ (by simp)).below hb1
  have y1 := World.rowIs.lt o1
  have lw := TC.lt
  simp at x1
  have B1 : Below w.heap.size w w1 := (by repeat' first | with_reducible exact Below.refl _ _ | with_reducible assumption | with_reducible refine below_drewN ?_ _ | with_reducible refine balloc ?_ _ | with_reducible refine Below.drew ?_ | with_reducible refine Below.setCell ?_ (by first | (simp; done) | (simp; omega) | omega) _ | with_reducible refine bstep ?_ (by assumption))
  have O1 := hide o1
  have HA := hide TA
  have HBx := hide TB
  have HCx := hide TC
  obtain ⟨_, p0, p1, p2, _, _, _⟩ := TA
  obtain ⟨_, r0, r1, r2, s0, s1, s2⟩ := TC
  clear TB hb1 o1
  go_wp2_with fail
  have B1' := B1.setCell (p := ⟨w.heap.size + 2, 0, none⟩) (by simp) (.slice (some ⟨g1, 0, none⟩) n1 n1)
  refine (T2.out _ B1').mono ?_
  rintro e w2 ⟨g2, rfl, x2, o2, hb2⟩
  have HA := hide ((HA.out.away ⟨w.heap.size + 2, 0, none⟩ (.slice (some ⟨g1, 0, none⟩) n1 n1) (by simp)).below hb2)
  have HBx := hide ((HBx.out.away ⟨w.heap.size + 2, 0, none⟩ (.slice (some ⟨g1, 0, none⟩) n1 n1) (by simp)).below hb2)
  have HCx := hide ((HCx.out.set0 (.slice (some ⟨g1, 0, none⟩) n1 n1)).below hb2)
  have O1 := hide ((own_away O1.out ⟨w.heap.size + 2, 0, none⟩ (.slice (some ⟨g1, 0, none⟩) n1 n1) (by simp; omega)).below hb2)
  have x2' : w1.heap.size ≤ g2 := by simpa [World.setCell] using x2
  have z2 : w1.heap.size ≤ w2.heap.size := by simpa [World.setCell] using hb2.size
  have y2 := World.rowIs.lt o2
  have O2 := hide o2
  have B2 := bstep B1' hb2
  clear p0 p1 p2 r0 r1 r2 s0 s1 s2 hb2 o2 x2
  obtain ⟨_, p0, p1, p2, _, _, _⟩ := HA.out
  obtain ⟨_, r0, r1, r2, s0, s1, s2⟩ := HCx.out
  go_wp2_with fail
  have B2' := B2.setCell (p := ⟨w.heap.size + 2, 1, none⟩) (by simp) (.slice (some ⟨g2, 0, none⟩) n2 n2)
  refine (T3.out _ B2').mono ?_
  rintro e w3 ⟨g3, rfl, x3, o3, hb3⟩
  have HBx := hide ((HBx.out.away ⟨w.heap.size + 2, 1, none⟩ (.slice (some ⟨g2, 0, none⟩) n2 n2) (by simp)).below hb3)
  have HCx := hide ((HCx.out.set1 (.slice (some ⟨g2, 0, none⟩) n2 n2)).below hb3)
  have O1 := hide ((own_away O1.out ⟨w.heap.size + 2, 1, none⟩ (.slice (some ⟨g2, 0, none⟩) n2 n2) (by simp; omega)).below hb3)
  have O2 := hide ((own_away O2.out ⟨w.heap.size + 2, 1, none⟩ (.slice (some ⟨g2, 0, none⟩) n2 n2) (by simp; omega)).below hb3)
  have x3' : w2.heap.size ≤ g3 := by simpa [World.setCell] using x3
  have z3 : w2.heap.size ≤ w3.heap.size := by simpa [World.setCell] using hb3.size
  have y3 := World.rowIs.lt o3
  have O3 := hide o3
  have B3 := bstep B2' hb3
  clear p0 p1 p2 r0 r1 r2 s0 s1 s2 hb3 o3 x3
  obtain ⟨_, p0, p1, p2, f0, f1, f2⟩ := HBx.out
  obtain ⟨_, r0, r1, r2, s0, s1, s2⟩ := HCx.out
  go_wp2_with fail
  refine bodyPost_ret (v := .agg #[.slice (some ⟨g1, 0, none⟩) n1 n1, .slice (some ⟨g2, 0, none⟩) n2 n2, .slice (some ⟨g3, 0, none⟩) n3 n3]) ?_ rfl ⟨g1, g2, g3, ?_, ⟨?_, ?_, ?_, by omega, ?_, by omega⟩, ?_⟩
  · simp [results, Try.results24, go_sem, *]
  · rw [N1.out, N2.out, N3.out]; rfl
  · exact own_away (own_away (own_away (own_away O1.out _ _ (by simp; omega)) _ _ (by simp; omega)) _ _ (by simp; omega)) _ _ (by simp; omega)
  · exact own_away (own_away (own_away (own_away O2.out _ _ (by simp; omega)) _ _ (by simp; omega)) _ _ (by simp; omega)) _ _ (by simp; omega)
  · exact own_away (own_away (own_away (own_away O3.out _ _ (by simp; omega)) _ _ (by simp; omega)) _ _ (by simp; omega)) _ _ (by simp; omega)
  · simp [World.setCell]; omega
  · exact (((B3.setCell (by first | (simp; done) | (simp; omega)) _).setCell (by first | (simp; done) | (simp; omega)) _).setCell (by first | (simp; done) | (simp; omega)) _).setCell (by first | (simp; done) | (simp; omega)) _

set_option maxHeartbeats 4000000 in
theorem eqRowV_same (r s : RowV) (L1 L2 L3 : List Int) (w : World) (hr : r.is w L1 L2 L3) (hs : s.is w L1 L2 L3) (q1 : r.m1 ≤ 1048576) (q2 : r.m2 ≤ 1048576) (q3 : r.m3 ≤ 1048576) :
    Calls Try.prog 32 #[r.v, s.v] w fun e w' => e = .returned (.bool true) ∧ Below w.heap.size w w' := by
  obtain ⟨a1, a2, a3, m1, m2, m3, k1, k2, k3⟩ := r
  obtain ⟨b1, b2, b3, n1, n2, n3, j1, j2, j3⟩ := s
  obtain ⟨r1, r2, r3⟩ := hr
  obtain ⟨s1, s2, s3⟩ := hs
  simp only at r1 r2 r3 s1 s2 s3 q1 q2 q3
  unfold RowV.v
  simp only
  have E1 := hide (fun w1 (hb : Below w.heap.size w w1) => eqInts_any a1 b1 m1 k1 n1 j1 L1 L1 w1 (r1.below hb) (s1.below hb) q1)
  have E2 := hide (fun w1 (hb : Below w.heap.size w w1) => eqInts_any a2 b2 m2 k2 n2 j2 L2 L2 w1 (r2.below hb) (s2.below hb) q2)
  have E3 := hide (fun w1 (hb : Below w.heap.size w w1) => eqInts_any a3 b3 m3 k3 n3 j3 L3 L3 w1 (r3.below hb) (s3.below hb) q3)
  rw [decide_eq_true rfl] at E1 E2 E3
  clear r1 r2 r3 s1 s2 s3
  obtain ⟨W0, hW0⟩ : ∃ W, (((w.alloc (.cells #[.slice a1 m1 k1, .slice a2 m2 k2, .slice a3 m3 k3] 39)).alloc (.cells #[.slice b1 n1 j1, .slice b2 n2 j2, .slice b3 n3 j3] 39))) = W := ⟨_, rfl⟩
  have T0 : TriW W0 w.heap.size (.slice a1 m1 k1) (.slice a2 m2 k2) (.slice a3 m3 k3) := hW0 ▸ (TriW.new w _ _ _ _ _ rfl).alloc _
  have U0 : TriW W0 (w.heap.size + 1) (.slice b1 n1 j1) (.slice b2 n2 j2) (.slice b3 n3 j3) := hW0 ▸ TriW.new (w.alloc _) _ _ _ _ _ (by simp)
  have B0 : Below w.heap.size w W0 := hW0 ▸ (by repeat' first | with_reducible exact Below.refl _ _ | with_reducible assumption | with_reducible refine below_drewN ?_ _ | with_reducible refine balloc ?_ _ | with_reducible refine Below.drew ?_ | with_reducible refine Below.setCell ?_ (by first | (simp; done) | (simp; omega) | omega) _ | with_reducible refine bstep ?_ (by assumption))
  have HW := hide hW0
  clear hW0
  go_enter Try.func32, Try.ntmps32
  go_wp2_with fail
  rw [HW.out]
  refine (E1.out _ B0).mono ?_
  rintro e w1 ⟨rfl, hb1⟩
  have T1 := T0.below hb1
  have U1 := U0.below hb1
  have B1 := bstep B0 hb1
  have HT := hide T1
  have HU := hide U1
  obtain ⟨_, t0, t1, t2, _, _, _⟩ := T1
  obtain ⟨_, u0, u1, u2, _, _, _⟩ := U1
  go_wp2_with fail
  refine (E2.out _ B1).mono ?_
  rintro e w2 ⟨rfl, hb2⟩
  have T2 := HT.out.below hb2
  have U2 := HU.out.below hb2
  have B2 := bstep B1 hb2
  clear t0 t1 t2 u0 u1 u2
  obtain ⟨_, t0, t1, t2, _, _, _⟩ := T2
  obtain ⟨_, u0, u1, u2, _, _, _⟩ := U2
  go_wp2_with fail
  refine (E3.out _ B2).mono ?_
  rintro e w3 ⟨rfl, hb3⟩
  go_wp2_with fail
  go_ret
  exact ⟨rfl, bstep B2 hb3⟩

end Go.Proofs.Ytbeakenblppngaa

/- BoxOf of the program. -/
namespace Go.Proofs.Ytbeakenblppngaa
open Go.RowKit
set_option maxRecDepth 8000
set_option linter.unusedSimpArgs false
set_option linter.unusedVariables false

/-- A row's codes of a tier. -/
def tierL (t : Int) (L1 L2 L3 : List Int) : List Int := if t = 1 then L1 else if t = 2 then L2 else L3
def boxF (f g : Nat → Int) (t : Int) (L : List Int) (i : Nat) : Int := cellLo (f i) (g i) t (nth L i)
def boxG (f g : Nat → Int) (t : Int) (L : List Int) (i : Nat) : Int := cellHi (f i) (g i) t (nth L i)

/-- What BoxOf holds in a round: the range's box, and the packed row's. -/
structure BXS (w : World) (b p : Nat) (lo hi : Int) (A B C D n : Value) : Prop where
  lt : b < w.heap.size
  c0 : w.cell? ⟨b, 0, none⟩ = some (.int .i64 lo)
  c1 : w.cell? ⟨b, 1, none⟩ = some (.int .i64 hi)
  pk : Five w p A B C D n

theorem BXS.below {w w' : World} {b p : Nat} {lo hi : Int} {A B C D n : Value} (h : BXS w b p lo hi A B C D n) (hb : Below w.heap.size w w') : BXS w' b p lo hi A B C D n :=
  ⟨Nat.lt_of_lt_of_le h.lt hb.size, (hb.cell (p := ⟨b, 0, none⟩) h.lt).trans h.c0, (hb.cell (p := ⟨b, 1, none⟩) h.lt).trans h.c1, h.pk.below hb⟩

theorem BXS.away {w : World} {b p : Nat} {lo hi : Int} {A B C D n : Value} (h : BXS w b p lo hi A B C D n) (x : Addr) (v : Value) (h1 : b ≠ x.block) (h2 : p ≠ x.block) : BXS (w.setCell x v) b p lo hi A B C D n := by
  have e := Below.heap_setCell w x v b h1
  obtain ⟨l, c0, c1, pk⟩ := h
  refine ⟨by simpa [World.setCell] using l, ?_, ?_, pk.away x v h2⟩ <;> simp only [World.cell?, e] at * <;> assumption

theorem idx3 (x y z : Int) (w : World) : (Instr.index 108 (.agg #[.int .i64 x, .int .i64 y, .int .i64 z]) (.int .i64 (IntKind.i64.wrap 0))).run Try.prog w = .ok (.int .i64 x) w ∧ (Instr.index 108 (.agg #[.int .i64 x, .int .i64 y, .int .i64 z]) (.int .i64 (IntKind.i64.wrap 1))).run Try.prog w = .ok (.int .i64 y) w ∧ (Instr.index 108 (.agg #[.int .i64 x, .int .i64 y, .int .i64 z]) (.int .i64 (IntKind.i64.wrap 2))).run Try.prog w = .ok (.int .i64 z) w := by
  refine ⟨?_, ?_, ?_⟩ <;> kernel_rfl

/-- The answer of the program's BoxOf. -/
def IBox (w : World) (ok : Bool) (n : Nat) (F G : Nat → Int) (e : Ending) (w' : World) : Prop :=
  ∃ a m, e = .returned (.tuple #[.slice a m m, .bool ok]) ∧ m = (if ok then n else 0) ∧ (m = 0 ∨ ∃ b, a = some ⟨b, 0, none⟩ ∧ w.heap.size ≤ b ∧ b < w'.heap.size ∧ OwnP w' b m F G) ∧ Below w.heap.size w w'

set_option maxHeartbeats 8000000 in
set_option maxRecDepth 4000 in
theorem iBoxOf_some (b off n cap : Nat) (f g : Nat → Int) (r : RowV) (L1 L2 L3 : List Int) (t : Int) (w : World) (ht : tierB t = true) (h8 : n ≤ 8) (h1 : 1 ≤ n) (hb : b < w.heap.size)
    (hc : ∀ i, i < n → w.cell? ⟨b, off + i * 2, none⟩ = some (.int .i64 (f i)) ∧ w.cell? ⟨b, off + i * 2 + 1, none⟩ = some (.int .i64 (g i)))
    (CK : CodesOk n (nth L1) (nth L2) (nth L3))
    (PR' : Hid (∀ w1, Below w.heap.size w w1 → Calls Try.prog 60 #[.slice (some ⟨b, off, none⟩) n cap, r.v] w1 fun e w' => e = .returned (.tuple #[PK (nth L1) (nth L2) (nth L3) n n, .bool true]) ∧ Below w1.heap.size w1 w')) :
    Calls Try.prog 49 #[.slice (some ⟨b, off, none⟩) n cap, r.v, .int .i64 t] w fun e w' => IBox w true n (boxF f g t (tierL t L1 L2 L3)) (boxG f g t (tierL t L1 L2 L3)) e w' := by
  have hmk := run_make_pairs (P := Try.prog) 36 56 (.int .i64 0) (.int .i64 0) 16 Try.underlying36 Try.infoRange .i64 .i64 n (by omega) (by omega)
  have HC := hide hc
  obtain ⟨a1, a2, a3, m1, m2, m3, k1, k2, k3⟩ := r
  unfold RowV.v at PR' ⊢
  simp only at PR' ⊢
  have CL := hide (iCellsOf_any t)
  have hcn : (cellsN t == 0) = false := by rcases tier_cases ht with rfl | rfl | rfl <;> rfl
  have CD := hide (fun (k : Nat) (hk : k < n) (w1 : World) => codes_any (nth L1) (nth L2) (nth L3) n n k w1 h8 hk CK)
  have CE := hide (fun (k : Nat) => iCellOf_any (f k) (g k) t (nth (tierL t L1 L2 L3) k))
  unfold cellT at CE
  simp only [show ∀ k, cellLo (f k) (g k) t (nth (tierL t L1 L2 L3) k) = boxF f g t (tierL t L1 L2 L3) k from fun _ => rfl, show ∀ k, cellHi (f k) (g k) t (nth (tierL t L1 L2 L3) k) = boxG f g t (tierL t L1 L2 L3) k from fun _ => rfl] at CE
  obtain ⟨F, hF⟩ : ∃ F, boxF f g t (tierL t L1 L2 L3) = F := ⟨_, rfl⟩
  obtain ⟨G, hG⟩ : ∃ G, boxG f g t (tierL t L1 L2 L3) = G := ⟨_, rfl⟩
  rw [hF, hG] at CE ⊢
  clear hF hG hc CK
  unfold tierL at CE
  simp only [PK] at PR'
  obtain ⟨A, hA⟩ : ∃ x, pA (nth L1) (nth L2) (nth L3) n = x := ⟨_, rfl⟩
  obtain ⟨B, hB⟩ : ∃ x, pB (nth L1) (nth L2) (nth L3) n = x := ⟨_, rfl⟩
  obtain ⟨C, hC⟩ : ∃ x, pC (nth L1) (nth L2) (nth L3) n = x := ⟨_, rfl⟩
  obtain ⟨D, hD⟩ : ∃ x, pD (nth L1) (nth L2) (nth L3) n = x := ⟨_, rfl⟩
  rw [hA, hB, hC, hD] at PR' CD
  clear hA hB hC hD
  rcases tier_cases ht with rfl | rfl | rfl
  all_goals
    clear ht
    simp only [show ((1 : Int) = 1) = True from eq_self _, show ((2 : Int) = 1) = False from by simp, show ((2 : Int) = 2) = True from eq_self _, show ((3 : Int) = 1) = False from by simp, show ((3 : Int) = 2) = False from by simp, if_true, if_false] at CE
    go_enter Try.func49, Try.ntmps49
    go_wp2_with fail
    refine (PR'.out _ (by repeat' first | with_reducible exact Below.refl _ _ | with_reducible assumption | with_reducible refine below_drewN ?_ _ | with_reducible refine balloc ?_ _ | with_reducible refine Below.drew ?_ | with_reducible refine Below.setCell ?_ (by first | (simp; done) | (simp; omega) | omega) _ | with_reducible refine bstep ?_ (by assumption))).mono ?_
    rintro e w1 ⟨rfl, hb1⟩
    have B1 : Below w.heap.size w w1 := (by repeat' first | with_reducible exact Below.refl _ _ | with_reducible assumption | with_reducible refine below_drewN ?_ _ | with_reducible refine balloc ?_ _ | with_reducible refine Below.drew ?_ | with_reducible refine Below.setCell ?_ (by first | (simp; done) | (simp; omega) | omega) _ | with_reducible refine bstep ?_ (by assumption))
    clear hb1
    go_wp2_with fail
    refine (CL.out _).mono ?_
    rintro e w2 ⟨rfl, rfl⟩
    go_wp2_with fail
    go_loopw [31] (fun i wr => ∃ k : Nat, k ≤ n ∧ i = .int .i64 k ∧ OwnP wr (w1.heap.size + 1) n (upTo k F) (upTo k G) ∧ Five wr w1.heap.size (.int .u8 A) (.int .u32 B) (.int .u64 C) (.int .u8 D) (.int .i64 n) ∧ Below w.heap.size w wr) (fun i _ => n - (intOf i).toNat)
    case atStart =>
      have om := OwnP.made (w1.alloc (.cells #[.int .u8 A, .int .u32 B, .int .u64 C, .int .u8 D, .int .i64 n] 98)) n
      rw [World.size_alloc] at om
      exact ⟨0, Nat.zero_le _, rfl, om.congr (fun j _ => by simp [upTo]) (fun j _ => by simp [upTo]), (Five.new w1 _ _ _ _ _ _ _ rfl).alloc _, (by repeat' first | with_reducible exact Below.refl _ _ | with_reducible assumption | with_reducible refine below_drewN ?_ _ | with_reducible refine balloc ?_ _ | with_reducible refine Below.drew ?_ | with_reducible refine Below.setCell ?_ (by first | (simp; done) | (simp; omega) | omega) _ | with_reducible refine bstep ?_ (by assumption))⟩
    case round =>
      obtain ⟨k, hk, rfl, hO, hF5, hbel⟩ := hrel
      have HO := hide hO
      have HF5 := hide hF5
      have HB := hide hbel
      have hs2 := B1.size
      by_cases hlt : k < n
      · have y1 : wr.cell? ⟨b, off + k * 2, none⟩ = some (.int .i64 (f k)) := (hbel.cell (p := ⟨b, off + k * 2, none⟩) hb).trans (HC.out k hlt).1
        have y2 : wr.cell? ⟨b, off + k * 2 + 1, none⟩ = some (.int .i64 (g k)) := (hbel.cell (p := ⟨b, off + k * 2 + 1, none⟩) hb).trans (HC.out k hlt).2
        have hlt' : (k : Int) < (n : Int) := by omega
        have l5 := hF5.lt
        have lO := hO.lt
        have ba : Below wr.heap.size wr (wr.alloc (.cells #[.int .i64 (f k), .int .i64 (g k)] 56)).drew := Below.drew (balloc (Below.refl _ _) _)
        have S0 : Hid (BXS (wr.alloc (.cells #[.int .i64 (f k), .int .i64 (g k)] 56)).drew wr.heap.size w1.heap.size (f k) (g k) (.int .u8 A) (.int .u32 B) (.int .u64 C) (.int .u8 D) (.int .i64 n)) := hide ⟨by simp, by simp [go_sem], by simp [go_sem], hF5.below ba⟩
        have ix0 := fun w => (idx3 (nth L1 k) (nth L2 k) (nth L3 k) w).1
        have ix1 := fun w => (idx3 (nth L1 k) (nth L2 k) (nth L3 k) w).2.1
        have ix2 := fun w => (idx3 (nth L1 k) (nth L2 k) (nth L3 k) w).2.2
        have CDk := hide (CD.out k hlt)
        have CEk := hide (CE.out k)
        clear hO hF5 hbel
        go_wp2_with fail
        refine wp_region_held_drew (S := fun wx => BXS wx wr.heap.size w1.heap.size (f k) (g k) (.int .u8 A) (.int .u32 B) (.int .u64 C) (.int .u8 D) (.int .i64 n)) (by kernel_rfl) (S0.out) (fun hH0 => ?_)
        refine wpAnyH_take (i := 0) (oi := { dst := some 37, op := _, type := _, pos := _, after := _, guard := _ }) (v := ?_) rfl (by kernel_rfl) (by kernel_rfl) (by kernel_rfl) (fun _ _ _ h => h) (Or.inl ⟨by rfl, ?_⟩) (hH0) ?_
        rotate_left
        · (intro wx hSw; obtain ⟨_, q0, q1, ⟨_, p0, p1, p2, p3, p4, _, _, _, _, _⟩⟩ := hSw; go_simp <;> with_reducible rfl)
        simp only [Act.put, List.setIfInBounds_toArray, List.set_cons_zero, List.set_cons_succ]
        refine wpAnyH_take (i := 1) (oi := { dst := some 38, op := _, type := _, pos := _, after := _, guard := _ }) (v := ?_) rfl (by kernel_rfl) (by kernel_rfl) (by kernel_rfl) (fun _ _ _ h => h) (Or.inl ⟨by rfl, ?_⟩) (hH0) ?_
        rotate_left
        · (intro wx hSw; obtain ⟨_, q0, q1, ⟨_, p0, p1, p2, p3, p4, _, _, _, _, _⟩⟩ := hSw; go_simp <;> with_reducible rfl)
        simp only [Act.put, List.setIfInBounds_toArray, List.set_cons_zero, List.set_cons_succ]
        refine wpAnyH_take (i := 2) (oi := { dst := some 39, op := _, type := _, pos := _, after := _, guard := _ }) (v := ?_) rfl (by kernel_rfl) (by kernel_rfl) (by kernel_rfl) (fun _ _ _ h => h) (Or.inl ⟨by rfl, ?_⟩) (hH0) ?_
        rotate_left
        · (intro wx hSw; obtain ⟨_, q0, q1, ⟨_, p0, p1, p2, p3, p4, _, _, _, _, _⟩⟩ := hSw; go_simp <;> with_reducible rfl)
        simp only [Act.put, List.setIfInBounds_toArray, List.set_cons_zero, List.set_cons_succ]
        refine wpAnyH_take (i := 3) (oi := { dst := some 40, op := _, type := _, pos := _, after := _, guard := _ }) (v := ?_) rfl (by kernel_rfl) (by kernel_rfl) (by kernel_rfl) (fun _ _ _ h => h) (Or.inl ⟨by rfl, ?_⟩) (hH0) ?_
        rotate_left
        · (intro wx hSw; obtain ⟨_, q0, q1, ⟨_, p0, p1, p2, p3, p4, _, _, _, _, _⟩⟩ := hSw; go_simp <;> with_reducible rfl)
        simp only [Act.put, List.setIfInBounds_toArray, List.set_cons_zero, List.set_cons_succ]
        refine wpAnyH_take (i := 4) (oi := { dst := some 41, op := _, type := _, pos := _, after := _, guard := _ }) (v := ?_) rfl (by kernel_rfl) (by kernel_rfl) (by kernel_rfl) (fun _ _ _ h => h) (Or.inl ⟨by rfl, ?_⟩) (hH0) ?_
        rotate_left
        · (intro wx hSw; obtain ⟨_, q0, q1, ⟨_, p0, p1, p2, p3, p4, _, _, _, _, _⟩⟩ := hSw; go_simp <;> with_reducible rfl)
        simp only [Act.put, List.setIfInBounds_toArray, List.set_cons_zero, List.set_cons_succ]
        refine wpAnyH_take (i := 5) (oi := { dst := some 42, op := _, type := _, pos := _, after := _, guard := _ }) (v := ?_) rfl (by kernel_rfl) (by kernel_rfl) (by kernel_rfl) (fun _ _ _ h => h) (Or.inl ⟨by rfl, ?_⟩) (hH0) ?_
        rotate_left
        · (intro wx hSw; obtain ⟨_, q0, q1, ⟨_, p0, p1, p2, p3, p4, _, _, _, _, _⟩⟩ := hSw; go_simp <;> with_reducible rfl)
        simp only [Act.put, List.setIfInBounds_toArray, List.set_cons_zero, List.set_cons_succ]
        refine wpAnyH_take (i := 7) (oi := { dst := some 44, op := _, type := _, pos := _, after := _, guard := _ }) (v := ?_) rfl (by kernel_rfl) (by kernel_rfl) (by kernel_rfl) (fun _ _ _ h => h) (Or.inl ⟨by rfl, ?_⟩) (hH0) ?_
        rotate_left
        · (intro wx hSw; obtain ⟨_, q0, q1, ⟨_, p0, p1, p2, p3, p4, _, _, _, _, _⟩⟩ := hSw; go_simp <;> with_reducible rfl)
        simp only [Act.put, List.setIfInBounds_toArray, List.set_cons_zero, List.set_cons_succ]
        refine wpAnyH_take (i := 8) (oi := { dst := some 45, op := _, type := _, pos := _, after := _, guard := _ }) (v := ?_) rfl (by kernel_rfl) (by kernel_rfl) (by kernel_rfl) (fun _ _ _ h => h) (Or.inl ⟨by rfl, ?_⟩) (hH0) ?_
        rotate_left
        · (intro wx hSw; obtain ⟨_, q0, q1, ⟨_, p0, p1, p2, p3, p4, _, _, _, _, _⟩⟩ := hSw; go_simp <;> with_reducible rfl)
        simp only [Act.put, List.setIfInBounds_toArray, List.set_cons_zero, List.set_cons_succ]
        refine wpAnyH_ready (rs := [6]) (by kernel_rfl) (by simp) ?_
        refine AllReadyH.cons (o := { dst := some 43, op := _, type := _, pos := _, after := _, guard := _ }) rfl (fun K hK => ?_) AllReadyH.nil
        go_simp
        refine (CDk.out _).mono ?_
        rintro e w_c43_1 ⟨rfl, hb_c43_1⟩
        dsimp only
        refine hK.out _ _ (BXS.below hH0 hb_c43_1) (fun hH1 => ?_)
        clear hK K
        refine wpAnyH_take (i := 9) (oi := { dst := some 46, op := _, type := _, pos := _, after := _, guard := _ }) (v := ?_) rfl (by kernel_rfl) (by kernel_rfl) (by kernel_rfl) (fun _ _ _ h => h) (Or.inl ⟨by rfl, ?_⟩) (hH1) ?_
        rotate_left
        · (intro wx hSw; obtain ⟨_, q0, q1, ⟨_, p0, p1, p2, p3, p4, _, _, _, _, _⟩⟩ := hSw; go_simp <;> with_reducible rfl)
        simp only [Act.put, List.setIfInBounds_toArray, List.set_cons_zero, List.set_cons_succ]
        refine wpAnyH_ready (rs := [10]) (by kernel_rfl) (by simp) ?_
        refine AllReadyH.cons (o := { dst := some 47, op := _, type := _, pos := _, after := _, guard := _ }) rfl (fun K hK => ?_) AllReadyH.nil
        go_simp
        refine (CEk.out _).mono ?_
        rintro e w_c47_2 ⟨rfl, hb_c47_2⟩
        dsimp only
        refine hK.out _ _ (BXS.below hH1 hb_c47_2) (fun hH2 => ?_)
        clear hK K
        refine wpAnyH_take (i := 11) (oi := { dst := some 36, op := _, type := _, pos := _, after := _, guard := _ }) (v := ?_) rfl (by kernel_rfl) (by kernel_rfl) (by kernel_rfl) (fun _ _ _ h => h) (Or.inl ⟨by rfl, ?_⟩) (hH2) ?_
        rotate_left
        · (intro wx hSw; obtain ⟨_, q0, q1, ⟨_, p0, p1, p2, p3, p4, _, _, _, _, _⟩⟩ := hSw; go_simp <;> with_reducible rfl)
        simp only [Act.put, List.setIfInBounds_toArray, List.set_cons_zero, List.set_cons_succ]
        refine wpAnyH_take (i := 12) (oi := { dst := some 48, op := _, type := _, pos := _, after := _, guard := _ }) (v := ?_) rfl (by kernel_rfl) (by kernel_rfl) (by kernel_rfl) (fun _ _ _ h => h) (Or.inl ⟨by rfl, ?_⟩) (hH2) ?_
        rotate_left
        · (intro wx hSw; obtain ⟨_, q0, q1, ⟨_, p0, p1, p2, p3, p4, _, _, _, _, _⟩⟩ := hSw; go_simp <;> with_reducible rfl)
        simp only [Act.put, List.setIfInBounds_toArray, List.set_cons_zero, List.set_cons_succ]
        refine wpAnyH_take (i := 13) (oi := { dst := some 49, op := _, type := _, pos := _, after := _, guard := _ }) (v := ?_) rfl (by kernel_rfl) (by kernel_rfl) (by kernel_rfl) (fun _ _ _ h => h) (Or.inl ⟨by rfl, ?_⟩) (hH2) ?_
        rotate_left
        · (intro wx hSw; obtain ⟨_, q0, q1, ⟨_, p0, p1, p2, p3, p4, _, _, _, _, _⟩⟩ := hSw; go_simp <;> with_reducible rfl)
        simp only [Act.put, List.setIfInBounds_toArray, List.set_cons_zero, List.set_cons_succ]
        refine wpAnyH_take (i := 14) (oi := { dst := some 50, op := _, type := _, pos := _, after := _, guard := _ }) (v := ?_) rfl (by kernel_rfl) (by kernel_rfl) (by kernel_rfl) (fun _ _ _ h => h) (Or.inl ⟨by rfl, ?_⟩) (hH2) ?_
        rotate_left
        · (intro wx hSw; obtain ⟨_, q0, q1, ⟨_, p0, p1, p2, p3, p4, _, _, _, _, _⟩⟩ := hSw; go_simp <;> with_reducible rfl)
        simp only [Act.put, List.setIfInBounds_toArray, List.set_cons_zero, List.set_cons_succ]
        -- behind it: go_wp2_with fail, then go_meet (a cut) or go_ret; the condition at the end: hH2
        have HOa := hide (((HO.out.below ba).below hb_c43_1).below hb_c47_2)
        have x0 := HOa.out.c0 hlt
        have x1 := HOa.out.c1 hlt
        have x2 := World.rowIs.frozen HOa.out (k * 2)
        have x3 := World.rowIs.frozen HOa.out (k * 2 + 1)
        refine wpAnyH_ready (rs := [15]) (by kernel_rfl) (by simp) ?_
        refine AllReadyH.cons (o := { dst := none, op := _, type := _, pos := _, after := _, guard := _ }) rfl (fun K hK => ?_) AllReadyH.nil
        go_simp
        refine hK.out _ _ (BXS.away (BXS.away hH2 _ _ (by simp; omega) (by simp)) _ _ (by simp; omega) (by simp)) (fun hH3 => ?_)
        clear hK K
        refine wpAnyH_done (by kernel_rfl) ?_ _
        have HB' := hide (bstep (bstep (bstep HB.out ba) hb_c43_1) hb_c47_2)
        have HS := hide HOa.out.step
        clear ix0 ix1 ix2 x0 x1 x2 x3 y1 y2 hH0 hH1 hH2 hb_c43_1 hb_c47_2 HOa ba
        go_wp2_with fail
        go_roundw
        case rel => exact ⟨k + 1, by omega, by go_num, HS.out, hH3.pk, (HB'.out.setCell (by simp; omega) _).setCell (by simp; omega) _⟩
        case measure => simp [intOf]; omega
      · obtain rfl : k = n := by omega
        have lO := hO.lt
        clear hO hF5 hbel
        go_wp2_with fail
        refine bodyPost_ret (v := .tuple #[.slice (some ⟨w1.heap.size + 1, 0, none⟩) k k, .bool true]) ?_ rfl ⟨_, k, rfl, rfl, .inr ⟨_, rfl, by omega, lO, HO.out.congr (fun j hj => by rw [upTo, if_pos (by omega)]) (fun j hj => by rw [upTo, if_pos (by omega)])⟩, HB.out⟩
        simp [results, Try.results49, go_sem]
end Go.Proofs.Ytbeakenblppngaa

/- BoxOf of the program at all arguments; of the model. -/
namespace Go.Proofs.Ytbeakenblppngaa
open Go.RowKit
set_option maxRecDepth 8000
set_option linter.unusedSimpArgs false
set_option linter.unusedVariables false

set_option maxHeartbeats 4000000 in
theorem iBoxOf_any (a : Option Addr) (n cap : Nat) (f g : Nat → Int) (r : RowV) (L1 L2 L3 : List Int) (t : Int) (w : World) (h : PRow w a n f g) (hr : r.is w L1 L2 L3) :
    Calls Try.prog 49 #[.slice a n cap, r.v, .int .i64 t] w fun e w' => IBox w (rowOkB n f g L1 L2 L3 && tierB t) n (boxF f g t (tierL t L1 L2 L3)) (boxG f g t (tierL t L1 L2 L3)) e w' := by
  have PR' := hide (fun w1 (hb : Below w.heap.size w w1) => packRow_any a n cap f g r L1 L2 L3 w1 (h.below hb) (hr.below hb))
  have CL := hide (iCellsOf_any t)
  cases hv : rowOkB n f g L1 L2 L3
  · rw [hv] at PR'
    obtain ⟨a1, a2, a3, m1, m2, m3, k1, k2, k3⟩ := r
    unfold RowV.v at PR' ⊢
    simp only [pkV, if_false, Bool.false_eq_true, Bool.false_and] at PR' ⊢
    clear h hr hv
    go_enter Try.func49, Try.ntmps49
    go_wp2_with fail
    refine (PR'.out _ (by repeat' first | with_reducible exact Below.refl _ _ | with_reducible assumption | with_reducible refine below_drewN ?_ _ | with_reducible refine balloc ?_ _ | with_reducible refine Below.drew ?_ | with_reducible refine Below.setCell ?_ (by first | (simp; done) | (simp; omega) | omega) _ | with_reducible refine bstep ?_ (by assumption))).mono ?_
    rintro e w1 ⟨rfl, hb1⟩
    go_wp2_with fail
    refine bodyPost_ret (v := .tuple #[.slice none 0 0, .bool false]) ?_ rfl ⟨none, 0, rfl, rfl, .inl rfl, (by repeat' first | with_reducible exact Below.refl _ _ | with_reducible assumption | with_reducible refine below_drewN ?_ _ | with_reducible refine balloc ?_ _ | with_reducible refine Below.drew ?_ | with_reducible refine Below.setCell ?_ (by first | (simp; done) | (simp; omega) | omega) _ | with_reducible refine bstep ?_ (by assumption))⟩
    simp [results, Try.results49, go_sem]
  · rw [hv] at PR'
    cases ht : tierB t
    · have hcn : (cellsN t == 0) = true := by
        obtain ⟨x1, x2, x3⟩ := tier_no ht
        simp at x1 x2 x3
        simp [cellsN, x1, x2, x3]
      obtain ⟨a1, a2, a3, m1, m2, m3, k1, k2, k3⟩ := r
      unfold RowV.v at PR' ⊢
      simp only [pkV, if_true, Bool.and_false] at PR' ⊢
      obtain ⟨A, hA⟩ : ∃ x, pA (nth L1) (nth L2) (nth L3) n = x := ⟨_, rfl⟩
      obtain ⟨B, hB⟩ : ∃ x, pB (nth L1) (nth L2) (nth L3) n = x := ⟨_, rfl⟩
      obtain ⟨C, hC⟩ : ∃ x, pC (nth L1) (nth L2) (nth L3) n = x := ⟨_, rfl⟩
      obtain ⟨D, hD⟩ : ∃ x, pD (nth L1) (nth L2) (nth L3) n = x := ⟨_, rfl⟩
      simp only [PK] at PR'
      rw [hA, hB, hC, hD] at PR'
      clear h hr hv ht hA hB hC hD
      generalize cellsN t = c at CL hcn
      go_enter Try.func49, Try.ntmps49
      go_wp2_with fail
      refine (PR'.out _ (by repeat' first | with_reducible exact Below.refl _ _ | with_reducible assumption | with_reducible refine below_drewN ?_ _ | with_reducible refine balloc ?_ _ | with_reducible refine Below.drew ?_ | with_reducible refine Below.setCell ?_ (by first | (simp; done) | (simp; omega) | omega) _ | with_reducible refine bstep ?_ (by assumption))).mono ?_
      rintro e w1 ⟨rfl, hb1⟩
      go_wp2_with fail
      refine (CL.out _).mono ?_
      rintro e w2 ⟨rfl, rfl⟩
      go_wp2_with fail
      refine bodyPost_ret (v := .tuple #[.slice none 0 0, .bool false]) ?_ rfl ⟨none, 0, rfl, rfl, .inl rfl, (by repeat' first | with_reducible exact Below.refl _ _ | with_reducible assumption | with_reducible refine below_drewN ?_ _ | with_reducible refine balloc ?_ _ | with_reducible refine Below.drew ?_ | with_reducible refine Below.setCell ?_ (by first | (simp; done) | (simp; omega) | omega) _ | with_reducible refine bstep ?_ (by assumption))⟩
      simp [results, Try.results49, go_sem]
    · have hv' := hv
      simp only [rowOkB, Bool.and_eq_true, decide_eq_true_eq] at hv'
      have hn8 := boxB_num' hv'.1
      simp only [pkV, if_true] at PR'
      rcases h.lies with q | ⟨b, off, rfl, lt, hc⟩
      · omega
      exact iBoxOf_some b off n cap f g r L1 L2 L3 t w ht hn8.2 hn8.1 lt hc (fun i hi => rowAt_codes (boxB_at' hv'.1 hi) (allN_at hv'.2.2 hi)) PR'

/-- The slice of a row's codes of a tier. -/
def tierV (t : Int) (r : RowV) : Value := if t = 1 then .slice r.a1 r.m1 r.k1 else if t = 2 then .slice r.a2 r.m2 r.k2 else .slice r.a3 r.m3 r.k3

set_option maxHeartbeats 800000 in
theorem l5Tier_any (r : RowV) (t : Int) (w : World) (ht : tierB t = true) :
    Calls Try.prog 57 #[r.v, .int .i64 t] w fun e w' => e = .returned (tierV t r) ∧ Below w.heap.size w w' := by
  obtain ⟨a1, a2, a3, m1, m2, m3, k1, k2, k3⟩ := r
  unfold RowV.v tierV
  rcases tier_cases ht with rfl | rfl | rfl
  all_goals
    simp only [show ((1 : Int) = 1) = True from eq_self _, show ((2 : Int) = 1) = False from by simp, show ((2 : Int) = 2) = True from eq_self _, show ((3 : Int) = 1) = False from by simp, show ((3 : Int) = 2) = False from by simp, if_true, if_false]
    clear ht
    go_enter Try.func57, Try.ntmps57
    go_wp2
    go_ret
    exact ⟨rfl, (by repeat' first | with_reducible exact Below.refl _ _ | with_reducible assumption | with_reducible refine below_drewN ?_ _ | with_reducible refine balloc ?_ _ | with_reducible refine Below.drew ?_ | with_reducible refine Below.setCell ?_ (by first | (simp; done) | (simp; omega) | omega) _ | with_reducible refine bstep ?_ (by assumption))⟩

/-- The answer of the model's l5Box. -/
def SBox (w : World) (n : Nat) (F G : Nat → Int) (e : Ending) (w' : World) : Prop :=
  ∃ a cap, e = .returned (.slice a n cap) ∧ PRow w' a n F G ∧ Below w.heap.size w w'

set_option maxHeartbeats 8000000 in
set_option maxRecDepth 4000 in
theorem l5Box_some (b off n cap : Nat) (f g : Nat → Int) (r : RowV) (bt ot kt : Nat) (L : List Int) (t : Int) (w : World) (h8 : n ≤ 8) (hb : b < w.heap.size) (hbt : bt < w.heap.size)
    (hc : ∀ i, i < n → w.cell? ⟨b, off + i * 2, none⟩ = some (.int .i64 (f i)) ∧ w.cell? ⟨b, off + i * 2 + 1, none⟩ = some (.int .i64 (g i)))
    (hct : ∀ i, i < n → w.cell? ⟨bt, ot + i, none⟩ = some (.int .i64 (nth L i)))
    (TI : Hid (∀ w1, Calls Try.prog 57 #[r.v, .int .i64 t] w1 fun e w' => e = .returned (.slice (some ⟨bt, ot, none⟩) n kt) ∧ Below w1.heap.size w1 w')) :
    Calls Try.prog 40 #[.slice (some ⟨b, off, none⟩) n cap, r.v, .int .i64 t] w fun e w' => SBox w n (boxF f g t L) (boxG f g t L) e w' := by
  obtain ⟨i0, hi, hz0, hz1, hz2⟩ := infoRange_parts
  have HC := hide hc
  have HCT := hide hct
  obtain ⟨a1, a2, a3, m1, m2, m3, k1, k2, k3⟩ := r
  unfold RowV.v at TI ⊢
  simp only at TI ⊢
  have CL := hide (fun (k : Nat) => sCellOf_any (f k) (g k) t (nth L k))
  unfold cellT at CL
  simp only [show ∀ k, cellLo (f k) (g k) t (nth L k) = boxF f g t L k from fun _ => rfl, show ∀ k, cellHi (f k) (g k) t (nth L k) = boxG f g t L k from fun _ => rfl] at CL
  obtain ⟨F, hF⟩ : ∃ F, boxF f g t L = F := ⟨_, rfl⟩
  obtain ⟨G, hG⟩ : ∃ G, boxG f g t L = G := ⟨_, rfl⟩
  rw [hF, hG] at CL ⊢
  clear hc hct hF hG
  go_enter Try.func40, Try.ntmps40
  go_wp2_with fail
  refine (TI.out _).mono ?_
  rintro e w1 ⟨rfl, hw1⟩
  have B1 : Below w.heap.size w w1 := (by repeat' first | with_reducible exact Below.refl _ _ | with_reducible assumption | with_reducible refine below_drewN ?_ _ | with_reducible refine balloc ?_ _ | with_reducible refine Below.drew ?_ | with_reducible refine Below.setCell ?_ (by first | (simp; done) | (simp; omega) | omega) _ | with_reducible refine bstep ?_ (by assumption))
  have HB1 := hide B1
  have lw := B1.size
  clear hw1 B1
  go_wp2_with fail
  go_loopw [8, 9] (fun v i wr => ∃ k : Nat, k ≤ n ∧ i = .int .i64 k ∧ wr.ownsRow w1.heap.size 56 2 v k (pvals F G k) ∧ Below w.heap.size w wr ∧ w1.heap.size ≤ wr.heap.size) (fun _ i _ => n - (intOf i).toNat)
  case atStart =>
    have B1 := HB1.out
    exact ⟨0, Nat.zero_le _, rfl, World.ownsRow_made w1 #[] 0 (Nat.le_refl _) (Nat.zero_le _) rfl, (by repeat' first | with_reducible exact Below.refl _ _ | with_reducible assumption | with_reducible refine below_drewN ?_ _ | with_reducible refine balloc ?_ _ | with_reducible refine Below.drew ?_ | with_reducible refine Below.setCell ?_ (by first | (simp; done) | (simp; omega) | omega) _ | with_reducible refine bstep ?_ (by assumption)), by simp⟩
  case round =>
    clear HB1
    obtain ⟨k, hk, rfl, hown, hbel, hs1⟩ := hrel
    have HO := hide hown
    have HB := hide hbel
    clear hown
    by_cases hlt : k < n
    · have y1 : wr.cell? ⟨b, off + k * 2, none⟩ = some (.int .i64 (f k)) := (hbel.cell (p := ⟨b, off + k * 2, none⟩) hb).trans (HC.out k hlt).1
      have y2 : wr.cell? ⟨b, off + k * 2 + 1, none⟩ = some (.int .i64 (g k)) := (hbel.cell (p := ⟨b, off + k * 2 + 1, none⟩) hb).trans (HC.out k hlt).2
      have y3 : wr.cell? ⟨bt, ot + k, none⟩ = some (.int .i64 (nth L k)) := (hbel.cell (p := ⟨bt, ot + k, none⟩) hbt).trans (HCT.out k hlt)
      have hlt' : (k : Int) < (n : Int) := by omega
      have S0 : Hid (KS wr wr.drew ⟨b, off + k * 2, none⟩ ⟨b, off + k * 2 + 1, none⟩ ⟨bt, ot + k, none⟩ ⟨bt, ot + k, none⟩ (.int .i64 (f k)) (.int .i64 (g k)) (.int .i64 (nth L k)) (.int .i64 (nth L k))) := hide (KS.of (Below.drew (Below.refl _ _)) y1 y2 y3 y3)
      have C := hide (CL.out k)
      obtain ⟨ok, hok⟩ : ∃ v, cellB (f k) (g k) t (nth L k) = v := ⟨_, rfl⟩
      rw [hok] at C
      clear hok hbel
      go_upto_region 6 with fail
      go_cut [10, 11] from 16 to 38 (fun s10 s11 wx => ∃ z, s10 = .pointer (some ⟨z, 0, none⟩) ∧ s11 = .bool ok ∧ wr.heap.size ≤ z ∧ z < wx.heap.size ∧ wx.cell? ⟨z, 0, none⟩ = some (.int .i64 (F k)) ∧ wx.cell? ⟨z, 1, none⟩ = some (.int .i64 (G k)) ∧ Below wr.heap.size wr wx)
      case first =>
        refine wp_region_held_drew (S := fun wx => KS wr wx ⟨b, off + k * 2, none⟩ ⟨b, off + k * 2 + 1, none⟩ ⟨bt, ot + k, none⟩ ⟨bt, ot + k, none⟩ (.int .i64 (f k)) (.int .i64 (g k)) (.int .i64 (nth L k)) (.int .i64 (nth L k))) (by kernel_rfl) (S0.out) (fun hH0 => ?_)
        refine wpAnyH_take (i := 0) (oi := { dst := some 23, op := _, type := _, pos := _, after := _, guard := _ }) (v := ?_) rfl (by kernel_rfl) (by kernel_rfl) (by kernel_rfl) (fun _ _ _ h => h) (Or.inl ⟨by rfl, ?_⟩) (hH0) ?_
        rotate_left
        · (intro wx hSw; obtain ⟨_, q0, q1, q2, q3⟩ := hSw; go_simp <;> with_reducible rfl)
        simp only [Act.put, List.setIfInBounds_toArray, List.set_cons_zero, List.set_cons_succ]
        refine wpAnyH_take (i := 1) (oi := { dst := some 24, op := _, type := _, pos := _, after := _, guard := _ }) (v := ?_) rfl (by kernel_rfl) (by kernel_rfl) (by kernel_rfl) (fun _ _ _ h => h) (Or.inl ⟨by rfl, ?_⟩) (hH0) ?_
        rotate_left
        · (intro wx hSw; obtain ⟨_, q0, q1, q2, q3⟩ := hSw; go_simp <;> with_reducible rfl)
        simp only [Act.put, List.setIfInBounds_toArray, List.set_cons_zero, List.set_cons_succ]
        refine wpAnyH_take (i := 2) (oi := { dst := some 25, op := _, type := _, pos := _, after := _, guard := _ }) (v := ?_) rfl (by kernel_rfl) (by kernel_rfl) (by kernel_rfl) (fun _ _ _ h => h) (Or.inl ⟨by rfl, ?_⟩) (hH0) ?_
        rotate_left
        · (intro wx hSw; obtain ⟨_, q0, q1, q2, q3⟩ := hSw; go_simp <;> with_reducible rfl)
        simp only [Act.put, List.setIfInBounds_toArray, List.set_cons_zero, List.set_cons_succ]
        refine wpAnyH_take (i := 3) (oi := { dst := some 26, op := _, type := _, pos := _, after := _, guard := _ }) (v := ?_) rfl (by kernel_rfl) (by kernel_rfl) (by kernel_rfl) (fun _ _ _ h => h) (Or.inl ⟨by rfl, ?_⟩) (hH0) ?_
        rotate_left
        · (intro wx hSw; obtain ⟨_, q0, q1, q2, q3⟩ := hSw; go_simp <;> with_reducible rfl)
        simp only [Act.put, List.setIfInBounds_toArray, List.set_cons_zero, List.set_cons_succ]
        refine wpAnyH_take (i := 4) (oi := { dst := some 27, op := _, type := _, pos := _, after := _, guard := _ }) (v := ?_) rfl (by kernel_rfl) (by kernel_rfl) (by kernel_rfl) (fun _ _ _ h => h) (Or.inl ⟨by rfl, ?_⟩) (hH0) ?_
        rotate_left
        · (intro wx hSw; obtain ⟨_, q0, q1, q2, q3⟩ := hSw; go_simp <;> with_reducible rfl)
        simp only [Act.put, List.setIfInBounds_toArray, List.set_cons_zero, List.set_cons_succ]
        refine wpAnyH_take (i := 5) (oi := { dst := some 28, op := _, type := _, pos := _, after := _, guard := _ }) (v := ?_) rfl (by kernel_rfl) (by kernel_rfl) (by kernel_rfl) (fun _ _ _ h => h) (Or.inl ⟨by rfl, ?_⟩) (hH0) ?_
        rotate_left
        · (intro wx hSw; obtain ⟨_, q0, q1, q2, q3⟩ := hSw; go_simp <;> with_reducible rfl)
        simp only [Act.put, List.setIfInBounds_toArray, List.set_cons_zero, List.set_cons_succ]
        refine wpAnyH_take (i := 6) (oi := { dst := some 29, op := _, type := _, pos := _, after := _, guard := _ }) (v := ?_) rfl (by kernel_rfl) (by kernel_rfl) (by kernel_rfl) (fun _ _ _ h => h) (Or.inl ⟨by rfl, ?_⟩) (hH0) ?_
        rotate_left
        · (intro wx hSw; obtain ⟨_, q0, q1, q2, q3⟩ := hSw; go_simp <;> with_reducible rfl)
        simp only [Act.put, List.setIfInBounds_toArray, List.set_cons_zero, List.set_cons_succ]
        refine wpAnyH_take (i := 7) (oi := { dst := some 30, op := _, type := _, pos := _, after := _, guard := _ }) (v := ?_) rfl (by kernel_rfl) (by kernel_rfl) (by kernel_rfl) (fun _ _ _ h => h) (Or.inl ⟨by rfl, ?_⟩) (hH0) ?_
        rotate_left
        · (intro wx hSw; obtain ⟨_, q0, q1, q2, q3⟩ := hSw; go_simp <;> with_reducible rfl)
        simp only [Act.put, List.setIfInBounds_toArray, List.set_cons_zero, List.set_cons_succ]
        refine wpAnyH_take (i := 8) (oi := { dst := some 31, op := _, type := _, pos := _, after := _, guard := _ }) (v := ?_) rfl (by kernel_rfl) (by kernel_rfl) (by kernel_rfl) (fun _ _ _ h => h) (Or.inl ⟨by rfl, ?_⟩) (hH0) ?_
        rotate_left
        · (intro wx hSw; obtain ⟨_, q0, q1, q2, q3⟩ := hSw; go_simp <;> with_reducible rfl)
        simp only [Act.put, List.setIfInBounds_toArray, List.set_cons_zero, List.set_cons_succ]
        -- behind it: go_wp2_with fail, then go_meet (a cut) or go_ret; the condition at the end: hH0
        refine wpAnyH_ready (rs := [9, 13]) (by kernel_rfl) (by simp) ?_
        refine AllReadyH.cons (o := { dst := some 32, op := _, type := _, pos := _, after := _, guard := _ }) rfl (fun K hK => ?_) (AllReadyH.cons (o := { dst := some 10, op := _, type := _, pos := _, after := _, guard := _ }) rfl (fun K hK => ?_) AllReadyH.nil)
        · go_simp
          refine (C.out _).mono ?_
          rintro e wa ⟨rfl, hba⟩
          dsimp only
          refine hK.out _ _ (KS.below hH0 hba) (fun hH1 => ?_)
          clear hK K
          refine wpAnyH_take (i := 10) (oi := { dst := some 22, op := _, type := _, pos := _, after := _, guard := _ }) (v := ?_) rfl (by kernel_rfl) (by kernel_rfl) (by kernel_rfl) (fun _ _ _ h => h) (Or.inl ⟨by rfl, ?_⟩) (hH1) ?_
          rotate_left
          · (intro wx hSw; obtain ⟨_, q0, q1, q2, q3⟩ := hSw; go_simp <;> with_reducible rfl)
          simp only [Act.put, List.setIfInBounds_toArray, List.set_cons_zero, List.set_cons_succ]
          refine wpAnyH_take (i := 11) (oi := { dst := some 33, op := _, type := _, pos := _, after := _, guard := _ }) (v := ?_) rfl (by kernel_rfl) (by kernel_rfl) (by kernel_rfl) (fun _ _ _ h => h) (Or.inl ⟨by rfl, ?_⟩) (hH1) ?_
          rotate_left
          · (intro wx hSw; obtain ⟨_, q0, q1, q2, q3⟩ := hSw; go_simp <;> with_reducible rfl)
          simp only [Act.put, List.setIfInBounds_toArray, List.set_cons_zero, List.set_cons_succ]
          refine wpAnyH_take (i := 12) (oi := { dst := some 34, op := _, type := _, pos := _, after := _, guard := _ }) (v := ?_) rfl (by kernel_rfl) (by kernel_rfl) (by kernel_rfl) (fun _ _ _ h => h) (Or.inl ⟨by rfl, ?_⟩) (hH1) ?_
          rotate_left
          · (intro wx hSw; obtain ⟨_, q0, q1, q2, q3⟩ := hSw; go_simp <;> with_reducible rfl)
          simp only [Act.put, List.setIfInBounds_toArray, List.set_cons_zero, List.set_cons_succ]
          refine wpAnyH_ready (rs := [13]) (by kernel_rfl) (by simp) ?_
          refine AllReadyH.cons (o := { dst := some 10, op := _, type := _, pos := _, after := _, guard := _ }) rfl (fun K hK => ?_) AllReadyH.nil
          go_simp
          refine hK.out _ _ (KS.below hH1 (balloc (Below.refl _ _) _)) (fun hH12 => ?_)
          clear hK K
          -- behind it: go_wp2_with fail, then go_meet (a cut) or go_ret; the condition at the end: hH12
          refine wpAnyH_ready (rs := [14]) (by kernel_rfl) (by simp) ?_
          refine AllReadyH.cons (o := { dst := none, op := _, type := _, pos := _, after := _, guard := _ }) rfl (fun K hK => ?_) AllReadyH.nil
          go_simp
          refine hK.out _ _ (KS.below hH1 (balloc (Below.refl _ _) _)) (fun hH50 => ?_)
          clear hK K
          refine wpAnyH_take (i := 15) (oi := { dst := some 11, op := _, type := _, pos := _, after := _, guard := _ }) (v := ?_) rfl (by kernel_rfl) (by kernel_rfl) (by kernel_rfl) (fun _ _ _ h => h) (Or.inl ⟨by rfl, ?_⟩) (hH50) ?_
          rotate_left
          · (intro wx hSw; obtain ⟨_, q0, q1, q2, q3⟩ := hSw; go_simp <;> with_reducible rfl)
          simp only [Act.put, List.setIfInBounds_toArray, List.set_cons_zero, List.set_cons_succ]
          refine wpAnyH_done (by kernel_rfl) ?_ _
          -- behind it: go_wp2_with fail, then go_meet (a cut) or go_ret; the condition at the end: hH50
          go_wp2_with fail
          go_meet
          exact ⟨_, rfl, rfl, hH1.bel.size, by simp, by simp, by simp, hH50.bel⟩
        · go_simp
          refine hK.out _ _ (KS.below hH0 (balloc (Below.refl _ _) _)) (fun hH1 => ?_)
          clear hK K
          refine wpAnyH_ready (rs := [9]) (by kernel_rfl) (by simp) ?_
          refine AllReadyH.cons (o := { dst := some 32, op := _, type := _, pos := _, after := _, guard := _ }) rfl (fun K hK => ?_) AllReadyH.nil
          go_simp
          refine (C.out _).mono ?_
          rintro e w_c32_12 ⟨rfl, hb_c32_12⟩
          dsimp only
          refine hK.out _ _ (KS.below hH1 hb_c32_12) (fun hH12 => ?_)
          clear hK K
          refine wpAnyH_take (i := 10) (oi := { dst := some 22, op := _, type := _, pos := _, after := _, guard := _ }) (v := ?_) rfl (by kernel_rfl) (by kernel_rfl) (by kernel_rfl) (fun _ _ _ h => h) (Or.inl ⟨by rfl, ?_⟩) (hH12) ?_
          rotate_left
          · (intro wx hSw; obtain ⟨_, q0, q1, q2, q3⟩ := hSw; go_simp <;> with_reducible rfl)
          simp only [Act.put, List.setIfInBounds_toArray, List.set_cons_zero, List.set_cons_succ]
          refine wpAnyH_take (i := 11) (oi := { dst := some 33, op := _, type := _, pos := _, after := _, guard := _ }) (v := ?_) rfl (by kernel_rfl) (by kernel_rfl) (by kernel_rfl) (fun _ _ _ h => h) (Or.inl ⟨by rfl, ?_⟩) (hH12) ?_
          rotate_left
          · (intro wx hSw; obtain ⟨_, q0, q1, q2, q3⟩ := hSw; go_simp <;> with_reducible rfl)
          simp only [Act.put, List.setIfInBounds_toArray, List.set_cons_zero, List.set_cons_succ]
          refine wpAnyH_take (i := 12) (oi := { dst := some 34, op := _, type := _, pos := _, after := _, guard := _ }) (v := ?_) rfl (by kernel_rfl) (by kernel_rfl) (by kernel_rfl) (fun _ _ _ h => h) (Or.inl ⟨by rfl, ?_⟩) (hH12) ?_
          rotate_left
          · (intro wx hSw; obtain ⟨_, q0, q1, q2, q3⟩ := hSw; go_simp <;> with_reducible rfl)
          simp only [Act.put, List.setIfInBounds_toArray, List.set_cons_zero, List.set_cons_succ]
          -- behind it: go_wp2_with fail, then go_meet (a cut) or go_ret; the condition at the end: hH12
          have w0 : w_c32_12.cell? ⟨wr.heap.size, 0, none⟩ = some (.int .i64 0) := (hb_c32_12.cell (p := ⟨wr.heap.size, 0, none⟩) (by simp)).trans (by simp [go_sem])
          have w1' : w_c32_12.cell? ⟨wr.heap.size, 1, none⟩ = some (.int .i64 0) := (hb_c32_12.cell (p := ⟨wr.heap.size, 1, none⟩) (by simp)).trans (by simp [go_sem])
          have w2 : w_c32_12.frozen? ⟨wr.heap.size, 0, none⟩ = false := (hb_c32_12.frozen (p := ⟨wr.heap.size, 0, none⟩) (by simp)).trans (by simp [go_sem])
          have w3 : w_c32_12.frozen? ⟨wr.heap.size, 1, none⟩ = false := (hb_c32_12.frozen (p := ⟨wr.heap.size, 1, none⟩) (by simp)).trans (by simp [go_sem])
          refine wpAnyH_ready (rs := [14]) (by kernel_rfl) (by simp) ?_
          refine AllReadyH.cons (o := { dst := none, op := _, type := _, pos := _, after := _, guard := _ }) rfl (fun K hK => ?_) AllReadyH.nil
          go_simp
          refine hK.out _ _ (KS.of ((hH12.bel.setCell (by simp) _).setCell (by simp) _) y1 y2 y3 y3) (fun hH50 => ?_)
          clear hK K
          refine wpAnyH_take (i := 15) (oi := { dst := some 11, op := _, type := _, pos := _, after := _, guard := _ }) (v := ?_) rfl (by kernel_rfl) (by kernel_rfl) (by kernel_rfl) (fun _ _ _ h => h) (Or.inl ⟨by rfl, ?_⟩) (hH50) ?_
          rotate_left
          · (intro wx hSw; obtain ⟨_, q0, q1, q2, q3⟩ := hSw; go_simp <;> with_reducible rfl)
          simp only [Act.put, List.setIfInBounds_toArray, List.set_cons_zero, List.set_cons_succ]
          refine wpAnyH_done (by kernel_rfl) ?_ _
          -- behind it: go_wp2_with fail, then go_meet (a cut) or go_ret; the condition at the end: hH50
          go_wp2_with fail
          go_meet
          have lz : wr.heap.size < w_c32_12.heap.size := by have := hb_c32_12.size; simp at this; omega
          exact ⟨_, rfl, rfl, Nat.le_refl _, by simpa [World.setCell] using lz, by simp [go_sem, w0, w1'], by simp [go_sem, w0, w1'], hH50.bel⟩
      case rest =>
        obtain ⟨z, rfl, rfl, lz, lz', c0, c1, bc⟩ := hcut
        have hsz := bc.size
        have HOc := hide (owns_below HO.out bc)
        have HBc := hide (bstep HB.out bc)
        clear y1 y2 y3 S0 bc
        go_wp2_with (at_builtin; refine wpList_append_own _ rfl _ _ 36 rfl w1.heap.size 56 i0 _ 2 16 Try.underlying36 hi hz0 hz1 hz2 rfl (by decide) _ _ _ rfl (World.ownsRow.alloc HOc.out _) ⟨_, 0, none⟩ 1 1 [.int .i64 (F k), .int .i64 (G k)] rfl rfl ?c1 ?c2 ?c3 ?c4 ?c5 ?_)
        case c1 => exact two_new _ _ _ _
        case c2 => intro u hu; simp at hu; rcases hu with rfl | rfl <;> rfl
        case c3 => unfold maxLen; omega
        case c4 => omega
        case c5 => simp; omega
        intro v' w2 hown2 hgrow _
        have bq := hide (below_appQ (X := w1.heap.size) (w := wc) (hg := hgrow) (hb := balloc' (Below.refl _ _) (by omega) _) (hX := by simp; omega) (hXB := Nat.le_refl _) (ho := World.ownsRow.alloc HOc.out _))
        have HO2 := hide hown2
        clear hgrow hown2
        have s2 := bq.out.size
        go_wp2_with fail
        go_roundw
        case rel => exact ⟨k + 1, by omega, by go_num, HO2.out, (HBc.out).trans (bq.out.mono (by omega)), by omega⟩
        case measure => simp [intOf]; omega
    · obtain rfl : k = n := by omega
      obtain ⟨av, cv, hv, rv, nv⟩ := prow_of_owns HO.out
      subst hv
      clear hbel nv
      go_wp2_with fail
      go_ret
      exact ⟨av, cv, rfl, rv, HB.out⟩
end Go.Proofs.Ytbeakenblppngaa
