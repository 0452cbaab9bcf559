/- RowOk of the model. -/
import Derived.Test.YtacfmhcilifkiaaZ23
import Derived.Test.YtacfmhcilifkiaaZ9
import Derived.Test.YtacfmhcilifkiaaZ5
import Derived.Test.YtacfmhcilifkiaaZ12
import Derived.Test.YtacfmhcilifkiaaZ21
import Derived.Test.YtacfmhcilifkiaaZ13
import Derived.Test.YtacfmhcilifkiaaZ6
namespace Go.Proofs.Ytacfmhcilifkiaa
open Go.RowKit
set_option maxRecDepth 8000
set_option linter.unusedSimpArgs false
set_option linter.unusedVariables false

/-- The number that the model takes for a code of tier 3. -/
def numS (lo hi c : Int) : Int := if c = -1 ∧ lo = cellLo lo hi 3 c then cellHi lo hi 3 c else cellLo lo hi 3 c

theorem numS_def (lo hi c : Int) : numS lo hi c = if c = -1 ∧ lo = cellLo lo hi 3 c then cellHi lo hi 3 c else cellLo lo hi 3 c := rfl

theorem TriW.belowAt {w w' : World} {b X : Nat} {v0 v1 v2 : Value} (h : TriW w b v0 v1 v2) (hb : Below X w w') (hX : b < X) : TriW w' b v0 v1 v2 :=
  ⟨Nat.lt_of_lt_of_le h.lt hb.size, (hb.cell (p := ⟨b, 0, none⟩) hX).trans h.c0, (hb.cell (p := ⟨b, 1, none⟩) hX).trans h.c1, (hb.cell (p := ⟨b, 2, none⟩) hX).trans h.c2,
    (hb.frozen (p := ⟨b, 0, none⟩) hX).trans h.f0, (hb.frozen (p := ⟨b, 1, none⟩) hX).trans h.f1, (hb.frozen (p := ⟨b, 2, none⟩) hX).trans h.f2⟩

theorem below_appQ {X B : Nat} {w wr w2 : World} {v : Value} {k : Nat} {e : TypeId} {size : Nat} {xs : List Value} (hb : Below X w wr) (hX : X ≤ wr.heap.size) (hXB : X ≤ B) (ho : wr.ownsRow B e size v k xs) (hg : wr.grownBy w2 v.ownBlock) : Below X w w2 :=
  hb.grown hg hX fun k' hk' => Nat.le_trans hXB (ho.lt k' hk').1

theorem codeB_off {lo hi t x : Int} (h : ¬ (lo ≤ x ∧ x ≤ hi)) : codeB lo hi t x = -1 := by
  have : hasB lo hi x = false := by unfold hasB inB; rw [decide_eq_false h, Bool.and_false]
  simp [codeB, this]

theorem rowAt_model {lo hi a b c : Int} (hr : rightB lo hi = true) : (cellB lo hi 3 c && ((codeB lo hi 1 (numS lo hi c) == a) && ((codeB lo hi 2 (numS lo hi c) == b) && (codeB lo hi 3 (numS lo hi c) == c)))) = rowAt lo hi a b c := by
  obtain ⟨a1, a2, a3, a4, a5⟩ := right_nums hr
  unfold rowAt
  by_cases hc : c = -1
  · subst hc
    have hcB : cellB lo hi 3 (-1) = true := by simp [cellB, hr, tierB]
    have hlo : cellLo lo hi 3 (-1) = -1048576 := by simp [cellLo, hcB]
    have hhi : cellHi lo hi 3 (-1) = 1048576 := by simp [cellHi, hcB]
    simp only [numI, numIB, if_true, hcB, Bool.true_and]
    by_cases h1 : -1048576 < lo
    · have hs : ¬ (lo ≤ numS lo hi (-1) ∧ numS lo hi (-1) ≤ hi) := by
        unfold numS; rw [hlo, if_neg (by omega)]; omega
      simp only [h1, if_true, decide_true, Bool.true_or, Bool.true_and]
      rw [codeB_off hs, codeB_off hs, codeB_off hs, codeB_off (x := lo - 1) (by omega), codeB_off (x := lo - 1) (by omega), codeB_off (x := lo - 1) (by omega)]
    · have hl : lo = -1048576 := by omega
      have hn : numS lo hi (-1) = 1048576 := by unfold numS; rw [hlo, if_pos ⟨rfl, hl⟩, hhi]
      rw [hn]
      by_cases h2 : hi < 1048576
      · simp only [h1, h2, if_true, if_false, decide_true, decide_false, Bool.or_true, Bool.true_and]
        rw [codeB_off (x := 1048576) (by omega), codeB_off (x := 1048576) (by omega), codeB_off (x := 1048576) (by omega), codeB_off (x := hi + 1) (by omega), codeB_off (x := hi + 1) (by omega), codeB_off (x := hi + 1) (by omega)]
      · simp only [h1, h2, if_false, decide_false, Bool.or_false, Bool.false_and]
        have hh : hasB lo hi 1048576 = true := by unfold hasB inB; rw [hr, decide_eq_true (by omega)]; rfl
        have h3 : codeB lo hi 3 1048576 ≠ -1 := by
          simp only [codeB, hh, show tierB 3 = true from rfl, Bool.and_self, if_true, show cellsN 3 = 256 from rfl]
          have := code_nonneg lo hi 256 1048576 (by omega) (by omega) a5
          omega
        simp [h3]
  · have hn : numS lo hi c = numI lo hi c := by unfold numS numI; rw [if_neg (by omega), if_neg hc]
    rw [hn]
    simp only [numIB, hc, if_false]

/-- Where the model looks in a round: nothing that was there has turned. -/
structure KS (w0 w : World) (p0 p1 p2 p3 : Addr) (v0 v1 v2 v3 : Value) : Prop where
  bel : Below w0.heap.size w0 w
  c0 : w.cell? p0 = some v0
  c1 : w.cell? p1 = some v1
  c2 : w.cell? p2 = some v2
  c3 : w.cell? p3 = some v3

theorem KS.of {w0 w : World} {p0 p1 p2 p3 : Addr} {v0 v1 v2 v3 : Value} (hb : Below w0.heap.size w0 w) (h0 : w0.cell? p0 = some v0) (h1 : w0.cell? p1 = some v1) (h2 : w0.cell? p2 = some v2) (h3 : w0.cell? p3 = some v3) : KS w0 w p0 p1 p2 p3 v0 v1 v2 v3 :=
  ⟨hb, (hb.cell (cellLt h0)).trans h0, (hb.cell (cellLt h1)).trans h1, (hb.cell (cellLt h2)).trans h2, (hb.cell (cellLt h3)).trans h3⟩

theorem KS.below {w0 w w' : World} {p0 p1 p2 p3 : Addr} {v0 v1 v2 v3 : Value} (h : KS w0 w p0 p1 p2 p3 v0 v1 v2 v3) (hb : Below w.heap.size w w') : KS w0 w' p0 p1 p2 p3 v0 v1 v2 v3 :=
  ⟨bstep h.bel hb, (hb.cell (cellLt h.c0)).trans h.c0, (hb.cell (cellLt h.c1)).trans h.c1, (hb.cell (cellLt h.c2)).trans h.c2, (hb.cell (cellLt h.c3)).trans h.c3⟩

/-- Whether the row of the model's numbers is this one. -/
def sameRowB (n : Nat) (f g : Nat → Int) (L1 L2 L3 : List Int) : Bool :=
  decide (ints (vcode f g (ints (fun i => numS (f i) (g i) (nth L3 i)) n) 1) n = L1) && (decide (ints (vcode f g (ints (fun i => numS (f i) (g i) (nth L3 i)) n) 2) n = L2) && decide (ints (vcode f g (ints (fun i => numS (f i) (g i) (nth L3 i)) n) 3) n = L3))

theorem Below.drewN {X : Nat} {a b : World} (h : Below X a b) (n : Nat) : Below X a (b.drewN n) := ⟨h.os, h.tape, h.output, h.size, h.block⟩

theorem owns_drewNP {w : World} {base : Nat} {e : TypeId} {size : Nat} {v : Value} {n : Nat} {xs : List Value} (m : Nat) (h : w.ownsRow base e size v n xs) : (w.drewN m).ownsRow base e size v n xs := h

theorem balloc' {X : Nat} {w a : World} (h : Below X w a) (hX : X ≤ a.heap.size) (o : Obj) : Below X w (a.alloc o) := h.alloc hX o

end Go.Proofs.Ytacfmhcilifkiaa
/- RowOk: the model at all arguments; it is what the program asks. -/
namespace Go.Proofs.Ytacfmhcilifkiaa
open Go.RowKit
set_option maxRecDepth 8000
set_option linter.unusedSimpArgs false
set_option linter.unusedVariables false

theorem ints_dec {c : Nat → Int} {n : Nat} {L : List Int} (hl : L.length = n) : decide (ints c n = L) = allN n (fun i => c i == nth L i) := by
  subst hl
  by_cases h : ints c L.length = L
  · rw [decide_eq_true h, allN_yes]
    intro i hi
    have : nth (ints c L.length) i = nth L i := by rw [h]
    rw [nth_ints _ _ _ hi] at this
    simp [this]
  · rw [decide_eq_false h]
    symm
    rw [Bool.eq_false_iff]
    intro q
    refine h (nth_ext (ints_len _ _) fun j hj => ?_)
    rw [ints_len] at hj
    rw [nth_ints _ _ _ hj]
    simpa using allN_at q hj

theorem allN_and (n : Nat) (p q : Nat → Bool) : (allN n p && allN n q) = allN n (fun i => p i && q i) := by
  rw [Bool.eq_iff_iff]
  constructor
  · intro h
    simp only [Bool.and_eq_true] at h
    exact allN_yes fun i hi => by rw [allN_at h.1 hi, allN_at h.2 hi]; rfl
  · intro h
    simp only [Bool.and_eq_true]
    have : ∀ i, i < n → p i = true ∧ q i = true := fun i hi => by simpa using allN_at h hi
    exact ⟨allN_yes fun i hi => (this i hi).1, allN_yes fun i hi => (this i hi).2⟩

theorem allN_same {n : Nat} {p q : Nat → Bool} (h : ∀ i, i < n → p i = q i) : allN n p = allN n q := by
  unfold allN
  rw [Bool.eq_iff_iff, List.all_eq_true, List.all_eq_true]
  constructor
  · intro k i hi; rw [← h i (List.mem_range.1 hi)]; exact k i hi
  · intro k i hi; rw [h i (List.mem_range.1 hi)]; exact k i hi

theorem rowOk_model {n : Nat} {f g : Nat → Int} {L1 L2 L3 : List Int} (hr : ∀ i, i < n → rightB (f i) (g i) = true) (l3 : L3.length = n) :
    (allN n (fun i => cellB (f i) (g i) 3 (nth L3 i)) && sameRowB n f g L1 L2 L3) = (decide (L1.length = n ∧ L2.length = n ∧ L3.length = n) && allN n (fun i => rowAt (f i) (g i) (nth L1 i) (nth L2 i) (nth L3 i))) := by
  unfold sameRowB
  by_cases h1 : L1.length = n
  · by_cases h2 : L2.length = n
    · rw [ints_dec h1, ints_dec h2, ints_dec l3, allN_and, allN_and, allN_and, decide_eq_true ⟨h1, h2, l3⟩, Bool.true_and]
      refine allN_same fun i hi => ?_
      rw [← rowAt_model (hr i hi)]
      simp only [vcode, nth_ints _ _ _ hi]
    · rw [show decide (L1.length = n ∧ L2.length = n ∧ L3.length = n) = false from decide_eq_false (fun q => h2 q.2.1), Bool.false_and]
      rw [show decide (ints (vcode f g (ints (fun i => numS (f i) (g i) (nth L3 i)) n) 2) n = L2) = false from decide_eq_false (fun q => h2 (by rw [← q, ints_len]))]
      simp
  · rw [show decide (L1.length = n ∧ L2.length = n ∧ L3.length = n) = false from decide_eq_false (fun q => h1 q.1), Bool.false_and]
    rw [show decide (ints (vcode f g (ints (fun i => numS (f i) (g i) (nth L3 i)) n) 1) n = L1) = false from decide_eq_false (fun q => h1 (by rw [← q, ints_len]))]
    simp





/-- szRow answers a number below 0 where the row has more than is left. -/
def szRowV (left : Int) (r : RowV) : Int := if left - (r.m1 : Int) - (r.m2 : Int) - (r.m3 : Int) < 0 then -1 else left - (r.m1 : Int) - (r.m2 : Int) - (r.m3 : Int)



/-- A row of the call's own, copied out of one that is read: each of its lists has a block of its own. -/
structure Mine3 (B C : Nat) (w : World) (g1 g2 g3 : Nat) (L1 L2 L3 : List Int) : Prop where
  o1 : Own w g1 L1
  o2 : Own w g2 L2
  o3 : Own w g3 L3
  lo : B ≤ g1 ∧ B ≤ g2 ∧ B ≤ g3
  hi : g1 < C ∧ g2 < C ∧ g3 < C
  apart : g1 ≠ g2 ∧ g1 ≠ g3 ∧ g2 ≠ g3

theorem Mine3.below {B C : Nat} {w w' : World} {g1 g2 g3 : Nat} {L1 L2 L3 : List Int} (h : Mine3 B C w g1 g2 g3 L1 L2 L3) (hb : Below w.heap.size w w') : Mine3 B C w' g1 g2 g3 L1 L2 L3 := ⟨h.o1.below hb, h.o2.below hb, h.o3.below hb, h.lo, h.hi, h.apart⟩
def rowM (g1 g2 g3 m1 m2 m3 : Nat) : RowV := ⟨some ⟨g1, 0, none⟩, some ⟨g2, 0, none⟩, some ⟨g3, 0, none⟩, m1, m2, m3, m1, m2, m3⟩

theorem Mine3.is {B C : Nat} {w : World} {g1 g2 g3 : Nat} {L1 L2 L3 : List Int} (h : Mine3 B C w g1 g2 g3 L1 L2 L3) : (rowM g1 g2 g3 L1.length L2.length L3.length).is w L1 L2 L3 := ⟨h.o1.row, h.o2.row, h.o3.row⟩

theorem TriW.set0 {w : World} {b : Nat} {v0 v1 v2 : Value} (h : TriW w b v0 v1 v2) (u : Value) : TriW (w.setCell ⟨b, 0, none⟩ u) b u v1 v2 := by
  obtain ⟨h0, h1, h2, h3, f0, f1, f2⟩ := h
  exact ⟨by simpa [World.setCell] using h0, by simp [go_sem, h1, h2, h3], by simp [go_sem, h1, h2, h3], by simp [go_sem, h1, h2, h3], by simp [go_sem, f0], by simp [go_sem, f1], by simp [go_sem, f2]⟩

theorem TriW.set1 {w : World} {b : Nat} {v0 v1 v2 : Value} (h : TriW w b v0 v1 v2) (u : Value) : TriW (w.setCell ⟨b, 1, none⟩ u) b v0 u v2 := by
  obtain ⟨h0, h1, h2, h3, f0, f1, f2⟩ := h
  exact ⟨by simpa [World.setCell] using h0, by simp [go_sem, h1, h2, h3], by simp [go_sem, h1, h2, h3], by simp [go_sem, h1, h2, h3], by simp [go_sem, f0], by simp [go_sem, f1], by simp [go_sem, f2]⟩

def ToRow (w : World) (L1 L2 L3 : List Int) (e : Ending) (w' : World) : Prop :=
  ∃ g1 g2 g3, e = .returned (rowM g1 g2 g3 L1.length L2.length L3.length).v ∧ Mine3 w.heap.size w'.heap.size w' g1 g2 g3 L1 L2 L3 ∧ Below w.heap.size w w'





end Go.Proofs.Ytacfmhcilifkiaa

/- EscapesOf of the program and of the model. -/
namespace Go.Proofs.Ytacfmhcilifkiaa
open Go.RowKit
set_option maxRecDepth 8000
set_option linter.unusedSimpArgs false
set_option linter.unusedVariables false

/-- How many of the first n are -1. -/
def escN (c : Nat → Int) : Nat → Nat
  | 0 => 0
  | k + 1 => escN c k + outD c k

theorem escN_le (c : Nat → Int) (n : Nat) : escN c n ≤ n := by
  induction n with
  | zero => simp [escN]
  | succ n ih => simp only [escN, outD]; split <;> omega
/-- How many bits of a byte are set. -/
def pop8 (D : Nat) : Nat := D % 2 + D / 2 % 2 + D / 4 % 2 + D / 8 % 2 + D / 16 % 2 + D / 32 % 2 + D / 64 % 2 + D / 128 % 2

theorem num2_bit (c : Nat → Int) (n i : Nat) : numN 2 (outD c) n / 2 ^ i % 2 = if i < n then outD c i else 0 := by
  have hd : ∀ j, j < n → outD c j < 2 := fun j _ => by simp only [outD]; split <;> omega
  by_cases h : i < n
  · rw [if_pos h]; exact num_digit (by omega) n hd i h
  · rw [if_neg h]
    have h1 := num_lt (base := 2) (by omega) hd n (Nat.le_refl _)
    have h2 : 2 ^ n ≤ 2 ^ i := Nat.pow_le_pow_right (by omega) (by omega)
    rw [Nat.div_eq_of_lt (by omega)]

theorem pop8_num (c : Nat → Int) (n : Nat) (h : n ≤ 8) : pop8 (numN 2 (outD c) n) = escN c n := by
  have b0 := num2_bit c n 0
  have b1 := num2_bit c n 1
  have b2 := num2_bit c n 2
  have b3 := num2_bit c n 3
  have b4 := num2_bit c n 4
  have b5 := num2_bit c n 5
  have b6 := num2_bit c n 6
  have b7 := num2_bit c n 7
  simp only [show (2 : Nat) ^ 0 = 1 from rfl, show (2 : Nat) ^ 1 = 2 from rfl, show (2 : Nat) ^ 2 = 4 from rfl, show (2 : Nat) ^ 3 = 8 from rfl, show (2 : Nat) ^ 4 = 16 from rfl, show (2 : Nat) ^ 5 = 32 from rfl, show (2 : Nat) ^ 6 = 64 from rfl, show (2 : Nat) ^ 7 = 128 from rfl, Nat.div_one] at b0 b1 b2 b3 b4 b5 b6 b7
  unfold pop8
  rw [b0, b1, b2, b3, b4, b5, b6, b7]
  rcases (show n = 0 ∨ n = 1 ∨ n = 2 ∨ n = 3 ∨ n = 4 ∨ n = 5 ∨ n = 6 ∨ n = 7 ∨ n = 8 by omega) with rfl | rfl | rfl | rfl | rfl | rfl | rfl | rfl | rfl <;> simp [escN] <;> omega

theorem lt256 (D : Nat) (h : D < 256) : (D : Int) < 256 := by omega

set_option maxHeartbeats 4000000 in
set_option maxRecDepth 100000 in
theorem onesCount8_any (D : Nat) (w : World) (h : D < 256) :
    Calls Try.prog 32 #[.int .u8 (D : Int)] w fun e w' => e = .returned (.int .i64 (pop8 D : Int)) ∧ w' = w := by
  go_enter Try.func32, Try.ntmps32
  go_wp2_with fail
  go_ret
  refine ⟨?_, rfl⟩
  refine congrArg (fun x => Ending.returned (Value.int .i64 x)) ?_
  clear w
  rename_i hx
  have e : hx = lt256 D h := rfl
  subst e
  revert D
  decide +kernel

theorem escN_nat (c : Nat → Int) (n : Nat) (h : n ≤ 8) : numN 2 (outD c) n < 256 := by
  have hd : ∀ j, j < n → outD c j < 2 := fun j _ => by simp only [outD]; split <;> omega
  have h1 := num_lt (base := 2) (by omega) hd n (Nat.le_refl _)
  have h2 : 2 ^ n ≤ 2 ^ 8 := Nat.pow_le_pow_right (by omega) h
  omega

def escV (ok : Bool) (c : Nat → Int) (n : Nat) : Int := if ok then (escN c n : Int) else -1

set_option maxHeartbeats 4000000 in
theorem iEscapesOf_any (a : Option Addr) (n cap : Nat) (f g : Nat → Int) (r : RowV) (L1 L2 L3 : List Int) (w : World) (h : PRow w a n f g) (hr : r.is w L1 L2 L3) :
    Calls Try.prog 11 #[.slice a n cap, r.v] w fun e w' => e = .returned (.int .i64 (escV (rowOkB n f g L1 L2 L3) (nth L3) n)) ∧ Below w.heap.size w w' := by
  have PR' := hide (fun w1 (hb : Below w.heap.size w w1) => packRow_any a n cap f g r L1 L2 L3 w1 (h.below hb) (hr.below hb))
  obtain ⟨a1, a2, a3, m1, m2, m3, k1, k2, k3⟩ := r
  unfold RowV.v at PR' ⊢
  simp only at PR' ⊢
  clear h hr
  cases hv : rowOkB n f g L1 L2 L3
  · rw [hv] at PR'
    simp only [pkV, escV, if_false, Bool.false_eq_true] at PR' ⊢
    go_enter Try.func11, Try.ntmps11
    go_wp2_with fail
    refine (PR'.out _ (by repeat' first | with_reducible exact Below.refl _ _ | with_reducible assumption | with_reducible refine below_drewN ?_ _ | with_reducible refine balloc ?_ _ | with_reducible refine Below.drew ?_ | with_reducible refine Below.setCell ?_ (by first | (simp; done) | (simp; omega) | omega) _ | with_reducible refine bstep ?_ (by assumption))).mono ?_
    rintro e w1 ⟨rfl, hb1⟩
    go_wp2_with fail
    go_ret
    exact ⟨rfl, (by repeat' first | with_reducible exact Below.refl _ _ | with_reducible assumption | with_reducible refine below_drewN ?_ _ | with_reducible refine balloc ?_ _ | with_reducible refine Below.drew ?_ | with_reducible refine Below.setCell ?_ (by first | (simp; done) | (simp; omega) | omega) _ | with_reducible refine bstep ?_ (by assumption))⟩
  · rw [hv] at PR'
    have hn8 : n ≤ 8 := by
      simp only [rowOkB, Bool.and_eq_true] at hv
      exact (boxB_num' hv.1).2
    have OC := hide (fun w => onesCount8_any (numN 2 (outD (nth L3)) n) w (escN_nat _ _ hn8))
    rw [pop8_num _ _ hn8] at OC
    have hle := escN_le (nth L3) n
    simp only [pkV, escV, if_true, PK, pD] at PR' ⊢
    generalize ((numN 2 (outD (nth L3)) n : Nat) : Int) = D at PR' OC
    generalize escN (nth L3) n = x at OC hle ⊢
    generalize pA (nth L1) (nth L2) (nth L3) n = A at PR'
    generalize pB (nth L1) (nth L2) (nth L3) n = B at PR'
    generalize pC (nth L1) (nth L2) (nth L3) n = C at PR'
    clear hv
    go_enter Try.func11, Try.ntmps11
    go_wp2_with fail
    refine (PR'.out _ (by repeat' first | with_reducible exact Below.refl _ _ | with_reducible assumption | with_reducible refine below_drewN ?_ _ | with_reducible refine balloc ?_ _ | with_reducible refine Below.drew ?_ | with_reducible refine Below.setCell ?_ (by first | (simp; done) | (simp; omega) | omega) _ | with_reducible refine bstep ?_ (by assumption))).mono ?_
    rintro e w1 ⟨rfl, hb1⟩
    go_wp2_with fail
    refine (OC.out _).mono ?_
    rintro e w2 ⟨rfl, rfl⟩
    go_wp2_with fail
    go_ret
    exact ⟨rfl, (by repeat' first | with_reducible exact Below.refl _ _ | with_reducible assumption | with_reducible refine below_drewN ?_ _ | with_reducible refine balloc ?_ _ | with_reducible refine Below.drew ?_ | with_reducible refine Below.setCell ?_ (by first | (simp; done) | (simp; omega) | omega) _ | with_reducible refine bstep ?_ (by assumption))⟩

set_option maxHeartbeats 4000000 in
theorem l5Escapes_some (b1 b2 : Value) (b off n cap : Nat) (xs : List Int) (w : World) (hn : n ≤ 8) (hb : b < w.heap.size) (hc : ∀ i, i < n → w.cell? ⟨b, off + i, none⟩ = some (.int .i64 (nth xs i))) :
    Calls Try.prog 36 #[.agg #[b1, b2, .slice (some ⟨b, off, none⟩) n cap]] w fun e w' => e = .returned (.int .i64 (escN (nth xs) n : Int)) ∧ Below w.heap.size w w' := by
  go_enter Try.func36, Try.ntmps36
  go_wp2_with fail
  go_loopw [3, 4] (fun s i wr => ∃ k : Nat, k ≤ n ∧ i = .int .i64 k ∧ s = .int .i64 (escN (nth xs) k : Int) ∧ TriW wr w.heap.size b1 b2 (.slice (some ⟨b, off, none⟩) n cap) ∧ Below w.heap.size w wr) (fun _ i _ => n - (intOf i).toNat)
  case atStart => exact ⟨0, Nat.zero_le _, rfl, rfl, TriW.new _ _ _ _ _ _ rfl, (by repeat' first | with_reducible exact Below.refl _ _ | with_reducible assumption | with_reducible refine below_drewN ?_ _ | with_reducible refine balloc ?_ _ | with_reducible refine Below.drew ?_ | with_reducible refine Below.setCell ?_ (by first | (simp; done) | (simp; omega) | omega) _ | with_reducible refine bstep ?_ (by assumption))⟩
  case round =>
    obtain ⟨k, hk, rfl, rfl, hT, hbel⟩ := hrel
    have HT := hide hT
    have HB := hide hbel
    have HC := hide hc
    have hle := escN_le (nth xs) k
    obtain ⟨_, t0, t1, t2, _, _, _⟩ := hT
    by_cases hlt : k < n
    · have z1 : wr.cell? ⟨b, off + k, none⟩ = some (.int .i64 (nth xs k)) := (hbel.cell (p := ⟨b, off + k, none⟩) hb).trans (hc k hlt)
      have hs : escN (nth xs) (k + 1) = escN (nth xs) k + outD (nth xs) k := rfl
      clear hc hbel
      by_cases he : nth xs k = -1
      · have g1 : (nth xs k == -1) = true := by simp [he]
        have HE := hide (show escN (nth xs) (k + 1) = escN (nth xs) k + 1 by rw [hs]; simp [outD, he])
        clear he hs
        generalize escN (nth xs) k = x at HE hle
        go_wp2_with fail
        go_roundw
        case rel => exact ⟨k + 1, by omega, by go_num, by rw [HE.out]; go_num, HT.out, HB.out⟩
        case measure => simp [intOf]; omega
      · have g1 : (nth xs k == -1) = false := by simp [he]
        have HE := hide (show escN (nth xs) (k + 1) = escN (nth xs) k by rw [hs]; simp [outD, he])
        clear he hs
        generalize escN (nth xs) k = x at HE hle
        go_wp2_with fail
        go_roundw
        case rel => exact ⟨k + 1, by omega, by go_num, by rw [HE.out], HT.out, HB.out⟩
        case measure => simp [intOf]; omega
    · obtain rfl : k = n := by omega
      clear hc hbel
      go_wp2_with fail
      go_ret
      exact ⟨rfl, HB.out⟩

end Go.Proofs.Ytacfmhcilifkiaa
/- Rows of vectors, plain: they are right, and have as many codes of -1 as numbers that are in no range. -/
namespace Go.Proofs.Ytacfmhcilifkiaa
open Go.RowKit
set_option maxRecDepth 8000
set_option linter.unusedSimpArgs false
set_option linter.unusedVariables false

theorem code_mono0 (lo hi N x y : Int) (hN : 0 < N) (hS : lo ≤ hi) (h : x ≤ y) : codeN lo hi N x ≤ codeN lo hi N y := by
  unfold codeN
  refine Int.ediv_le_ediv (by omega) ?_
  have := Int.mul_le_mul_of_nonneg_right (show x - lo + 1 ≤ y - lo + 1 by omega) (show 0 ≤ N by omega)
  omega

theorem from_scale0 (lo hi N k i : Int) (hk : 0 < k) : fromN lo hi (N * k) (i * k) = fromN lo hi N i := by
  unfold fromN
  rw [← Int.mul_assoc, Int.mul_ediv_mul_of_pos_left _ _ hk]

theorem code_scale0 (lo hi N k x : Int) (hN : 0 < N) (hk : 0 < k) (hS : lo ≤ hi) : codeN lo hi (N * k) x / k = codeN lo hi N x := by
  have key : ∀ q : Int, q ≤ codeN lo hi (N * k) x / k ↔ q ≤ codeN lo hi N x := by
    intro q
    rw [Int.le_ediv_iff_mul_le hk, ← from_le lo hi (N * k) (q * k) x (Int.mul_pos hN hk) hS, from_scale0 lo hi N k q hk, from_le lo hi N q x hN hS]
  have a := (key (codeN lo hi (N * k) x / k)).1 (Int.le_refl _)
  have b := (key (codeN lo hi N x)).2 (Int.le_refl _)
  omega

theorem codeB_in {lo hi x t : Int} (hr : rightB lo hi = true) (h : lo ≤ x ∧ x ≤ hi) (ht : tierB t = true) : codeB lo hi t x = codeN lo hi (cellsN t) x := by
  unfold codeB hasB inB
  rw [hr, decide_eq_true h, ht]
  rfl
/-- A number's codes are those of a number. -/
theorem rowAt_code {lo hi x : Int} (hr : rightB lo hi = true) (hx : compB x = true) : rowAt lo hi (codeB lo hi 1 x) (codeB lo hi 2 x) (codeB lo hi 3 x) = true := by
  obtain ⟨a1, a2, a3, a4, a5⟩ := right_nums hr
  have hx' : -1048576 ≤ x ∧ x ≤ 1048576 := of_decide_eq_true hx
  by_cases h : lo ≤ x ∧ x ≤ hi
  · rw [codeB_in hr h rfl, codeB_in hr h rfl, codeB_in hr h rfl]
    show rowAt lo hi (codeN lo hi 2 x) (codeN lo hi 16 x) (codeN lo hi 256 x) = true
    have c0 := code_nonneg lo hi 256 x (by omega) h.1 a5
    have c1 := code_lt lo hi 256 x (by omega) h.2 a5
    have e1 : fromN lo hi 256 (codeN lo hi 256 x) ≤ x := (from_le lo hi 256 _ x (by omega) a5).2 (Int.le_refl _)
    have e2 : ¬ fromN lo hi 256 (codeN lo hi 256 x + 1) ≤ x := fun q => by have := (from_le lo hi 256 _ x (by omega) a5).1 q; omega
    have fb := from_bounds lo hi 256 (codeN lo hi 256 x) (by omega) c0 (by omega) a5
    have hcB : cellB lo hi 3 (codeN lo hi 256 x) = true := by
      simp only [cellB, hr, show tierB 3 = true from rfl, show cellsN 3 = 256 from rfl, Bool.true_and, Bool.or_eq_true, Bool.and_eq_true, decide_eq_true_eq]
      exact .inr ⟨⟨c0, c1⟩, by omega⟩
    have hne : ¬ codeN lo hi 256 x = -1 := by omega
    have hcl : cellLo lo hi 3 (codeN lo hi 256 x) = fromN lo hi 256 (codeN lo hi 256 x) := by simp only [cellLo, hcB, if_true, hne, if_false, show cellsN 3 = 256 from rfl]
    obtain ⟨y, hy⟩ : ∃ y, fromN lo hi 256 (codeN lo hi 256 x) = y := ⟨_, rfl⟩
    have e3 : codeN lo hi 256 y = codeN lo hi 256 x := by
      have p := (from_le lo hi 256 (codeN lo hi 256 x) y (by omega) a5).1 (by omega)
      have q := code_mono0 lo hi 256 y x (by omega) a5 (by omega)
      omega
    have e4 : codeN lo hi 16 y = codeN lo hi 16 x := by
      rw [← code_scale0 lo hi 16 16 y (by omega) (by omega) a5, ← code_scale0 lo hi 16 16 x (by omega) (by omega) a5]
      show codeN lo hi 256 y / 16 = codeN lo hi 256 x / 16
      rw [e3]
    have e5 : codeN lo hi 2 y = codeN lo hi 2 x := by
      rw [← code_scale0 lo hi 2 128 y (by omega) (by omega) a5, ← code_scale0 lo hi 2 128 x (by omega) (by omega) a5]
      show codeN lo hi 256 y / 128 = codeN lo hi 256 x / 128
      rw [e3]
    have hyi : lo ≤ y ∧ y ≤ hi := by omega
    unfold rowAt numIB numI
    rw [if_neg hne, if_neg hne, hcl, hy, hcB, codeB_in hr hyi rfl, codeB_in hr hyi rfl, codeB_in hr hyi rfl]
    show (true && ((codeN lo hi 2 y == codeN lo hi 2 x) && ((codeN lo hi 16 y == codeN lo hi 16 x) && (codeN lo hi 256 y == codeN lo hi 256 x)))) = true
    rw [e3, e4, e5]
    simp
  · rw [codeB_off h, codeB_off h, codeB_off h]
    unfold rowAt numIB numI
    rw [if_pos rfl, if_pos rfl]
    by_cases h1 : -1048576 < lo
    · rw [if_pos h1, codeB_off (x := lo - 1) (by omega), codeB_off (x := lo - 1) (by omega), codeB_off (x := lo - 1) (by omega), decide_eq_true h1]
      simp
    · have h2 : hi < 1048576 := by omega
      rw [if_neg h1, if_pos h2, codeB_off (x := hi + 1) (by omega), codeB_off (x := hi + 1) (by omega), codeB_off (x := hi + 1) (by omega), decide_eq_true h2]
      simp

theorem form_parts {n m : Nat} {f g : Nat → Int} {xs : List Int} (h : formB n f g m xs = true) : boxB n f g = true ∧ vecOkB xs = true ∧ n = m := by
  unfold formB at h
  simp only [Bool.and_eq_true, decide_eq_true_eq] at h
  exact ⟨h.1.1, h.1.2, h.2⟩

theorem row_right {n : Nat} {f g : Nat → Int} {xs : List Int} (h : formB n f g n xs = true) (hl : xs.length = n) : rowOkB n f g (ints (vcode f g xs 1) n) (ints (vcode f g xs 2) n) (ints (vcode f g xs 3) n) = true := by
  obtain ⟨hb, hv, _⟩ := form_parts h
  unfold rowOkB
  rw [hb, ints_len, ints_len, ints_len, decide_eq_true ⟨rfl, rfl, rfl⟩, Bool.true_and, Bool.true_and]
  refine allN_yes fun i hi => ?_
  rw [nth_ints _ n i hi, nth_ints _ n i hi, nth_ints _ n i hi]
  exact rowAt_code (boxB_at' hb hi) (vecOkB_at hv (by omega))
/-- How many of the first k numbers are in no range. -/
def missN (f g : Nat → Int) (xs : List Int) : Nat → Nat
  | 0 => 0
  | k + 1 => missN f g xs k + if hasB (f k) (g k) (nth xs k) then 0 else 1

theorem missN_le (f g : Nat → Int) (xs : List Int) : ∀ k, missN f g xs k ≤ k
  | 0 => Nat.le_refl _
  | k + 1 => by have := missN_le f g xs k; unfold missN; split <;> omega

theorem esc_miss {n : Nat} {f g : Nat → Int} {xs : List Int} (hr : ∀ i, i < n → rightB (f i) (g i) = true) : ∀ k, k ≤ n → escN (nth (ints (vcode f g xs 3) n)) k = missN f g xs k
  | 0, _ => rfl
  | k + 1, h => by
    have ih := esc_miss (xs := xs) hr k (by omega)
    show escN _ k + outD _ k = missN f g xs k + _
    rw [ih]
    congr 1
    unfold outD
    rw [nth_ints _ n k (by omega)]
    unfold vcode
    by_cases hx : f k ≤ nth xs k ∧ nth xs k ≤ g k
    · have hh : hasB (f k) (g k) (nth xs k) = true := by unfold hasB inB; rw [hr k (by omega), decide_eq_true hx]; rfl
      have := code_nonneg (f k) (g k) 256 (nth xs k) (by omega) hx.1 (right_nums (hr k (by omega))).2.2.2.2
      rw [codeB_in (hr k (by omega)) hx rfl, hh, if_neg (show ¬ codeN (f k) (g k) (cellsN 3) (nth xs k) = -1 by show ¬ codeN (f k) (g k) 256 (nth xs k) = -1; omega)]
      rfl
    · have hh : hasB (f k) (g k) (nth xs k) = false := by unfold hasB inB; rw [decide_eq_false hx, Bool.and_false]
      rw [codeB_off hx, hh]
      rfl
end Go.Proofs.Ytacfmhcilifkiaa

/- DriftOf of the program and of the model. -/
namespace Go.Proofs.Ytacfmhcilifkiaa
open Go.RowKit
set_option maxRecDepth 8000
set_option linter.unusedSimpArgs false
set_option linter.unusedVariables false

theorem esc_missV {n : Nat} {f g : Nat → Int} {xs : List Int} (hr : ∀ i, i < n → rightB (f i) (g i) = true) : ∀ k, k ≤ n → escN (vcode f g xs 3) k = missN f g xs k
  | 0, _ => rfl
  | k + 1, h => by
    have ih := esc_missV (xs := xs) hr k (by omega)
    have e := esc_miss (xs := xs) hr (k + 1) h
    have e' := esc_miss (xs := xs) hr k (by omega)
    have o : outD (vcode f g xs 3) k = outD (nth (ints (vcode f g xs 3) n)) k := by unfold outD; rw [nth_ints _ n k (by omega)]
    show escN (vcode f g xs 3) k + outD (vcode f g xs 3) k = _
    rw [ih, o, ← e, ← e']
    rfl

theorem num_zero (c : Nat → Int) : ∀ n, numN 2 (outD c) n = 0 ↔ escN c n = 0
  | 0 => by simp [numN, escN]
  | n + 1 => by
    have ih := num_zero c n
    have p : 0 < 2 ^ n := Nat.two_pow_pos n
    show numN 2 (outD c) n + outD c n * 2 ^ n = 0 ↔ escN c n + outD c n = 0
    constructor
    · intro h
      have h1 : numN 2 (outD c) n = 0 := by omega
      have h2 : outD c n * 2 ^ n = 0 := by omega
      have h3 : outD c n = 0 := by rcases Nat.mul_eq_zero.1 h2 with h | h; exact h; omega
      rw [ih.1 h1, h3]
    · intro h
      have h1 : escN c n = 0 := by omega
      have h2 : outD c n = 0 := by omega
      rw [ih.2 h1, h2]; simp
/-- Of a list of vectors those that have a number in no range. -/
def driftAt (f g : Nat → Int) (xss : List (List Int)) (k : Nat) : Bool := decide (0 < missN f g (row xss k) (row xss k).length)
def drN (f g : Nat → Int) (xss : List (List Int)) : Nat → Nat
  | 0 => 0
  | k + 1 => drN f g xss k + if driftAt f g xss k then 1 else 0

theorem drN_le (f g : Nat → Int) (xss : List (List Int)) : ∀ k, drN f g xss k ≤ k
  | 0 => Nat.le_refl _
  | k + 1 => by have := drN_le f g xss k; unfold drN; split <;> omega
def formAt (n : Nat) (f g : Nat → Int) (xss : List (List Int)) (k : Nat) : Bool := formB n f g (row xss k).length (row xss k)
def drB (n : Nat) (f g : Nat → Int) (xss : List (List Int)) : Bool := (boxB n f g && decide (xss.length ≤ 60)) && decide (∀ k, k < xss.length → formAt n f g xss k = true)
def drV (n : Nat) (f g : Nat → Int) (xss : List (List Int)) : Int := if drB n f g xss then (drN f g xss xss.length : Int) else -1

theorem dr_no {n : Nat} {f g : Nat → Int} {xss : List (List Int)} {k : Nat} (hk : k < xss.length) (h : formAt n f g xss k = false) : drV n f g xss = -1 := by
  unfold drV drB
  rw [show decide (∀ k, k < xss.length → formAt n f g xss k = true) = false from decide_eq_false (fun q => by rw [q k hk] at h; cases h), Bool.and_false]
  rfl

theorem dr_out {n : Nat} {f g : Nat → Int} {xss : List (List Int)} (h : (boxB n f g && decide (xss.length ≤ 60)) = false) : drV n f g xss = -1 := by
  unfold drV drB
  rw [h]
  rfl

theorem dr_yes {n : Nat} {f g : Nat → Int} {xss : List (List Int)} (h : boxB n f g = true) (h60 : xss.length ≤ 60) (ha : ∀ k, k < xss.length → formAt n f g xss k = true) : drV n f g xss = (drN f g xss xss.length : Int) := by
  unfold drV drB
  rw [h, decide_eq_true h60, decide_eq_true ha]
  rfl

set_option maxHeartbeats 4000000 in
theorem iDriftOf_any (a : Option Addr) (n cap : Nat) (f g : Nat → Int) (la : Option Addr) (m lc : Nat) (xss : List (List Int)) (w : World) (h : PRow w a n f g) (hM : Mat w la m xss) (hm : m ≤ 1048576) :
    Calls Try.prog 13 #[.slice a n cap, .slice la m lc] w fun e w' => e = .returned (.int .i64 (drV n f g xss)) ∧ Below w.heap.size w w' := by
  have BO := hide (iBoxOk_any a n cap f g w h)
  have hl := hM.len
  cases hb : boxB n f g
  · rw [hb] at BO
    rw [dr_out (by rw [hb]; rfl)]
    clear h hM hl hb
    go_enter Try.func13, Try.ntmps13
    go_wp2_with fail
    refine BO.out.mono ?_
    rintro e w1 ⟨rfl, hb1⟩
    go_wp2_with fail
    go_ret
    exact ⟨rfl, (by repeat' first | with_reducible exact Below.refl _ _ | with_reducible assumption | with_reducible refine below_drewN ?_ _ | with_reducible refine balloc ?_ _ | with_reducible refine Below.drew ?_ | with_reducible refine Below.setCell ?_ (by first | (simp; done) | (simp; omega) | omega) _ | with_reducible refine bstep ?_ (by assumption))⟩
  · rw [hb] at BO
    by_cases h60 : m ≤ 60
    · have h60' : ¬ ((60 : Int) < (m : Int)) := by omega
      have PV := hide (fun k w1 (hk : k < m) (hB : Below w.heap.size w w1) => show ∃ b off, la = some ⟨b, off, none⟩ ∧ ∃ a' c', w1.cell? ⟨b, off + k, none⟩ = some (.slice a' (row xss k).length c') ∧ Calls Try.prog 23 #[.slice a n cap, .slice a' (row xss k).length c'] w1 fun e w' => e = .returned (.tuple #[packT n f g (row xss k).length (row xss k), .bool (formAt n f g xss k)]) ∧ Below w1.heap.size w1 w' from by
        rcases hM.lies with h0 | ⟨b, off, rfl, lt, hc⟩
        · omega
        · obtain ⟨a', n', c', hz, hr, hn'⟩ := hc k hk
          have e := hr.len
          subst e
          exact ⟨b, off, rfl, a', c', (hB.cell (p := ⟨b, off + k, none⟩) lt).trans hz, packVector_any a a' n cap _ c' f g (row xss k) w1 (h.below hB) (hr.below hB) hn'⟩)
      have HBX := hide hb
      have HL := hide hl
      clear h hM hl hb
      go_enter Try.func13, Try.ntmps13
      go_wp2_with fail
      refine BO.out.mono ?_
      rintro e w1 ⟨rfl, hb1⟩
      have HB1 := hide (show Below w.heap.size w w1 from (by repeat' first | with_reducible exact Below.refl _ _ | with_reducible assumption | with_reducible refine below_drewN ?_ _ | with_reducible refine balloc ?_ _ | with_reducible refine Below.drew ?_ | with_reducible refine Below.setCell ?_ (by first | (simp; done) | (simp; omega) | omega) _ | with_reducible refine bstep ?_ (by assumption)))
      clear hb1
      go_wp2_with fail
      go_loopw [5, 20] (fun c i wr => ∃ k : Nat, k ≤ m ∧ i = .int .i64 k ∧ c = .int .i64 (drN f g xss k) ∧ Hid (∀ j, j < k → formAt n f g xss j = true) ∧ Below w.heap.size w wr) (fun _ i _ => m - (intOf i).toNat)
      case atStart => exact ⟨0, Nat.zero_le _, rfl, rfl, hide (fun j hj => absurd hj (by omega)), HB1.out⟩
      case round =>
        obtain ⟨k, hk, rfl, rfl, HA, hbel⟩ := hrel
        have HB := hide hbel
        clear hbel
        by_cases hlt : k < m
        · have hlt' : (k : Int) < (m : Int) := by omega
          obtain ⟨b, off, rfl, a', c', hz, PVk⟩ := PV.out k wr hlt HB.out
          have PVk := hide PVk
          have HF : Hid (∀ v, formAt n f g xss k = v → formB n f g (row xss k).length (row xss k) = v) := hide fun v q => q
          cases hf : formAt n f g xss k
          · have HN := hide (dr_no (n := n) (f := f) (g := g) (xss := xss) (k := k) (by rw [HL.out]; exact hlt) hf)
            have ht : packT n f g (row xss k).length (row xss k) = PK0 := by unfold packT; rw [HF.out _ hf]; rfl
            rw [ht, hf] at PVk
            clear ht hf
            go_wp2_with fail
            refine PVk.out.mono ?_
            rintro e w2 ⟨rfl, hb2⟩
            have HB2 := hide (bstep HB.out hb2)
            clear hb2 hz
            go_wp2_with fail
            go_ret
            have hbt := HB2.out
            exact ⟨by (rw [HN.out]; try rfl), (by repeat' first | with_reducible exact Below.refl _ _ | with_reducible assumption | with_reducible refine below_drewN ?_ _ | with_reducible refine balloc ?_ _ | with_reducible refine Below.drew ?_ | with_reducible refine Below.setCell ?_ (by first | (simp; done) | (simp; omega) | omega) _ | with_reducible refine bstep ?_ (by assumption))⟩
          · have hF := HF.out _ hf
            have hn8 : n = (row xss k).length ∧ n ≤ 8 := ⟨(form_parts hF).2.2, (boxB_num' (form_parts hF).1).2⟩
            have hr : ∀ i, i < n → rightB (f i) (g i) = true := fun i hi => boxB_at' (form_parts hF).1 hi
            have E1 : Hid (drN f g xss (k + 1) = drN f g xss k + if driftAt f g xss k then 1 else 0) := hide rfl
            have HOut : Hid ((pD (vcode f g (row xss k) 1) (vcode f g (row xss k) 2) (vcode f g (row xss k) 3) n != 0) = driftAt f g xss k) := hide (by
              unfold driftAt pD
              rw [← hn8.1, ← esc_missV hr n (Nat.le_refl _)]
              have q := num_zero (vcode f g (row xss k) 3) n
              by_cases h0 : escN (vcode f g (row xss k) 3) n = 0
              · rw [q.2 h0, h0]; rfl
              · have q' : ¬ numN 2 (outD (vcode f g (row xss k) 3)) n = 0 := fun r => h0 (q.1 r)
                rw [decide_eq_true (by omega), bne_iff_ne]
                omega)
            have ht : packT n f g (row xss k).length (row xss k) = PK (vcode f g (row xss k) 1) (vcode f g (row xss k) 2) (vcode f g (row xss k) 3) n n := by unfold packT; rw [hF]; rfl
            rw [ht, hf] at PVk
            have HK := hide hf
            obtain ⟨A, hA⟩ : ∃ x, pA (vcode f g (row xss k) 1) (vcode f g (row xss k) 2) (vcode f g (row xss k) 3) n = x := ⟨_, rfl⟩
            obtain ⟨B, hB⟩ : ∃ x, pB (vcode f g (row xss k) 1) (vcode f g (row xss k) 2) (vcode f g (row xss k) 3) n = x := ⟨_, rfl⟩
            obtain ⟨C, hC⟩ : ∃ x, pC (vcode f g (row xss k) 1) (vcode f g (row xss k) 2) (vcode f g (row xss k) 3) n = x := ⟨_, rfl⟩
            obtain ⟨D, hD⟩ : ∃ x, pD (vcode f g (row xss k) 1) (vcode f g (row xss k) 2) (vcode f g (row xss k) 3) n = x := ⟨_, rfl⟩
            simp only [PK] at PVk
            rw [hA, hB, hC, hD] at PVk
            rw [hD] at HOut
            obtain ⟨dv, hdv⟩ : ∃ v, driftAt f g xss k = v := ⟨_, rfl⟩
            rw [hdv] at HOut E1
            obtain ⟨ck, hck⟩ : ∃ v, drN f g xss k = v := ⟨_, rfl⟩
            have hle := drN_le f g xss k
            rw [hck] at E1 hle ⊢
            have hO := HOut.out
            clear ht hf hF hA hB hC hD hdv hck hn8 hr HOut HF
            go_wp2_with fail
            refine PVk.out.mono ?_
            rintro e w2 ⟨rfl, hb2⟩
            have HB2 := hide (bstep HB.out hb2)
            clear hb2 hz PVk
            cases dv
            · go_wp2_with fail
              go_roundw
              case rel =>
                have hbt := HB2.out
                exact ⟨k + 1, by omega, by go_num, by rw [E1.out]; rfl, hide (fun j hj => by rcases Nat.lt_succ_iff_lt_or_eq.1 hj with q | q; exact HA.out j q; (subst q; exact HK.out)), (by repeat' first | with_reducible exact Below.refl _ _ | with_reducible assumption | with_reducible refine below_drewN ?_ _ | with_reducible refine balloc ?_ _ | with_reducible refine Below.drew ?_ | with_reducible refine Below.setCell ?_ (by first | (simp; done) | (simp; omega) | omega) _ | with_reducible refine bstep ?_ (by assumption))⟩
              case measure => simp [intOf]; omega
            · go_wp2_with fail
              go_roundw
              case rel =>
                have hbt := HB2.out
                exact ⟨k + 1, by omega, by go_num, by rw [E1.out]; go_num, hide (fun j hj => by rcases Nat.lt_succ_iff_lt_or_eq.1 hj with q | q; exact HA.out j q; (subst q; exact HK.out)), (by repeat' first | with_reducible exact Below.refl _ _ | with_reducible assumption | with_reducible refine below_drewN ?_ _ | with_reducible refine balloc ?_ _ | with_reducible refine Below.drew ?_ | with_reducible refine Below.setCell ?_ (by first | (simp; done) | (simp; omega) | omega) _ | with_reducible refine bstep ?_ (by assumption))⟩
              case measure => simp [intOf]; omega
        · obtain rfl : k = m := by omega
          have HN := hide (dr_yes HBX.out (by rw [HL.out]; exact h60) (fun j hj => HA.out j (by rw [HL.out] at hj; exact hj)))
          rw [HL.out] at HN
          go_wp2_with fail
          go_ret
          exact ⟨by (rw [HN.out]; try rfl), HB.out⟩
    · have h60' : (60 : Int) < (m : Int) := by omega
      rw [dr_out (by rw [hb, decide_eq_false (by omega)]; rfl)]
      clear h hM hl hb
      go_enter Try.func13, Try.ntmps13
      go_wp2_with fail
      refine BO.out.mono ?_
      rintro e w1 ⟨rfl, hb1⟩
      go_wp2_with fail
      go_ret
      exact ⟨rfl, (by repeat' first | with_reducible exact Below.refl _ _ | with_reducible assumption | with_reducible refine below_drewN ?_ _ | with_reducible refine balloc ?_ _ | with_reducible refine Below.drew ?_ | with_reducible refine Below.setCell ?_ (by first | (simp; done) | (simp; omega) | omega) _ | with_reducible refine bstep ?_ (by assumption))⟩
end Go.Proofs.Ytacfmhcilifkiaa

/- DriftOf of the model. -/
namespace Go.Proofs.Ytacfmhcilifkiaa
open Go.RowKit
set_option maxRecDepth 8000
set_option linter.unusedSimpArgs false
set_option linter.unusedVariables false

set_option maxHeartbeats 4000000 in
theorem sDriftOf_any (a : Option Addr) (n cap : Nat) (f g : Nat → Int) (la : Option Addr) (m lc : Nat) (xss : List (List Int)) (w : World) (h : PRow w a n f g) (hM : Mat w la m xss) (hm : m ≤ 1048576) (hn : n ≤ 1048576) :
    Calls Try.prog 14 #[.slice a n cap, .slice la m lc] w fun e w' => e = .returned (.int .i64 (drV n f g xss)) ∧ Below w.heap.size w w' := by
  have BO := hide (sBoxOk_any a n cap f g w h hn)
  have hl := hM.len
  cases hb : boxB n f g
  · rw [hb] at BO
    rw [dr_out (by rw [hb]; rfl)]
    clear h hM hl hb
    go_enter Try.func14, Try.ntmps14
    go_wp2_with fail
    refine BO.out.mono ?_
    rintro e w1 ⟨rfl, hb1⟩
    go_wp2_with fail
    go_ret
    exact ⟨rfl, (by repeat' first | with_reducible exact Below.refl _ _ | with_reducible assumption | with_reducible refine below_drewN ?_ _ | with_reducible refine balloc ?_ _ | with_reducible refine Below.drew ?_ | with_reducible refine Below.setCell ?_ (by first | (simp; done) | (simp; omega) | omega) _ | with_reducible refine bstep ?_ (by assumption))⟩
  · rw [hb] at BO
    by_cases h60 : m ≤ 60
    · have h60' : ¬ ((60 : Int) < (m : Int)) := by omega
      have PV := hide (fun k w1 (hk : k < m) (hB : Below w.heap.size w w1) => show ∃ b off a' c', la = some ⟨b, off, none⟩ ∧ b < w1.heap.size ∧ w1.cell? ⟨b, off + k, none⟩ = some (.slice a' (row xss k).length c') ∧ Row w1 a' (row xss k).length (row xss k) ∧ (row xss k).length ≤ 1048576 from by
        rcases hM.lies with h0 | ⟨b, off, rfl, lt, hc⟩
        · omega
        · obtain ⟨a', n', c', hz, hr, hn'⟩ := hc k hk
          have e := hr.len
          subst e
          exact ⟨b, off, a', c', rfl, Nat.lt_of_lt_of_le lt hB.size, (hB.cell (p := ⟨b, off + k, none⟩) lt).trans hz, hr.below hB, hn'⟩)
      have HP := hide h
      have HBX := hide hb
      have HL := hide hl
      clear h hM hl hb
      go_enter Try.func14, Try.ntmps14
      go_wp2_with fail
      refine BO.out.mono ?_
      rintro e w1 ⟨rfl, hb1⟩
      have HB1 := hide (show Below w.heap.size w w1 from (by repeat' first | with_reducible exact Below.refl _ _ | with_reducible assumption | with_reducible refine below_drewN ?_ _ | with_reducible refine balloc ?_ _ | with_reducible refine Below.drew ?_ | with_reducible refine Below.setCell ?_ (by first | (simp; done) | (simp; omega) | omega) _ | with_reducible refine bstep ?_ (by assumption)))
      clear hb1
      go_wp2_with fail
      go_loopw [5, 6] (fun c i wr => ∃ k : Nat, k ≤ m ∧ i = .int .i64 k ∧ c = .int .i64 (drN f g xss k) ∧ Hid (∀ j, j < k → formAt n f g xss j = true) ∧ Below w.heap.size w wr) (fun _ i _ => m - (intOf i).toNat)
      case atStart => exact ⟨0, Nat.zero_le _, rfl, rfl, hide (fun j hj => absurd hj (by omega)), HB1.out⟩
      case round =>
        obtain ⟨k, hk, rfl, rfl, HA, hbel⟩ := hrel
        have HB := hide hbel
        clear hbel
        by_cases hlt : k < m
        · have hlt' : (k : Int) < (m : Int) := by omega
          obtain ⟨b, off, a', c', rfl, ltb, hz, hr, hn'⟩ := PV.out k wr hlt HB.out
          have HZ := hide hz
          have HR := hide hr
          have LF := hide (l4Form_any a a' n cap _ c' f g (row xss k) wr (HP.out.below HB.out) hr hn hn')
          have HF : Hid (∀ v, formAt n f g xss k = v → formB n f g (row xss k).length (row xss k) = v) := hide fun v q => q
          cases hf : formAt n f g xss k
          · have HN := hide (dr_no (n := n) (f := f) (g := g) (xss := xss) (k := k) (by rw [HL.out]; exact hlt) hf)
            rw [HF.out _ hf] at LF
            clear hf hr
            go_wp2_with fail
            refine LF.out.mono ?_
            rintro e w2 ⟨rfl, hb2⟩
            have HB2 := hide (bstep HB.out hb2)
            clear hb2 hz
            go_wp2_with fail
            go_ret
            have hbt := HB2.out
            exact ⟨by (rw [HN.out]; try rfl), (by repeat' first | with_reducible exact Below.refl _ _ | with_reducible assumption | with_reducible refine below_drewN ?_ _ | with_reducible refine balloc ?_ _ | with_reducible refine Below.drew ?_ | with_reducible refine Below.setCell ?_ (by first | (simp; done) | (simp; omega) | omega) _ | with_reducible refine bstep ?_ (by assumption))⟩
          · have hF := HF.out _ hf
            rw [hF] at LF
            have hn8 : n = (row xss k).length ∧ n ≤ 8 := ⟨(form_parts hF).2.2, (boxB_num' (form_parts hF).1).2⟩
            have hn1 : 1 ≤ n := (boxB_num' (form_parts hF).1).1
            have hri : ∀ i, i < n → rightB (f i) (g i) = true := fun i hi => boxB_at' (form_parts hF).1 hi
            have E1 : Hid (drN f g xss (k + 1) = drN f g xss k + if driftAt f g xss k then 1 else 0) := hide rfl
            have HOut : Hid (decide ((0 : Int) < (escN (nth (ints (vcode f g (row xss k) 3) n)) n : Int)) = driftAt f g xss k) := hide (by
              unfold driftAt
              rw [← hn8.1, esc_miss hri n (Nat.le_refl _)]
              by_cases h0 : 0 < missN f g (row xss k) n
              · rw [decide_eq_true h0, decide_eq_true (by omega)]
              · rw [decide_eq_false h0, decide_eq_false (by omega)])
            have HK := hide hf
            have hxn := hn8.1.symm
            have L5 : Hid (∀ w1, Below wr.heap.size wr w1 → Calls Try.prog 26 #[.slice a n cap, .slice a' n c'] w1 fun e w' => ∃ v, e = .returned v ∧ FreshRow w1 n (vcode f g (row xss k) 1) (vcode f g (row xss k) 2) (vcode f g (row xss k) 3) v w') := hide fun w1 hB1 => by
              have P1 := (HP.out.below HB.out).below hB1
              have R1 := hr.below hB1
              rw [hxn] at R1
              rcases P1.lies with h0 | ⟨pb, po, rfl, plt, phc⟩
              · omega
              rcases R1.lies with h0 | ⟨rb, ro, rfl, rlt, rhc⟩
              · omega
              exact l5Row_some pb po n cap rb ro c' f g (row xss k) w1 hn8.2 plt rlt phc rhc
            clear hz
            rw [hxn] at LF HZ
            obtain ⟨dv, hdv⟩ : ∃ v, driftAt f g xss k = v := ⟨_, rfl⟩
            rw [hdv] at HOut E1
            obtain ⟨ck, hck⟩ : ∃ v, drN f g xss k = v := ⟨_, rfl⟩
            have hle := drN_le f g xss k
            rw [hck] at E1 hle ⊢
            have hz := HZ.out
            have h8 := hn8.2
            clear hf hF hdv hck hn8 hri HF hr hxn hn'
            go_wp2_with fail
            refine LF.out.mono ?_
            rintro e w2 ⟨rfl, hb2⟩
            have HB2 := hide (bstep HB.out hb2)
            have L5w := hide (L5.out w2 hb2)
            have hz2 := (hb2.cell (p := ⟨b, off + k, none⟩) ltb).trans HZ.out
            clear hb2 hz LF L5
            go_wp2_with fail
            refine L5w.out.mono ?_
            rintro e w3 ⟨v, rfl, s1, s2, s3, j1, j2, j3, rfl, _, _, r3, _, _, _, hb3⟩
            have HB3 := hide (bstep HB2.out hb3)
            obtain ⟨b3, o3, rfl, lt3, hc3⟩ : ∃ b3 o3, s3 = some ⟨b3, o3, none⟩ ∧ b3 < w3.heap.size ∧ ∀ i, i < n → w3.cell? ⟨b3, o3 + i, none⟩ = some (.int .i64 (nth (ints (vcode f g (row xss k) 3) n) i)) := by
              rcases r3.lies with h0 | h0
              · omega
              · exact h0
            have L6 := hide (l5Escapes_some (.slice s1 n j1) (.slice s2 n j2) b3 o3 n j3 _ w3 h8 lt3 hc3)
            obtain ⟨ev, hev⟩ : ∃ v, escN (nth (ints (vcode f g (row xss k) 3) n)) n = v := ⟨_, rfl⟩
            rw [hev] at L6 HOut
            have hO := HOut.out
            clear hb3 hz2 L5w r3 hc3 hev HOut
            go_wp2_with fail
            refine L6.out.mono ?_
            rintro e w4 ⟨rfl, hb4⟩
            have HB4 := hide (bstep HB3.out hb4)
            clear hb4 L6
            cases dv
            · have hO' : ¬ ((0 : Int) < (ev : Int)) := of_decide_eq_false hO
              go_wp2_with fail
              go_roundw
              case rel =>
                exact ⟨k + 1, by omega, by go_num, by rw [E1.out]; rfl, hide (fun j hj => by rcases Nat.lt_succ_iff_lt_or_eq.1 hj with q | q; exact HA.out j q; (subst q; exact HK.out)), HB4.out⟩
              case measure => simp [intOf]; omega
            · have hO' : (0 : Int) < (ev : Int) := of_decide_eq_true hO
              go_wp2_with fail
              go_roundw
              case rel =>
                exact ⟨k + 1, by omega, by go_num, by rw [E1.out]; go_num, hide (fun j hj => by rcases Nat.lt_succ_iff_lt_or_eq.1 hj with q | q; exact HA.out j q; (subst q; exact HK.out)), HB4.out⟩
              case measure => simp [intOf]; omega
        · obtain rfl : k = m := by omega
          have HN := hide (dr_yes HBX.out (by rw [HL.out]; exact h60) (fun j hj => HA.out j (by rw [HL.out] at hj; exact hj)))
          rw [HL.out] at HN
          go_wp2_with fail
          go_ret
          exact ⟨by (rw [HN.out]; try rfl), HB.out⟩
    · have h60' : (60 : Int) < (m : Int) := by omega
      rw [dr_out (by rw [hb, decide_eq_false (by omega)]; rfl)]
      clear h hM hl hb
      go_enter Try.func14, Try.ntmps14
      go_wp2_with fail
      refine BO.out.mono ?_
      rintro e w1 ⟨rfl, hb1⟩
      go_wp2_with fail
      go_ret
      exact ⟨rfl, (by repeat' first | with_reducible exact Below.refl _ _ | with_reducible assumption | with_reducible refine below_drewN ?_ _ | with_reducible refine balloc ?_ _ | with_reducible refine Below.drew ?_ | with_reducible refine Below.setCell ?_ (by first | (simp; done) | (simp; omega) | omega) _ | with_reducible refine bstep ?_ (by assumption))⟩
end Go.Proofs.Ytacfmhcilifkiaa
