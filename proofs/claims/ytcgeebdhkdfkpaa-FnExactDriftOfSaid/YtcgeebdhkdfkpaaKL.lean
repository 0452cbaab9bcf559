/- RowOk: the model at all arguments; it is what the program asks. -/
import Derived.Test.YtcgeebdhkdfkpaaKK
import Derived.Test.YtcgeebdhkdfkpaaVA
import Derived.Test.YtcgeebdhkdfkpaaSZI
namespace Go.Proofs.Ytcgeebdhkdfkpaa
open Go.RowKit
set_option maxRecDepth 8000
set_option linter.unusedSimpArgs false
set_option linter.unusedVariables false

theorem ints_dec {c : Nat → Int} {n : Nat} {L : List Int} (hl : L.length = n) : decide (ints c n = L) = allN n (fun i => c i == nth L i) := by
  subst hl
  by_cases h : ints c L.length = L
  · rw [decide_eq_true h, allN_yes]
    intro i hi
    have : nth (ints c L.length) i = nth L i := by rw [h]
    rw [nth_ints _ _ _ hi] at this
    simp [this]
  · rw [decide_eq_false h]
    symm
    rw [Bool.eq_false_iff]
    intro q
    refine h (nth_ext (ints_len _ _) fun j hj => ?_)
    rw [ints_len] at hj
    rw [nth_ints _ _ _ hj]
    simpa using allN_at q hj

theorem allN_and (n : Nat) (p q : Nat → Bool) : (allN n p && allN n q) = allN n (fun i => p i && q i) := by
  rw [Bool.eq_iff_iff]
  constructor
  · intro h
    simp only [Bool.and_eq_true] at h
    exact allN_yes fun i hi => by rw [allN_at h.1 hi, allN_at h.2 hi]; rfl
  · intro h
    simp only [Bool.and_eq_true]
    have : ∀ i, i < n → p i = true ∧ q i = true := fun i hi => by simpa using allN_at h hi
    exact ⟨allN_yes fun i hi => (this i hi).1, allN_yes fun i hi => (this i hi).2⟩

theorem allN_same {n : Nat} {p q : Nat → Bool} (h : ∀ i, i < n → p i = q i) : allN n p = allN n q := by
  unfold allN
  rw [Bool.eq_iff_iff, List.all_eq_true, List.all_eq_true]
  constructor
  · intro k i hi; rw [← h i (List.mem_range.1 hi)]; exact k i hi
  · intro k i hi; rw [h i (List.mem_range.1 hi)]; exact k i hi

theorem rowOk_model {n : Nat} {f g : Nat → Int} {L1 L2 L3 : List Int} (hr : ∀ i, i < n → rightB (f i) (g i) = true) (l3 : L3.length = n) :
    (allN n (fun i => cellB (f i) (g i) 3 (nth L3 i)) && sameRowB n f g L1 L2 L3) = (decide (L1.length = n ∧ L2.length = n ∧ L3.length = n) && allN n (fun i => rowAt (f i) (g i) (nth L1 i) (nth L2 i) (nth L3 i))) := by
  unfold sameRowB
  by_cases h1 : L1.length = n
  · by_cases h2 : L2.length = n
    · rw [ints_dec h1, ints_dec h2, ints_dec l3, allN_and, allN_and, allN_and, decide_eq_true ⟨h1, h2, l3⟩, Bool.true_and]
      refine allN_same fun i hi => ?_
      rw [← rowAt_model (hr i hi)]
      simp only [vcode, nth_ints _ _ _ hi]
    · rw [show decide (L1.length = n ∧ L2.length = n ∧ L3.length = n) = false from decide_eq_false (fun q => h2 q.2.1), Bool.false_and]
      rw [show decide (ints (vcode f g (ints (fun i => numS (f i) (g i) (nth L3 i)) n) 2) n = L2) = false from decide_eq_false (fun q => h2 (by rw [← q, ints_len]))]
      simp
  · rw [show decide (L1.length = n ∧ L2.length = n ∧ L3.length = n) = false from decide_eq_false (fun q => h1 q.1), Bool.false_and]
    rw [show decide (ints (vcode f g (ints (fun i => numS (f i) (g i) (nth L3 i)) n) 1) n = L1) = false from decide_eq_false (fun q => h1 (by rw [← q, ints_len]))]
    simp





/-- szRow answers a number below 0 where the row has more than is left. -/
def szRowV (left : Int) (r : RowV) : Int := if left - (r.m1 : Int) - (r.m2 : Int) - (r.m3 : Int) < 0 then -1 else left - (r.m1 : Int) - (r.m2 : Int) - (r.m3 : Int)



/-- A row of the call's own, copied out of one that is read: each of its lists has a block of its own. -/
structure Mine3 (B C : Nat) (w : World) (g1 g2 g3 : Nat) (L1 L2 L3 : List Int) : Prop where
  o1 : Own w g1 L1
  o2 : Own w g2 L2
  o3 : Own w g3 L3
  lo : B ≤ g1 ∧ B ≤ g2 ∧ B ≤ g3
  hi : g1 < C ∧ g2 < C ∧ g3 < C
  apart : g1 ≠ g2 ∧ g1 ≠ g3 ∧ g2 ≠ g3

theorem Mine3.below {B C : Nat} {w w' : World} {g1 g2 g3 : Nat} {L1 L2 L3 : List Int} (h : Mine3 B C w g1 g2 g3 L1 L2 L3) (hb : Below w.heap.size w w') : Mine3 B C w' g1 g2 g3 L1 L2 L3 := ⟨h.o1.below hb, h.o2.below hb, h.o3.below hb, h.lo, h.hi, h.apart⟩
def rowM (g1 g2 g3 m1 m2 m3 : Nat) : RowV := ⟨some ⟨g1, 0, none⟩, some ⟨g2, 0, none⟩, some ⟨g3, 0, none⟩, m1, m2, m3, m1, m2, m3⟩

theorem Mine3.is {B C : Nat} {w : World} {g1 g2 g3 : Nat} {L1 L2 L3 : List Int} (h : Mine3 B C w g1 g2 g3 L1 L2 L3) : (rowM g1 g2 g3 L1.length L2.length L3.length).is w L1 L2 L3 := ⟨h.o1.row, h.o2.row, h.o3.row⟩

theorem TriW.set0 {w : World} {b : Nat} {v0 v1 v2 : Value} (h : TriW w b v0 v1 v2) (u : Value) : TriW (w.setCell ⟨b, 0, none⟩ u) b u v1 v2 := by
  obtain ⟨h0, h1, h2, h3, f0, f1, f2⟩ := h
  exact ⟨by simpa [World.setCell] using h0, by simp [go_sem, h1, h2, h3], by simp [go_sem, h1, h2, h3], by simp [go_sem, h1, h2, h3], by simp [go_sem, f0], by simp [go_sem, f1], by simp [go_sem, f2]⟩

theorem TriW.set1 {w : World} {b : Nat} {v0 v1 v2 : Value} (h : TriW w b v0 v1 v2) (u : Value) : TriW (w.setCell ⟨b, 1, none⟩ u) b v0 u v2 := by
  obtain ⟨h0, h1, h2, h3, f0, f1, f2⟩ := h
  exact ⟨by simpa [World.setCell] using h0, by simp [go_sem, h1, h2, h3], by simp [go_sem, h1, h2, h3], by simp [go_sem, h1, h2, h3], by simp [go_sem, f0], by simp [go_sem, f1], by simp [go_sem, f2]⟩

def ToRow (w : World) (L1 L2 L3 : List Int) (e : Ending) (w' : World) : Prop :=
  ∃ g1 g2 g3, e = .returned (rowM g1 g2 g3 L1.length L2.length L3.length).v ∧ Mine3 w.heap.size w'.heap.size w' g1 g2 g3 L1 L2 L3 ∧ Below w.heap.size w w'





end Go.Proofs.Ytcgeebdhkdfkpaa
