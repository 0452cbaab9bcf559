/- leastOf of the program. -/
import Derived.Test.YtkonckgapicdfaaQK
import Derived.Test.YtkonckgapicdfaaHAA
import Derived.Test.YtkonckgapicdfaaHR0
namespace Go.Proofs.Ytkonckgapicdfaa
open Go.RowKit
set_option maxRecDepth 8000
set_option linter.unusedSimpArgs false
set_option linter.unusedVariables false

theorem isortL_ext {A B : NL} : ∀ n, (∀ i, i < n → A i = B i) → ∀ i, i < n → isortL n A i = isortL n B i := by
  intro n
  induction n with
  | zero => intro _ i hi; omega
  | succ n ih =>
    intro h i hi
    show insL n (isortL n A) (A n) i = insL n (isortL n B) (B n) i
    rw [h n (by omega)]
    exact insL_ext n _ _ _ (fun j hj => ih (fun k hk => h k (by omega)) j hj) i (by omega)

theorem HeapP.congr {n : Nat} {A B : NL} (h : HeapP n A) (e : ∀ i, i < n → A i = B i) : HeapP n B := fun j h0 hj => by rw [← e _ (by omega), ← e j hj]; exact h j h0 hj

theorem listL_at {n : Nat} {L : NL} {i : Nat} (h : i < n) : listL n (fun i => (L i).1) (fun i => (L i).2) i = L i := by
  unfold listL
  rw [if_pos h]

/-- A heap that keeps the K least of the first j of A. -/
structure Keep (K : Nat) (A : NL) (j n : Nat) (P : NL) : Prop where
  num : n = min j K
  heap : HeapP n P
  same : ∀ i, i < n → isortL n P i = isortL j A i

theorem Keep.zero (K : Nat) (A P : NL) : Keep K A 0 0 P := ⟨by omega, fun j h0 hj => by omega, fun i hi => by omega⟩

theorem Keep.step {K : Nat} {A : NL} {j n : Nat} {P : NL} (h : Keep K A j n P) : Keep K A (j + 1) (putN K n) (putL K n (fun i => (P i).1) (fun i => (P i).2) (A j).1 (A j).2) := by
  have hn := h.num
  have hs := keep_step (K := K) (n := n) (j := j) (H := listL n (fun i => (P i).1) (fun i => (P i).2)) (A := A) (x := A j) rfl hn (h.heap.congr fun i hi => (listL_at hi).symm) (fun i hi => (isortL_ext n (fun i hi => listL_at hi) i hi).trans (h.same i hi))
  unfold putN putL putL1
  by_cases hlt : n < K
  · obtain ⟨h1, h2⟩ := hs.1 hlt
    rw [if_neg (by omega), if_neg (by omega)]
    exact ⟨by omega, h1, h2⟩
  · obtain ⟨h1, h2⟩ := hs.2 hlt
    rw [if_pos (by omega), if_pos (by omega)]
    exact ⟨by omega, h1, h2⟩

theorem mem_isort {n : Nat} {A : NL} {i : Nat} (hi : i < n) : ∃ j, j < n ∧ A j = isortL n A i := by
  refine cnt_pos n ?_
  rw [← (isortL_sorted n A).2]
  exact cnt_of hi rfl

theorem isort_mem {n : Nat} {A : NL} {i : Nat} (hi : i < n) : ∃ j, j < n ∧ isortL n A j = A i := by
  refine cnt_pos n ?_
  rw [(isortL_sorted n A).2]
  exact cnt_of hi rfl

theorem Keep.near {K : Nat} {A : NL} {j n : Nat} {P : NL} (h : Keep K A j n P) (hA : ∀ t, t < j → nearB (A t).1 (A t).2 = true) : ∀ i, i < n → nearB (P i).1 (P i).2 = true := by
  intro i hi
  obtain ⟨t, ht, e⟩ := isort_mem (A := P) hi
  have hn := h.num
  rw [← e, h.same t ht]
  obtain ⟨u, hu, e2⟩ := mem_isort (n := j) (A := A) (i := t) (by omega)
  rw [← e2]
  exact hA u hu

theorem Keep.ok {K : Nat} {A : NL} {j n : Nat} {P : NL} (h : Keep K A j n P) (hA : ∀ t, t < j → nearB (A t).1 (A t).2 = true) (h1 : 1 ≤ K) (h20 : K ≤ 20) : heapB K n (fun i => (P i).1) (fun i => (P i).2) = true := by
  have hn := h.num
  rw [heapB_some ⟨⟨by omega, by omega⟩, by omega⟩]
  refine allN_yes fun i hi => ?_
  unfold heapAt
  rw [h.near hA i hi]
  by_cases h0 : i = 0
  · subst h0
    simp only [Bool.true_and, Bool.not_eq_true']
    exact lessB_self _ _
  · simp only [Bool.true_and, Bool.not_eq_true']
    exact h.heap i (by omega) hi

/-- What leastOf keeps: its heap's box, and the row that it leads to. -/
structure HK1 (w0 : World) (K : Nat) (A : NL) (j : Nat) (w : World) : Prop where
  ex : ∃ a c n P, w.heap[w0.heap.size]? = some (.cells #[.int .i64 K, .slice a n c] 26 (0, 0)) ∧ Wr w a n P (w0.heap.size + 1) ∧ Keep K A j n P
  bel : Below w0.heap.size w0 w

theorem HK1.below {w0 : World} {K : Nat} {A : NL} {j : Nat} {w w' : World} (h : HK1 w0 K A j w) (hb : Below w.heap.size w w') : HK1 w0 K A j w' := by
  obtain ⟨⟨a, c, n, P, h1, h2, h3⟩, h4⟩ := h
  exact ⟨⟨a, c, n, P, (hb.block _ (Array.getElem?_eq_some_iff.1 h1).1).trans h1, h2.below hb, h3⟩, bstep h4 hb⟩

theorem two_c0 {w : World} {b : Nat} {u v : Value} {t : TypeId} (h : w.heap[b]? = some (.cells #[u, v] t (0, 0))) : w.cell? ⟨b, 0, none⟩ = some u := by simp [World.cell?, h]

theorem two_c1 {w : World} {b : Nat} {u v : Value} {t : TypeId} (h : w.heap[b]? = some (.cells #[u, v] t (0, 0))) : w.cell? ⟨b, 1, none⟩ = some v := by simp [World.cell?, h]

theorem two_f {w : World} {b : Nat} {u v : Value} {t : TypeId} (h : w.heap[b]? = some (.cells #[u, v] t (0, 0))) (o : Nat) : w.frozen? ⟨b, o, none⟩ = false := by simp [World.frozen?, h]

theorem Wr.awayB {w : World} {a : Option Addr} {l : Nat} {L : NL} {B : Nat} (h : Wr w a l L B) (p : Addr) (v : Value) (hp : p.block < B) : Wr (w.setCell p v) a l L B := by
  rcases h with h0 | ⟨b, e, hB, hr⟩
  · exact .inl h0
  · exact .inr ⟨b, e, hB, hr.away p v (by omega)⟩

/-- The answer of leastOf: the least min K N of A, sorted. -/
def LeastR (w : World) (K N : Nat) (A : NL) (e : Ending) (w' : World) : Prop :=
  ∃ a cap, e = .returned (.slice a (min K N) cap) ∧ Wr w' a (min K N) (isortL N A) w.heap.size ∧ Below w.heap.size w w'

/-- The same, and where it lies, without room behind. -/
def LeastC (w : World) (K N : Nat) (A : NL) (e : Ending) (w' : World) : Prop :=
  ∃ b, e = .returned (.slice (some ⟨b, 0, none⟩) (min K N) (min K N)) ∧ w.heap.size ≤ b ∧ RowL w' b (min K N) (isortL N A) ∧ Below w.heap.size w w'

theorem LeastC.r {w : World} {K N : Nat} {A : NL} {e : Ending} {w' : World} (h : LeastC w K N A e w') : LeastR w K N A e w' := by
  obtain ⟨b, he, hb, hr, hl⟩ := h
  exact ⟨_, _, he, .inr ⟨b, rfl, hb, hr⟩, hl⟩



end Go.Proofs.Ytkonckgapicdfaa