/- Heaps of the laws: a put as one contract; what is put keeps the least, plain. -/
import Derived.Test.YtkonckgapicdfaaRB
import Derived.Test.YtkonckgapicdfaaQL
import Derived.Test.YtkonckgapicdfaaHAB
import Derived.Test.YtkonckgapicdfaaOC
namespace Go.Proofs.Ytkonckgapicdfaa
open Go.RowKit
set_option maxRecDepth 8000
set_option linter.unusedSimpArgs false
set_option linter.unusedVariables false

/-- What stands behind a put, right or not. -/
def PutU (w : World) (pb : Bool) (K : Int) (n : Nat) (M : NL) (e : Ending) (w' : World) : Prop :=
  ∃ a' c', e = .returned (.tuple #[.agg #[.int .i64 K, .slice a' n c'], .bool pb]) ∧ PRow w' a' n (fun i => (M i).1) (fun i => (M i).2) ∧ Below w.heap.size w w'
/-- K and how many, behind a put. -/
def putK (K : Int) (pb : Bool) : Int := if pb then K else 0
def putC (K : Int) (n : Nat) (pb : Bool) : Nat := if pb then putN K n else 0



theorem sPutU (K : Int) (a : Option Addr) (n cap : Nat) (M : NL) (i d : Int) (w : World) (h : PRow w a n (fun i => (M i).1) (fun i => (M i).2)) :
    Calls Try.prog 30 #[.agg #[.int .i64 K, .slice a n cap], .agg #[.int .i64 i, .int .i64 d]] w fun e w' => PutU w (putB K n (fun i => (M i).1) (fun i => (M i).2) i d) (putK K (putB K n (fun i => (M i).1) (fun i => (M i).2) i d)) (putC K n (putB K n (fun i => (M i).1) (fun i => (M i).2) i d)) (putL K n (fun i => (M i).1) (fun i => (M i).2) i d) e w' := by
  refine (sHeapPut_any K a n cap _ _ i d w h).mono fun e w' q => ?_
  rcases q with ⟨hp, he, hb⟩ | ⟨hp, hb, b, cap', m, he, hlo, hm, _, _, ho⟩
  · rw [hp]; exact ⟨none, 0, he, ⟨.inl rfl⟩, hb⟩
  · rw [hp]
    refine ⟨_, _, he, ?_, hb⟩
    exact Wr.prow (B := 0) (.inr ⟨b, rfl, Nat.zero_le _, (ho.less hm).rowl⟩)

theorem heap_parts {K : Int} {n : Nat} {M : NL} (h : heapB K n (fun i => (M i).1) (fun i => (M i).2) = true) : ∃ k : Nat, K = (k : Int) ∧ 1 ≤ k ∧ k ≤ 20 ∧ n ≤ k ∧ HeapP n M ∧ ∀ i, i < n → nearB (M i).1 (M i).2 = true := by
  have hh := listL_heap h
  unfold heapB inB at h
  simp only [Bool.and_eq_true, decide_eq_true_eq] at h
  refine ⟨K.toNat, by omega, by omega, by omega, by omega, hh.congr fun i hi => listL_at hi, fun i hi => ?_⟩
  have := allN_at h.2 hi
  unfold heapAt at this
  simp only [Bool.and_eq_true] at this
  exact this.1

theorem keep0 {k n : Nat} {M : NL} (h : n ≤ k) (hh : HeapP n M) : Keep k M n n M := ⟨by omega, hh, fun _ _ => rfl⟩

theorem put_keep {k : Nat} {A : NL} {j n : Nat} {P : NL} (h : Keep k A j n P) (x : Int × Int) : Keep k (A.put j x) (j + 1) (putN k n) (putL k n (fun i => (P i).1) (fun i => (P i).2) x.1 x.2) := by
  have h' : Keep k (A.put j x) j n P := ⟨h.num, h.heap, fun i hi => (h.same i hi).trans (isortL_ext j (fun t ht => (put_off A x (by omega)).symm) i (by have := h.num; omega))⟩
  have := h'.step
  rwa [put_at] at this

theorem cnt_one (A : NL) (j : Nat) (x z : Int × Int) : cnt (A.put j x) (j + 1) z = cnt A j z + if x = z then 1 else 0 := by
  show cnt (A.put j x) j z + (if A.put j x j = z then 1 else 0) = _
  rw [put_at, cnt_congr j z (M := A) fun i hi => put_off _ _ (by omega)]
/-- In whatever order two come. -/
theorem order_same {k n n2 n4 : Nat} {M P2 P4 : NL} {x y : Int × Int} (h2 : Keep k ((M.put n x).put (n + 1) y) (n + 1 + 1) n2 P2) (h4 : Keep k ((M.put n y).put (n + 1) x) (n + 1 + 1) n4 P4) : n4 = n2 ∧ ∀ i, i < n2 → isortL n4 P4 i = isortL n2 P2 i := by
  have e : n4 = n2 := by rw [h2.num, h4.num]
  subst e
  refine ⟨rfl, fun i hi => ?_⟩
  rw [h2.same i hi, h4.same i hi]
  have := h2.num
  refine sorted_unique (n + 1 + 1) _ _ (isortL_sorted _ _).1 (isortL_sorted _ _).1 (fun z => ?_) i (by omega)
  rw [(isortL_sorted _ _).2, (isortL_sorted _ _).2, cnt_one, cnt_one, cnt_one, cnt_one]
  omega

theorem PRow.congrH {w : World} {a : Option Addr} {n : Nat} {A B : NL} (h : PRow w a n (fun i => (A i).1) (fun i => (A i).2)) (e : ∀ i, i < n → A i = B i) : PRow w a n (fun i => (B i).1) (fun i => (B i).2) := by
  rcases h.lies with h0 | ⟨b, off, e', lt, hc⟩
  · exact ⟨.inl h0⟩
  · exact ⟨.inr ⟨b, off, e', lt, fun i hi => by rw [← e i hi]; exact hc i hi⟩⟩

theorem listL_sort {n : Nat} {M : NL} : ∀ i, i < n → isortL n (listL n (fun i => (M i).1) (fun i => (M i).2)) i = isortL n M i := isortL_ext n fun i hi => listL_at hi
/-- What is sorted of a heap that is right. -/
theorem iSortU (K : Int) (a : Option Addr) (n cap : Nat) (M : NL) (w : World) (h : PRow w a n (fun i => (M i).1) (fun i => (M i).2)) :
    Calls Try.prog 6 #[.agg #[.int .i64 K, .slice a n cap]] w fun e w' => ∃ a' c', e = .returned (.slice a' (sortN n (heapB K n (fun i => (M i).1) (fun i => (M i).2))) c') ∧ PRow w' a' (sortN n (heapB K n (fun i => (M i).1) (fun i => (M i).2))) (fun i => (isortL n M i).1) (fun i => (isortL n M i).2) ∧ Below w.heap.size w w' := by
  refine (iSort_any K a n cap _ _ w h).mono fun e w' ⟨a', c', he, hr, hb⟩ => ⟨a', c', he, ?_, hb⟩
  refine hr.prow.congrH fun i hi => listL_sort i ?_
  unfold sortN at hi
  split at hi <;> omega

theorem sSortU (K : Int) (a : Option Addr) (n cap : Nat) (M : NL) (w : World) (h : PRow w a n (fun i => (M i).1) (fun i => (M i).2)) :
    Calls Try.prog 8 #[.agg #[.int .i64 K, .slice a n cap]] w fun e w' => ∃ a' c', e = .returned (.slice a' (sortN n (heapB K n (fun i => (M i).1) (fun i => (M i).2))) c') ∧ PRow w' a' (sortN n (heapB K n (fun i => (M i).1) (fun i => (M i).2))) (fun i => (isortL n M i).1) (fun i => (isortL n M i).2) ∧ Below w.heap.size w w' := by
  refine (sSort_any K a n cap _ _ w h).mono fun e w' ⟨a', c', he, hr, hb⟩ => ⟨a', c', he, ?_, hb⟩
  refine hr.prow.congrH fun i hi => listL_sort i ?_
  unfold sortN at hi
  split at hi <;> omega
end Go.Proofs.Ytkonckgapicdfaa
