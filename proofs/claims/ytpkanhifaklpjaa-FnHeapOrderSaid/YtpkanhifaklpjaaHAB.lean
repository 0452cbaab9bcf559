/- HeapSorted by both, and the walk of FnExactHeapSorted. -/
import Derived.Test.YtpkanhifaklpjaaHAA
import Derived.Test.YtpkanhifaklpjaaHO
import Derived.Test.YtpkanhifaklpjaaHF
import Derived.Test.YtpkanhifaklpjaaHM
import Derived.Test.YtpkanhifaklpjaaHZ
import Derived.Test.YtpkanhifaklpjaaHR
namespace Go.Proofs.Ytpkanhifaklpjaa
open Go.RowKit
set_option maxRecDepth 8000
set_option linter.unusedSimpArgs false
set_option linter.unusedVariables false



def SortRes (w : World) (l : Nat) (L : NL) (e : Ending) (w' : World) : Prop :=
  ∃ a c, e = .returned (.slice a l c) ∧ Wr w' a l L w.heap.size ∧ Below w.heap.size w w'
def sortN (n : Nat) (ok : Bool) : Nat := if ok then n else 0



theorem heapB_n {K : Int} {n : Nat} {f g : Nat → Int} (h : heapB K n f g = true) : n ≤ 20 := by
  unfold heapB inB at h
  simp only [Bool.and_eq_true, decide_eq_true_eq] at h
  omega



theorem iSort_any (K : Int) (a : Option Addr) (n cap : Nat) (f g : Nat → Int) (w : World) (h : PRow w a n f g) :
    Calls Try.prog 9 #[.agg #[.int .i64 K, .slice a n cap]] w fun e w' => SortRes w (sortN n (heapB K n f g)) (isortL n (listL n f g)) e w' := by
  cases hv : heapB K n f g
  · exact (iHeapSorted_no K a n cap f g w h hv).mono fun e w' ⟨he, hb⟩ => ⟨none, 0, he, .inl rfl, hb⟩
  · exact (iHeapSorted_yes K a n cap f g w h hv (heapB_n hv)).mono fun e w' ⟨b, he, hB, ho, hb⟩ => ⟨_, _, he, .inr ⟨b, rfl, hB, ho.rowl.congr (sorts_alike n _ (listL_heap hv))⟩, hb⟩

theorem sortN_le {K : Int} {n : Nat} {f g : Nat → Int} : sortN n (heapB K n f g) ≤ 20 := by
  unfold sortN
  cases h : heapB K n f g
  · simp
  · exact heapB_n h



end Go.Proofs.Ytpkanhifaklpjaa