/- HeapSorted by both, and the walk of FnExactHeapSorted. -/
import Derived.Test.YtkonckgapicdfaaHAA
import Derived.Test.YtkonckgapicdfaaHO
import Derived.Test.YtkonckgapicdfaaHF
import Derived.Test.YtkonckgapicdfaaHM
import Derived.Test.YtkonckgapicdfaaHZ
import Derived.Test.YtkonckgapicdfaaHR
namespace Go.Proofs.Ytkonckgapicdfaa
open Go.RowKit
set_option maxRecDepth 8000
set_option linter.unusedSimpArgs false
set_option linter.unusedVariables false

set_option maxHeartbeats 400000 in
theorem l6Sorted_none (a : Option Addr) (cap : Nat) (w : World) :
    Calls Try.prog 15 #[.slice a 0 cap] w fun e w' => e = .returned (.slice (some ⟨w.heap.size, 0, none⟩) 0 0) ∧ Below w.heap.size w w' := by
  go_enter Try.func15, Try.ntmps15
  go_wp2_with fail
  refine wp_loop_rounds 1 ?_
  rw [rounds_succ]
  go_wp2_with fail
  go_ret
  exact ⟨rfl, (by repeat' first | with_reducible exact Below.refl _ _ | with_reducible assumption | with_reducible refine below_drewN ?_ _ | with_reducible refine balloc ?_ _ | with_reducible refine Below.drew ?_ | with_reducible refine Below.setCell ?_ (by first | (simp; done) | (simp; omega) | omega) _ | with_reducible refine bstep ?_ (by assumption))⟩

def SortRes (w : World) (l : Nat) (L : NL) (e : Ending) (w' : World) : Prop :=
  ∃ a c, e = .returned (.slice a l c) ∧ Wr w' a l L w.heap.size ∧ Below w.heap.size w w'
def sortN (n : Nat) (ok : Bool) : Nat := if ok then n else 0

theorem l6Sorted_any (a : Option Addr) (n cap : Nat) (f g : Nat → Int) (w : World) (h : PRow w a n f g) (hn : n ≤ 20) :
    Calls Try.prog 15 #[.slice a n cap] w fun e w' => SortRes w n (isortL n (listL n f g)) e w' := by
  by_cases h0 : n = 0
  · subst h0
    exact (l6Sorted_none a cap w).mono fun e w' ⟨he, hb⟩ => ⟨_, _, he, .inl rfl, hb⟩
  · rcases h.lies with q | ⟨b, off, rfl, lt, hc⟩
    · exact absurd q h0
    · refine (l6Sorted_some b off n cap f g w (by omega) lt hc).mono fun e w' ⟨g5, c5, M, he, hrc, hM, hb⟩ => ?_
      exact ⟨_, _, he, .inr ⟨g5, rfl, hrc.base, hrc.rowl.congr hM⟩, hb⟩

theorem heapB_n {K : Int} {n : Nat} {f g : Nat → Int} (h : heapB K n f g = true) : n ≤ 20 := by
  unfold heapB inB at h
  simp only [Bool.and_eq_true, decide_eq_true_eq] at h
  omega

set_option maxHeartbeats 1600000 in
theorem sSort_any (K : Int) (a : Option Addr) (n cap : Nat) (f g : Nat → Int) (w : World) (h : PRow w a n f g) :
    Calls Try.prog 8 #[.agg #[.int .i64 K, .slice a n cap]] w fun e w' => SortRes w (sortN n (heapB K n f g)) (isortL n (listL n f g)) e w' := by
  have HO := hide (fun w1 (hb : Below w.heap.size w w1) => sHeapOk_any K a n cap f g w1 (h.below hb))
  cases hv : heapB K n f g
  · rw [hv] at HO
    clear h
    go_enter Try.func8, Try.ntmps8
    go_wp2_with fail
    refine (HO.out _ (by repeat' first | with_reducible exact Below.refl _ _ | with_reducible assumption | with_reducible refine below_drewN ?_ _ | with_reducible refine balloc ?_ _ | with_reducible refine Below.drew ?_ | with_reducible refine Below.setCell ?_ (by first | (simp; done) | (simp; omega) | omega) _ | with_reducible refine bstep ?_ (by assumption))).mono ?_
    rintro e w1 ⟨rfl, hb1⟩
    go_wp2_with fail
    go_ret
    exact ⟨none, 0, rfl, .inl rfl, (by repeat' first | with_reducible exact Below.refl _ _ | with_reducible assumption | with_reducible refine below_drewN ?_ _ | with_reducible refine balloc ?_ _ | with_reducible refine Below.drew ?_ | with_reducible refine Below.setCell ?_ (by first | (simp; done) | (simp; omega) | omega) _ | with_reducible refine bstep ?_ (by assumption))⟩
  · rw [hv] at HO
    have hn := heapB_n hv
    have LS := hide (fun w1 (hb : Below w.heap.size w w1) => l6Sorted_any a n cap f g w1 (h.below hb) hn)
    clear h hv
    go_enter Try.func8, Try.ntmps8
    go_wp2_with fail
    refine (HO.out _ (by repeat' first | with_reducible exact Below.refl _ _ | with_reducible assumption | with_reducible refine below_drewN ?_ _ | with_reducible refine balloc ?_ _ | with_reducible refine Below.drew ?_ | with_reducible refine Below.setCell ?_ (by first | (simp; done) | (simp; omega) | omega) _ | with_reducible refine bstep ?_ (by assumption))).mono ?_
    rintro e w1 ⟨rfl, hb1⟩
    have h1 : w1.cell? ⟨w.heap.size, 1, none⟩ = some (.slice a n cap) := (hb1.cell (p := ⟨w.heap.size, 1, none⟩) (by simp)).trans (by simp [go_sem])
    have B1 : Below w.heap.size w w1 := (by repeat' first | with_reducible exact Below.refl _ _ | with_reducible assumption | with_reducible refine below_drewN ?_ _ | with_reducible refine balloc ?_ _ | with_reducible refine Below.drew ?_ | with_reducible refine Below.setCell ?_ (by first | (simp; done) | (simp; omega) | omega) _ | with_reducible refine bstep ?_ (by assumption))
    have s1 := B1.size
    clear hb1
    go_wp2_with fail
    refine (LS.out _ B1).mono ?_
    rintro e w2 ⟨a2, c2, rfl, wr2, hb2⟩
    go_wp2_with fail
    go_ret
    refine ⟨a2, c2, rfl, ?_, (by repeat' first | with_reducible exact Below.refl _ _ | with_reducible assumption | with_reducible refine below_drewN ?_ _ | with_reducible refine balloc ?_ _ | with_reducible refine Below.drew ?_ | with_reducible refine Below.setCell ?_ (by first | (simp; done) | (simp; omega) | omega) _ | with_reducible refine bstep ?_ (by assumption))⟩
    rcases wr2 with h0 | ⟨b, e, hB, hr⟩
    · exact .inl h0
    · exact .inr ⟨b, e, by omega, hr⟩

theorem iSort_any (K : Int) (a : Option Addr) (n cap : Nat) (f g : Nat → Int) (w : World) (h : PRow w a n f g) :
    Calls Try.prog 6 #[.agg #[.int .i64 K, .slice a n cap]] w fun e w' => SortRes w (sortN n (heapB K n f g)) (isortL n (listL n f g)) e w' := by
  cases hv : heapB K n f g
  · exact (iHeapSorted_no K a n cap f g w h hv).mono fun e w' ⟨he, hb⟩ => ⟨none, 0, he, .inl rfl, hb⟩
  · exact (iHeapSorted_yes K a n cap f g w h hv (heapB_n hv)).mono fun e w' ⟨b, he, hB, ho, hb⟩ => ⟨_, _, he, .inr ⟨b, rfl, hB, ho.rowl.congr (sorts_alike n _ (listL_heap hv))⟩, hb⟩

theorem sortN_le {K : Int} {n : Nat} {f g : Nat → Int} : sortN n (heapB K n f g) ≤ 20 := by
  unfold sortN
  cases h : heapB K n f g
  · simp
  · exact heapB_n h



end Go.Proofs.Ytkonckgapicdfaa