/- Entries: two books alike, an entry's book; EntryOf of the model and of the program. -/
import Derived.Test.YtkogkgdoebdmgaaKG
import Derived.Test.YtkogkgdoebdmgaaBE
import Derived.Test.YtkogkgdoebdmgaaID
import Derived.Test.YtkogkgdoebdmgaaIK
namespace Go.Proofs.Ytkogkgdoebdmgaa
open Go.RowKit
set_option linter.unusedSimpArgs false
set_option linter.unusedVariables false

set_option maxHeartbeats 1600000 in
theorem l9Books_any (a a' : Option Addr) (n cap n' cap' : Nat) (f g f' g' : Nat → Int) (w : World) (h : PRow w a n f g) (h' : PRow w a' n' f' g') (hn : n ≤ 1048576) (hn' : n' ≤ 1048576) :
    Calls Try.prog 18 #[.slice a n cap, .slice a' n' cap'] w fun e w' => e = .returned (.bool (alikeB n f g n' f' g')) ∧ Below w.heap.size w w' := by
  have A := hide (sBoxOk_any a n cap f g w h hn)
  have B := hide (fun w1 (hb : Below w.heap.size w w1) => sBoxOk_any a' n' cap' f' g' w1 (h'.below hb) hn')
  clear h h'
  unfold alikeB
  cases h1 : boxB n f g
  · rw [h1] at A
    simp only [Bool.and_true, Bool.and_false, Bool.true_and, Bool.false_and]
    go_enter Try.func18, Try.ntmps18
    go_wp2_with fail
    refine A.out.mono ?_
    rintro e w1 ⟨rfl, hb1⟩
    go_wp2_with fail
    go_ret
    exact ⟨rfl, (by repeat' first | with_reducible exact Below.refl _ _ | with_reducible assumption | with_reducible refine below_drewN ?_ _ | with_reducible refine balloc ?_ _ | with_reducible refine Below.drew ?_ | with_reducible refine Below.setCell ?_ (by first | (simp; done) | (simp; omega) | omega) _ | with_reducible refine bstep ?_ (by assumption))⟩
  · rw [h1] at A
    cases h2 : boxB n' f' g'
    · rw [h2] at B
      simp only [Bool.and_true, Bool.and_false, Bool.true_and, Bool.false_and]
      go_enter Try.func18, Try.ntmps18
      go_wp2_with fail
      refine A.out.mono ?_
      rintro e w1 ⟨rfl, hb1⟩
      go_wp2_with fail
      refine (B.out _ hb1).mono ?_
      rintro e w2 ⟨rfl, hb2⟩
      go_wp2_with fail
      go_ret
      exact ⟨rfl, (by repeat' first | with_reducible exact Below.refl _ _ | with_reducible assumption | with_reducible refine below_drewN ?_ _ | with_reducible refine balloc ?_ _ | with_reducible refine Below.drew ?_ | with_reducible refine Below.setCell ?_ (by first | (simp; done) | (simp; omega) | omega) _ | with_reducible refine bstep ?_ (by assumption))⟩
    · rw [h2] at B
      simp only [Bool.and_true, Bool.and_false, Bool.true_and, Bool.false_and]
      obtain ⟨v, hv⟩ : ∃ v, decide (n = n') = v := ⟨_, rfl⟩
      have he : ((n : Int) == (n' : Int)) = v := by
        by_cases q : n = n'
        · subst q; rw [← hv]; simp
        · rw [← hv, decide_eq_false q]; simp; omega
      rw [hv]
      clear hv
      go_enter Try.func18, Try.ntmps18
      go_wp2_with fail
      refine A.out.mono ?_
      rintro e w1 ⟨rfl, hb1⟩
      go_wp2_with fail
      refine (B.out _ hb1).mono ?_
      rintro e w2 ⟨rfl, hb2⟩
      cases v
      all_goals
        go_wp2_with fail
        go_ret
        exact ⟨rfl, (by repeat' first | with_reducible exact Below.refl _ _ | with_reducible assumption | with_reducible refine below_drewN ?_ _ | with_reducible refine balloc ?_ _ | with_reducible refine Below.drew ?_ | with_reducible refine Below.setCell ?_ (by first | (simp; done) | (simp; omega) | omega) _ | with_reducible refine bstep ?_ (by assumption))⟩

set_option maxHeartbeats 400000 in
theorem l9Book_any (u v : Value) (is : Bool) (w : World) (hu : ∃ a n c, u = .slice a n c) (hv : ∃ a n c, v = .slice a n c) :
    Calls Try.prog 22 #[u, v, .bool is] w fun e w' => e = .returned (if is then v else u) ∧ w' = w := by
  obtain ⟨a, n, c, rfl⟩ := hu
  obtain ⟨a', n', c', rfl⟩ := hv
  cases is
  all_goals
    simp only [if_true, if_false, Bool.false_eq_true]
    go_enter Try.func22, Try.ntmps22
    go_wp2
    go_ret
    exact ⟨rfl, rfl⟩

set_option maxHeartbeats 400000 in
theorem bookOf_any (e0 e1 e2 e3 e4 e5 u v : Value) (is : Bool) (w : World) (hu : ∃ a n c, u = .slice a n c) (hv : ∃ a n c, v = .slice a n c) :
    Calls Try.prog 29 #[.agg #[e0, e1, e2, e3, e4, e5, .bool is], u, v] w fun e w' => e = .returned (if is then v else u) ∧ Below w.heap.size w w' := by
  obtain ⟨a, n, c, rfl⟩ := hu
  obtain ⟨a', n', c', rfl⟩ := hv
  cases is
  all_goals
    simp only [if_true, if_false, Bool.false_eq_true]
    go_enter Try.func29, Try.ntmps29
    go_wp2
    go_ret
    exact ⟨rfl, (by repeat' first | with_reducible exact Below.refl _ _ | with_reducible assumption | with_reducible refine below_drewN ?_ _ | with_reducible refine balloc ?_ _ | with_reducible refine Below.drew ?_ | with_reducible refine Below.setCell ?_ (by first | (simp; done) | (simp; omega) | omega) _ | with_reducible refine bstep ?_ (by assumption))⟩
/-- A box of seven cells that may be written, whatever lies in it. -/
structure Any7 (w : World) (b : Nat) : Prop where
  lt : b < w.heap.size
  c : ∀ i, i < 7 → ∃ u, w.cell? ⟨b, i, none⟩ = some u
  f : ∀ i, i < 7 → w.frozen? ⟨b, i, none⟩ = false
theorem Any7.below {w w' : World} {b : Nat} (h : Any7 w b) (hb : Below w.heap.size w w') : Any7 w' b :=
  ⟨Nat.lt_of_lt_of_le h.lt hb.size, fun i hi => (h.c i hi).imp fun u hu => (hb.cell (p := ⟨b, i, none⟩) h.lt).trans hu, fun i hi => (hb.frozen (p := ⟨b, i, none⟩) h.lt).trans (h.f i hi)⟩
theorem Any7.new (w : World) (v0 v1 v2 v3 v4 v5 v6 : Value) (T : TypeId) (b : Nat) (hb : w.heap.size = b) : Any7 (w.alloc (.cells #[v0, v1, v2, v3, v4, v5, v6] T)) b := by
  subst hb
  refine ⟨by simp, fun i hi => ?_, fun i hi => ?_⟩
  · rcases (show i = 0 ∨ i = 1 ∨ i = 2 ∨ i = 3 ∨ i = 4 ∨ i = 5 ∨ i = 6 by omega) with rfl | rfl | rfl | rfl | rfl | rfl | rfl <;> exact ⟨_, by simp [go_sem]; rfl⟩
  · rcases (show i = 0 ∨ i = 1 ∨ i = 2 ∨ i = 3 ∨ i = 4 ∨ i = 5 ∨ i = 6 by omega) with rfl | rfl | rfl | rfl | rfl | rfl | rfl <;> simp [go_sem]

end Go.Proofs.Ytkogkgdoebdmgaa
