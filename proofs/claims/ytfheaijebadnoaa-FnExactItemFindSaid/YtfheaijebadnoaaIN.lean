/- Marks over items, the rest: markItemS and heldItemS of any slice that the call owns, markItem, heldItem. -/
import Derived.Test.YtfheaijebadnoaaIJ
namespace Go.Proofs.Ytfheaijebadnoaa
open Go.RowKit
set_option linter.unusedSimpArgs false
set_option linter.unusedVariables false

set_option maxHeartbeats 400000 in
theorem markItemS_nil (a : Option Addr) (n cap : Nat) (q : Int) (w : World) (hn : n < 1) :
    Calls Try.prog 13 #[.slice a n cap, .int .i64 q] w fun e w' => e = .returned (.int .i64 q) ∧ w' = w := by
  go_enter Try.func13, Try.ntmps13
  go_wp2
  refine wp_loop_rounds 1 ?_
  rw [rounds_succ]
  go_wp2
  go_ret
  exact ⟨rfl, rfl⟩

theorem markItemS_any (B C : Nat) (a : Option Addr) (n cap g : Nat) (q : Int) (L : IL) (V : Nat → Nat) (sv : Nat → Value) (w : World) (h : Its w B C a n L g V sv) (hn : n ≤ 1048576) (hs : sumV L n ≤ 1048576) (hq : 0 ≤ q) (hq2 : q ≤ 10000000) :
    Calls Try.prog 13 #[.slice a n cap, .int .i64 q] w fun e w' => e = .returned (.int .i64 (q + offI L n)) ∧ Its w' B C a n (mkI L q) g V sv ∧ Far B C w w' := by
  rcases h.arr with h0 | ⟨rfl, h1, h2, ha⟩
  · refine (markItemS_nil a n cap q w (by omega)).mono fun e w' ⟨he, hw⟩ => ?_
    subst hw
    subst h0
    exact ⟨by rw [he]; simp [offI, sumV], ⟨.inl rfl, fun i hi => absurd hi (by omega), fun i hi => absurd hi (by omega)⟩, Far.refl _ _ _⟩
  · by_cases h0 : n = 0
    · refine (markItemS_nil _ n cap q w (by omega)).mono fun e w' ⟨he, hw⟩ => ?_
      subst hw
      subst h0
      exact ⟨by rw [he]; simp [offI, sumV], ⟨.inl rfl, fun i hi => absurd hi (by omega), fun i hi => absurd hi (by omega)⟩, Far.refl _ _ _⟩
    · exact markItemS_some B C g n cap q L V sv w h (by omega) hn hs hq hq2







set_option maxHeartbeats 800000 in
theorem markItem_any {B C : Nat} {v : Value} {xs : List Int} {b : Nat} (i t q : Int) (w : World) (h : VSl w B C v xs b) (hn : xs.length ≤ 1048576) (hq : 0 ≤ q) (hq2 : q ≤ 100000000) :
    Calls Try.prog 14 #[.agg #[.int .i64 i, .int .i64 t, v], .int .i64 q] w fun e w' => e = .returned (.int .i64 (q + (xs.length : Int))) ∧ VSl w' B C v (marks q xs.length) b ∧ Far B C w w' := by
  have hb : Below w.heap.size w (w.alloc (.cells #[.int .i64 i, .int .i64 t, v] 31)) := balloc (Below.refl _ _) _
  have M := hide (markV_any q _ (h.below hb) hn hq hq2)
  have HB := hide hb
  obtain ⟨va, vc, rfl, _⟩ := id h
  clear h hb
  go_enter Try.func14, Try.ntmps14
  go_wp2_with fail
  refine M.out.mono ?_
  rintro e w1 ⟨rfl, h1, b1, z1⟩
  have HF : Hid (Far B C w w1) := hide (by
    by_cases h0 : xs.length = 0
    · rw [z1 h0]; exact Far.ofBelow HB.out
    · have := h1.lt (by rw [marks_len]; exact h0)
      exact (Far.ofBelow HB.out).trans (Far.ofBut b1 this.1 this.2.1))
  go_wp2_with fail
  go_ret
  exact ⟨rfl, h1, HF.out⟩

set_option maxHeartbeats 800000 in
theorem heldItem_any {B C : Nat} {v : Value} {n : Nat} {b : Nat} (i t q : Int) (w : World) (h : VSl w B C v (marks q n) b) (hn : n ≤ 1048576) (hq : 0 ≤ q) (hq2 : q ≤ 100000000) :
    Calls Try.prog 15 #[.agg #[.int .i64 i, .int .i64 t, v], .int .i64 q] w fun e w' => e = .returned (.int .i64 (q + (n : Int))) ∧ Below w.heap.size w w' := by
  have hb : Below w.heap.size w (w.alloc (.cells #[.int .i64 i, .int .i64 t, v] 31)) := balloc (Below.refl _ _) _
  have M := hide (heldV_any q _ (h.below hb) hn hq hq2)
  have hno : ¬ (q + (n : Int)) < 0 := by omega
  obtain ⟨va, vc, rfl, _⟩ := id h
  clear h hb
  go_enter Try.func15, Try.ntmps15
  go_wp2_with fail
  refine M.out.mono ?_
  rintro e w1 ⟨rfl, rfl⟩
  go_wp2_with fail
  go_ret
  exact ⟨rfl, (by repeat' first | with_reducible exact Below.refl _ _ | with_reducible assumption | with_reducible refine below_drewN ?_ _ | with_reducible refine balloc ?_ _ | with_reducible refine Below.drew ?_ | with_reducible refine Below.setCell ?_ (by first | (simp; done) | (simp; omega) | omega) _ | with_reducible refine bstep ?_ (by assumption))⟩
end Go.Proofs.Ytfheaijebadnoaa
