/- Marks over items, the rest: markItemS and heldItemS of any slice that the call owns, markItem, heldItem. -/
import Derived.Test.YtboodnbjhgobgaaIJ
namespace Go.Proofs.Ytboodnbjhgobgaa
open Go.RowKit
set_option linter.unusedSimpArgs false
set_option linter.unusedVariables false

set_option maxHeartbeats 400000 in
theorem markItemS_nil (a : Option Addr) (n cap : Nat) (q : Int) (w : World) (hn : n < 1) :
    Calls Try.prog 13 #[.slice a n cap, .int .i64 q] w fun e w' => e = .returned (.int .i64 q) ∧ w' = w := by
  go_enter Try.func13, Try.ntmps13
  go_wp2
  refine wp_loop_rounds 1 ?_
  rw [rounds_succ]
  go_wp2
  go_ret
  exact ⟨rfl, rfl⟩

theorem markItemS_any (B C : Nat) (a : Option Addr) (n cap g : Nat) (q : Int) (L : IL) (V : Nat → Nat) (sv : Nat → Value) (w : World) (h : Its w B C a n L g V sv) (hn : n ≤ 1048576) (hs : sumV L n ≤ 1048576) (hq : 0 ≤ q) (hq2 : q ≤ 10000000) :
    Calls Try.prog 13 #[.slice a n cap, .int .i64 q] w fun e w' => e = .returned (.int .i64 (q + offI L n)) ∧ Its w' B C a n (mkI L q) g V sv ∧ Far B C w w' := by
  rcases h.arr with h0 | ⟨rfl, h1, h2, ha⟩
  · refine (markItemS_nil a n cap q w (by omega)).mono fun e w' ⟨he, hw⟩ => ?_
    subst hw
    subst h0
    exact ⟨by rw [he]; simp [offI, sumV], ⟨.inl rfl, fun i hi => absurd hi (by omega), fun i hi => absurd hi (by omega)⟩, Far.refl _ _ _⟩
  · by_cases h0 : n = 0
    · refine (markItemS_nil _ n cap q w (by omega)).mono fun e w' ⟨he, hw⟩ => ?_
      subst hw
      subst h0
      exact ⟨by rw [he]; simp [offI, sumV], ⟨.inl rfl, fun i hi => absurd hi (by omega), fun i hi => absurd hi (by omega)⟩, Far.refl _ _ _⟩
    · exact markItemS_some B C g n cap q L V sv w h (by omega) hn hs hq hq2









end Go.Proofs.Ytboodnbjhgobgaa