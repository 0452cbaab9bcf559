/- InRadius of the program, by its parts. -/
import Derived.Test.YtboodnbjhgobgaaQE
namespace Go.Proofs.Ytboodnbjhgobgaa
open Go.RowKit
set_option linter.unusedSimpArgs false
set_option linter.unusedVariables false

/-- The answer of whoever tells Nears of its own. -/
def OutN (w : World) (m : Nat) (A : NL) (e : Ending) (w' : World) : Prop :=
  ∃ a cap, e = .returned (.slice a m cap) ∧ Wr w' a m A w.heap.size ∧ Below w.heap.size w w'
theorem NearsR.out {w : World} {m : Nat} {A : NL} {e : Ending} {w' : World} (h : NearsR w m A e w') : OutN w m A e w' := by
  obtain ⟨g, cap, he, hr, hb⟩ := h
  exact ⟨_, cap, he, .inr ⟨g, rfl, hr.base, hr.rowl⟩, hb⟩
theorem outN_nil {w w' : World} {A : NL} {e : Ending} (he : e = .returned (.slice none 0 0)) (hb : Below w.heap.size w w') : OutN w 0 A e w' := ⟨none, 0, he, .inl rfl, hb⟩

set_option maxHeartbeats 400000 in
theorem eachNear_zero (a : Option Addr) (n cap : Nat) (qv fv : Value) (mask : Int) (w : World) (hn : n < 1) :
    Calls Try.prog 27 #[.slice a n cap, qv, .int .i64 mask, fv] w fun e w' => e = .returned (.tuple #[]) ∧ w' = w := by
  go_enter Try.func27, Try.ntmps27
  go_wp2_with fail
  refine wp_loop_rounds 1 ?_
  rw [rounds_succ]
  go_wp2_with fail
  go_end0
  exact ⟨rfl, rfl⟩







end Go.Proofs.Ytboodnbjhgobgaa