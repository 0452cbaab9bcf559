/- byteOf of the laws: a byte of a code, 0 where there is none. -/
import Derived.Test.YtnblahppkfbhdaaLG0
namespace Go.Proofs.Ytnblahppkfbhdaa
open Go.RowKit
set_option linter.unusedSimpArgs false
set_option linter.unusedVariables false

set_option maxHeartbeats 1000000 in
theorem byteOf_any (a : Option Addr) (n cap i : Nat) (w : World) (h : Code w a n) (hi : i ≤ 1048576) :
    Calls Try.prog 43 #[.slice a n cap, .int .i64 i] w fun e w' => (∃ z : Int, (0 ≤ z ∧ z ≤ 255) ∧ e = .returned (.int .i64 z)) ∧ w' = w := by
  have hn := h.small
  by_cases h0 : n = 0
  · subst h0
    go_enter Try.func43, Try.ntmps43
    go_wp2
    go_ret
    exact ⟨⟨0, by omega, rfl⟩, rfl⟩
  · rcases h.lies with hc | ⟨b, off, rfl, hb, hc⟩
    · exact absurd hc h0
    · have hm := Nat.mod_lt i (show 0 < n by omega)
      obtain ⟨z, z0, z1, hz⟩ := hc (i % n) hm
      have e1 : (i : Int) % (n : Int) = ((i % n : Nat) : Int) := rfl
      have hne : ((n : Int) == 0) = false := by simp; omega
      obtain ⟨j, hj⟩ : ∃ j, i % n = j := ⟨_, rfl⟩
      rw [hj] at e1 hz hm
      have hjn : (j : Int) < (n : Int) := by omega
      clear hc h
      go_enter Try.func43, Try.ntmps43
      go_wp2
      go_ret
      exact ⟨⟨z, ⟨z0, z1⟩, by simp⟩, rfl⟩
end Go.Proofs.Ytnblahppkfbhdaa
