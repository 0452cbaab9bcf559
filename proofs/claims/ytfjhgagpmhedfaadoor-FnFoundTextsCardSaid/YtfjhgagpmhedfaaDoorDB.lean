/- The reader of drawn bytes: below, once, word. -/
import Derived.Test.YtfjhgagpmhedfaaDoorDA
import Derived.OpenShut
namespace Go.Proofs.YtfjhgagpmhedfaaDoor
open Go.RowKit
set_option maxRecDepth 8000
set_option linter.unusedSimpArgs false

set_option maxHeartbeats 1000000 in
theorem below_any (B rb n c : Nat) (a : Option Addr) (m : Int) (w : World) (h : Rd B w rb a n c) (h1 : 1 < m) (h2 : m ≤ 256) :
    Calls Tryd.prog 26 #[.pointer (some ⟨rb, 0, none⟩), .int .i64 m] w fun e w' => RdPost B w rb a n c .i64 0 (m - 1) e w' := by
  have N := hide (next_any B rb n c a w h)
  clear h
  go_enter Tryd.func26, Tryd.ntmps26
  go_wp2_with fail
  refine N.out.mono ?_
  rintro e w1 ⟨v, rfl, v0, v1, hr, hb⟩
  have m0 := Int.emod_nonneg v (show m ≠ 0 by omega)
  have m1 := Int.emod_lt_of_pos v (show 0 < m by omega)
  go_wp2
  go_ret
  exact ⟨v % m, rfl, m0, by omega, hr, hb⟩

def RdPostB (B : Nat) (w : World) (rb : Nat) (a : Option Addr) (n c : Nat) (e : Ending) (w' : World) : Prop :=
  ∃ v : Bool, e = .returned (.bool v) ∧ Rd B w' rb a n c ∧ But rb w w'

set_option maxHeartbeats 1000000 in
theorem once_any (B rb n c : Nat) (a : Option Addr) (m : Int) (w : World) (h : Rd B w rb a n c) (h1 : 1 < m) (h2 : m ≤ 256) :
    Calls Tryd.prog 25 #[.pointer (some ⟨rb, 0, none⟩), .int .i64 m] w fun e w' => RdPostB B w rb a n c e w' := by
  have N := hide (below_any B rb n c a m w h h1 h2)
  clear h
  go_enter Tryd.func25, Tryd.ntmps25
  go_wp2_with fail
  refine N.out.mono ?_
  rintro e w1 ⟨v, rfl, v0, v1, hr, hb⟩
  go_wp2
  go_ret
  exact ⟨_, rfl, hr, hb⟩

set_option maxHeartbeats 1000000 in
theorem word_any (B rb n c : Nat) (a : Option Addr) (w : World) (h : Rd B w rb a n c) :
    Calls Tryd.prog 49 #[.pointer (some ⟨rb, 0, none⟩)] w fun e w' => RdPost B w rb a n c .u64 0 18446744073709551615 e w' := by
  go_enter Tryd.func49, Tryd.ntmps49
  go_wp2_with fail
  go_loopw [3, 4] (fun s i wr => ∃ (k : Nat) (x : Int), k ≤ 8 ∧ i = .int .i64 k ∧ s = .int .u64 x ∧ (Lit.int .u64 x).wf = true ∧ Rd B wr rb a n c ∧ But rb w wr) (fun _ i _ => 8 - (intOf i).toNat)
  case atStart => exact ⟨0, 0, Nat.zero_le _, rfl, rfl, by decide, h, But.refl _ _⟩
  case round =>
    obtain ⟨k, x, hk, rfl, rfl, hx, hr, hb⟩ := hrel
    by_cases hlt : k < 8
    · have N := hide (next_any B rb n c a wr hr)
      have HX := hide hx
      have HBB := hide hb
      clear hr hb hx
      go_wp2_with fail
      refine N.out.mono ?_
      rintro e w1 ⟨v, rfl, v0, v1, hr1, hb1⟩
      go_wp2_with fail
      exact ⟨⟨k + 1, _, by omega, by go_num, rfl, wf_bits _ _ _ _, hr1, HBB.out.trans hb1⟩, by simp [intOf]; omega⟩
    · go_wp2
      go_ret
      have := bounds_u64 hx
      exact ⟨x, rfl, by omega, by omega, hr, hb⟩
end Go.Proofs.YtfjhgagpmhedfaaDoor
