/- The reader of drawn bytes: below of whatever number, size. -/
import Derived.Test.YtecheolhmohhjaaDoorDB
namespace Go.Proofs.YtecheolhmohhjaaDoor
open Go.RowKit
set_option maxRecDepth 8000
set_option linter.unusedSimpArgs false
set_option linter.unusedVariables false

set_option maxHeartbeats 1000000 in
set_option maxRecDepth 8000 in
theorem below_one (rb : Nat) (m : Int) (w : World) (h1 : m ≤ 1) :
    Calls Tryd.prog 15 #[.pointer (some ⟨rb, 0, none⟩), .int .i64 m] w fun e w' => e = .returned (.int .i64 0) ∧ w' = w := by
  go_enter Tryd.func15, Tryd.ntmps15
  go_wp2
  go_ret
  exact ⟨rfl, rfl⟩
/-- below, of any number that is no more than 256: one that is less, or 0. -/
theorem below_all (B rb n c : Nat) (a : Option Addr) (m : Int) (w : World) (h : Rd B w rb a n c) (h2 : m ≤ 256) :
    Calls Tryd.prog 15 #[.pointer (some ⟨rb, 0, none⟩), .int .i64 m] w fun e w' => RdPost B w rb a n c .i64 0 (max 0 (m - 1)) e w' := by
  by_cases h1 : 1 < m
  · exact (below_any B rb n c a m w h h1 h2).mono fun e w' ⟨v, he, v0, v1, hr, hb⟩ => ⟨v, he, v0, by omega, hr, hb⟩
  · refine (below_one rb m w (by omega)).mono fun e w' ⟨he, hw⟩ => ?_
    subst hw
    exact ⟨0, he, by omega, by omega, h, But.refl _ _⟩

end Go.Proofs.YtecheolhmohhjaaDoor