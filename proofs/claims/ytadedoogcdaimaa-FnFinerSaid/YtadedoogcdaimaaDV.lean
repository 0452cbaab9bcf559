/- Drawn tiers, cells and numbers: tier, DrawCodeOf. -/
import Derived.Test.YtadedoogcdaimaaDU
namespace Go.Proofs.Ytadedoogcdaimaa
open Go.RowKit
set_option linter.unusedSimpArgs false
set_option linter.unusedVariables false

set_option maxHeartbeats 1000000 in
theorem tier_any (B rb n c : Nat) (a : Option Addr) (w : World) (h : Rd B w rb a n c) :
    Calls Try.prog 11 #[.pointer (some ⟨rb, 0, none⟩)] w fun e w' => RdPostA B w rb a n c e w' := by
  have O := hide (once_any B rb n c a 24 w h (by omega) (by omega))
  have OF := hide (fun w (h : Rd B w rb a n c) => off_any B rb n c a 1 3 w h (by omega) (by omega) (by omega) (by omega))
  have BL := hide (fun w (h : Rd B w rb a n c) => below_any B rb n c a 3 w h (by omega) (by omega))
  clear h
  go_enter Try.func11, Try.ntmps11
  go_wp2_with fail
  refine O.out.mono ?_
  rintro e w1 ⟨v, rfl, hr1, hb1⟩
  cases v
  · go_wp2_with fail
    refine (BL.out _ hr1).mono ?_
    rintro e w2 ⟨x, rfl, x0, x1, hr2, hb2⟩
    go_wp2_with fail
    go_ret
    exact ⟨_, rfl, hr2, hb1.trans hb2⟩
  · go_wp2_with fail
    refine (OF.out _ hr1).mono ?_
    rintro e w2 ⟨x, rfl, hr2, hb2⟩
    go_wp2_with fail
    go_ret
    exact ⟨x, rfl, hr2, hb1.trans hb2⟩

def CoPost (w : World) (e : Ending) (w' : World) : Prop :=
  ∃ lo hi t x : Int, e = .returned (.tuple #[.agg #[.int .i64 lo, .int .i64 hi], .int .i64 t, .int .i64 x]) ∧ Below w.heap.size w w'

end Go.Proofs.Ytadedoogcdaimaa