/- A number of two bytes. -/
import Derived.Test.YtggjcccdeaadbaaGreatDoorZ12
namespace Go.Proofs.YtggjcccdeaadbaaGreatDoor
open Go.RowKit
set_option maxRecDepth 8000
set_option linter.unusedSimpArgs false
set_option linter.unusedVariables false

set_option maxHeartbeats 2000000 in
theorem below_big (B rb n c : Nat) (a : Option Addr) (m : Int) (w : World) (h : Rd B w rb a n c) (h1 : 256 < m) (h2 : m ≤ 65536) :
    Calls Tryz.prog 21 #[.pointer (some ⟨rb, 0, none⟩), .int .i64 m] w fun e w' => RdPost B w rb a n c .i64 0 (m - 1) e w' := by
  have N := hide (fun w (h : Rd B w rb a n c) => next_any B rb n c a w h)
  have HR := hide h
  clear h
  go_enter Tryz.func21, Tryz.ntmps21
  go_wp2_with fail
  refine (N.out _ HR.out).mono ?_
  rintro e w1 ⟨v, rfl, v0, v1, hr, hb⟩
  go_wp2_with fail
  refine (N.out _ hr).mono ?_
  rintro e w2 ⟨u, rfl, u0, u1, hr2, hb2⟩
  have m0 := Int.emod_nonneg (v * 256 + u) (show m ≠ 0 by omega)
  have m1 := Int.emod_lt_of_pos (v * 256 + u) (show 0 < m by omega)
  go_wp2
  go_ret
  exact ⟨(v * 256 + u) % m, rfl, m0, by omega, hr2, hb.trans hb2⟩

end Go.Proofs.YtggjcccdeaadbaaGreatDoor
