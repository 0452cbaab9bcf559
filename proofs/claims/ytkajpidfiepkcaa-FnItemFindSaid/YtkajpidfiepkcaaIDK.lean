/- Whether an id is right. -/
import Derived.Test.YtkajpidfiepkcaaWN
namespace Go.Proofs.Ytkajpidfiepkcaa
open Go.RowKit
set_option linter.unusedSimpArgs false



set_option maxHeartbeats 400000 in
theorem l6Id_any (n : Int) (w : World) :
    Calls Try.prog 40 #[.int .i64 n] w fun e w' => e = .returned (.bool (inB n 1 9999)) ∧ w' = w := by
  go_enter Try.func40, Try.ntmps40
  go_wp2_with (go_at_call 41; refine (l1In_any _ _ _ _).mono ?_; rintro e w' ⟨rfl, rfl⟩)
  go_ret
  exact ⟨rfl, rfl⟩
end Go.Proofs.Ytkajpidfiepkcaa
