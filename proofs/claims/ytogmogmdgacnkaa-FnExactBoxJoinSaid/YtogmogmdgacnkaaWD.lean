/- Contracts of ranges, more: join, meet, RangeJoin, RangeMeet (both). -/
import Derived.Test.YtogmogmdgacnkaaWC
namespace Go.Proofs.Ytogmogmdgacnkaa
open Go.RowKit
set_option linter.unusedSimpArgs false

set_option maxHeartbeats 400000 in
theorem join_any (al ah bl bh : Int) (w : World) :
    Calls Try.prog 26 #[.agg #[.int .i64 al, .int .i64 ah], .agg #[.int .i64 bl, .int .i64 bh]] w fun e w' => e = .returned (.agg #[.int .i64 (min al bl), .int .i64 (max ah bh)]) ∧ Below w.heap.size w w' := by
  go_enter Try.func26, Try.ntmps26
  go_wp2
  all_goals exact bodyPost_ret (v := .agg #[.int .i64 (min al bl), .int .i64 (max ah bh)]) (by simp [results, Try.results26, go_sem]; omega) rfl ⟨rfl, (by repeat' first | with_reducible exact Below.refl _ _ | with_reducible assumption | with_reducible refine below_drewN ?_ _ | with_reducible refine balloc ?_ _ | with_reducible refine Below.drew ?_ | with_reducible refine Below.setCell ?_ (by first | (simp; done) | (simp; omega) | omega) _ | with_reducible refine bstep ?_ (by assumption))⟩



end Go.Proofs.Ytogmogmdgacnkaa