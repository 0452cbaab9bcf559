/- Contracts of the laws' small functions over ranges: toRange, eqRange. -/
import Derived.Test.YtcllnmaemiepfaaWB
namespace Go.Proofs.Ytcllnmaemiepfaa
open Go.RowKit
set_option maxRecDepth 8000
set_option linter.unusedSimpArgs false



set_option maxHeartbeats 400000 in
theorem eqRange_any (al ah bl bh : Int) (w : World) :
    Calls Try.prog 19 #[.agg #[.int .i64 al, .int .i64 ah], .agg #[.int .i64 bl, .int .i64 bh]] w fun e w' => e = .returned (.bool (decide (al = bl) && decide (ah = bh))) ∧ Below w.heap.size w w' := by
  by_cases h1 : al = bl <;> by_cases h2 : ah = bh
  all_goals
    have g1 : (al != bl) = !(decide (al = bl)) := rfl
    have g2 : (ah != bh) = !(decide (ah = bh)) := rfl
    simp only [h1, h2, decide_true, decide_false, Bool.and_true, Bool.and_false, Bool.true_and, Bool.false_and, Bool.not_true, Bool.not_false] at g1 g2 ⊢
    go_enter Try.func19, Try.ntmps19
    go_wp2
    go_ret
    exact ⟨rfl, (by repeat' first | with_reducible exact Below.refl _ _ | with_reducible assumption | with_reducible refine below_drewN ?_ _ | with_reducible refine balloc ?_ _ | with_reducible refine Below.drew ?_ | with_reducible refine Below.setCell ?_ (by first | (simp; done) | (simp; omega) | omega) _ | with_reducible refine bstep ?_ (by assumption))⟩

end Go.Proofs.Ytcllnmaemiepfaa
