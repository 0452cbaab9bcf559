/- VecText of the program. -/
import Derived.Test.YtfjhgagpmhedfaaDoorSD1
import Derived.Test.YtfjhgagpmhedfaaDoorSC4
import Derived.Test.YtfjhgagpmhedfaaDoorVC
namespace Go.Proofs.YtfjhgagpmhedfaaDoor
open Go.RowKit
set_option maxRecDepth 8000
set_option linter.unusedSimpArgs false
set_option linter.unusedVariables false

theorem Tryd.infoStr : (Tryd.prog.info? 9).map (fun i => (i.zero, i.size, i.bytes)) = some (some (.string ⟨#[]⟩), 1, 16) := by kernel_rfl

theorem words_step {w : World} {g n k : Nat} {f : Nat → ByteArray} (h : w.rowIs g 9 n (fun j => .string (if j < k then f j else ⟨#[]⟩))) :
    (w.setCell ⟨g, k, none⟩ (.string (f k))).rowIs g 9 n (fun j => .string (if j < k + 1 then f j else ⟨#[]⟩)) := by
  refine (World.rowIs.set h k _).congr fun j hj => ?_
  by_cases e : j = k
  · subst e; simp
  · by_cases l : j < k
    · rw [if_neg e, if_pos l, if_pos (by omega)]
    · rw [if_neg e, if_neg l, if_neg (by omega)]

end Go.Proofs.YtfjhgagpmhedfaaDoor