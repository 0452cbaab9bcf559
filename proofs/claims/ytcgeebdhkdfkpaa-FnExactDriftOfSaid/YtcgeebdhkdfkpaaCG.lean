/- Cells of the model and of the program: CellOf. -/
import Derived.Test.YtcgeebdhkdfkpaaCF
namespace Go.Proofs.Ytcgeebdhkdfkpaa
open Go.RowKit
set_option maxRecDepth 8000
set_option linter.unusedSimpArgs false
set_option linter.unusedVariables false

def cellT (lo hi t c : Int) : Value := .tuple #[.agg #[.int .i64 (cellLo lo hi t c), .int .i64 (cellHi lo hi t c)], .bool (cellB lo hi t c)]

theorem cellT_no {lo hi t c : Int} (h : cellB lo hi t c = false) : cellT lo hi t c = .tuple #[.agg #[.int .i64 0, .int .i64 0], .bool false] := by
  simp [cellT, cellLo, cellHi, h]

theorem cellT_all {lo hi t : Int} (hr : rightB lo hi = true) (ht : tierB t = true) : cellT lo hi t (-1) = .tuple #[.agg #[.int .i64 (-1048576), .int .i64 1048576], .bool true] := by
  simp [cellT, cellLo, cellHi, cellB, hr, ht]

theorem cellT_in {lo hi t c : Int} (hr : rightB lo hi = true) (ht : tierB t = true) (hc : c ≠ -1) : cellT lo hi t c = .tuple #[if inCell lo hi t c then .agg #[.int .i64 (fromN lo hi (cellsN t) c), .int .i64 (fromN lo hi (cellsN t) (c + 1) - 1)] else .agg #[.int .i64 0, .int .i64 0], .bool (inCell lo hi t c)] := by
  have hb : cellB lo hi t c = inCell lo hi t c := by simp [cellB, inCell, hr, ht, hc]
  cases hi' : inCell lo hi t c
  · rw [cellT_no (hb.trans hi')]; simp
  · simp [cellT, cellLo, cellHi, hb, hi', hc]

end Go.Proofs.Ytcgeebdhkdfkpaa