/- '==' on ranges. -/
import Derived.Test.YtoiaamcnmpdglaaZ1
import Derived.Laws.StructEq
namespace Go.Proofs.Ytoiaamcnmpdglaa
open Go.RowKit
set_option maxRecDepth 8000
set_option linter.unusedSimpArgs false

theorem eqRg (a b c d : Int) (w : World) : (Op.equalIn 10000 64 (.agg #[.int .i64 a, .int .i64 b]) (.agg #[.int .i64 c, .int .i64 d])).run Try.prog w = .ok (a == c && b == d) w := by
  have u3 := Try.underlying2
  have k3 := Try.isAgg2
  have z3 := Try.sizeOf2
  have hS : Try.prog.underlying 64 = some (.struct (Try.prog.fieldsOf 64)) := by kernel_rfl
  rw [show (10000 : Nat) = 9999 + 1 from rfl, run_equalIn_agg w 9999 64 _ _ hS (by kernel_rfl)]
  simp only [Program.fieldsOf, Try.underlying64]
  go_simp
  by_cases h1 : a = c <;> by_cases h2 : b = d <;> simp [h1, h2]
end Go.Proofs.Ytoiaamcnmpdglaa
