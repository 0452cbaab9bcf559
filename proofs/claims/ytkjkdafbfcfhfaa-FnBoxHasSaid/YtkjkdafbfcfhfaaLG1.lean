/- byteOf of the laws: a byte of a code, 0 where there is none. -/
import Derived.Test.YtkjkdafbfcfhfaaLG0
namespace Go.Proofs.Ytkjkdafbfcfhfaa
open Go.RowKit
set_option linter.unusedSimpArgs false
set_option linter.unusedVariables false

end Go.Proofs.Ytkjkdafbfcfhfaa