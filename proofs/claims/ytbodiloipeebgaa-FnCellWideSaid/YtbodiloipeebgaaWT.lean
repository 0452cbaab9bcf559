/- Contracts of the laws' small functions over ranges: toRange, eqRange. -/
import Derived.Test.YtbodiloipeebgaaWB
namespace Go.Proofs.Ytbodiloipeebgaa
open Go.RowKit
set_option linter.unusedSimpArgs false





end Go.Proofs.Ytbodiloipeebgaa
