/- Slices of int64 in memory: what a slice leads to ('Row'); contracts of the small functions of the laws over them: toInt64S, eqInt64S, markInt64S, heldInt64S. -/
import Derived.Test.YtcbmfannbaaokaaVA0
import Derived.Deep.OwnRows
import Derived.Deep.LoopGhost
import Derived.Deep.RegionWith
import Derived.Deep.DeepCutAuto
namespace Go.Proofs.Ytcbmfannbaaokaa
open Go.RowKit























end Go.Proofs.Ytcbmfannbaaokaa
