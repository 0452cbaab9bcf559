/- The contract of sameInts. -/
import Derived.Test.YtobnlchlmhnnlaaZ5
import Derived.Deep.OwnRows
import Derived.Deep.LoopGhost
import Derived.Deep.RegionWith
import Derived.Deep.DeepCutAuto
namespace Go.Proofs.Ytobnlchlmhnnlaa
open Go.RowKit
set_option maxRecDepth 8000









end Go.Proofs.Ytobnlchlmhnnlaa
