/- The contract of sameInts. -/
import Derived.Test.YtnblahppkfbhdaaVA0
import Derived.Deep.OwnRows
import Derived.Deep.LoopGhost
import Derived.Deep.RegionWith
import Derived.Deep.DeepCutAuto
namespace Go.Proofs.Ytnblahppkfbhdaa
open Go.RowKit









end Go.Proofs.Ytnblahppkfbhdaa
