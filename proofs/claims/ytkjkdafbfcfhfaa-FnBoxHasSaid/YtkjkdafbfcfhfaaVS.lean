/- The contract of sameInts. -/
import Derived.Test.YtkjkdafbfcfhfaaVA0
import Derived.Deep.OwnRows
import Derived.Deep.LoopGhost
import Derived.Deep.RegionWith
import Derived.Deep.DeepCutAuto
namespace Go.Proofs.Ytkjkdafbfcfhfaa
open Go.RowKit









end Go.Proofs.Ytkjkdafbfcfhfaa
