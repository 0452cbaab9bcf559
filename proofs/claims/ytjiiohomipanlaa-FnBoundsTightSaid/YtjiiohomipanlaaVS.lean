/- The contract of sameInts. -/
import Derived.Test.YtjiiohomipanlaaVA0
import Derived.Deep.OwnRows
import Derived.Deep.LoopGhost
import Derived.Deep.RegionWith
import Derived.Deep.DeepCutAuto
namespace Go.Proofs.Ytjiiohomipanlaa
open Go.RowKit









end Go.Proofs.Ytjiiohomipanlaa
