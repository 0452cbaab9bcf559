/- The reader of drawn bytes: comp, near, off. -/
import Derived.Test.YtfjhgagpmhedfaaDoorDB
namespace Go.Proofs.YtfjhgagpmhedfaaDoor
open Go.RowKit
set_option maxRecDepth 8000
set_option linter.unusedSimpArgs false

theorem Rd.alloc {B : Nat} {w : World} {rb : Nat} {a : Option Addr} {n c : Nat} (h : Rd B w rb a n c) (o : Obj) : Rd B (w.alloc o) rb a n c := h.stays (balloc (Below.refl _ _) o)

end Go.Proofs.YtfjhgagpmhedfaaDoor