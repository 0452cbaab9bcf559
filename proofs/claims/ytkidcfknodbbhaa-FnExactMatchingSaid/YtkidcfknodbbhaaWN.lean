/- Contracts of the model's small number functions. -/
import Derived.Test.YtkidcfknodbbhaaWA
namespace Go.Proofs.Ytkidcfknodbbhaa
open Go.RowKit
set_option linter.unusedSimpArgs false





end Go.Proofs.Ytkidcfknodbbhaa
