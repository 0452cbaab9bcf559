/- The laws' small functions over heaps: szHeap, toHeap, eqHeap. HeapTop of the program and of the model. -/
import Derived.Test.YtkonckgapicdfaaHF
import Derived.Test.YtkonckgapicdfaaHD
namespace Go.Proofs.Ytkonckgapicdfaa
open Go.RowKit
set_option maxRecDepth 8000
set_option linter.unusedSimpArgs false
set_option linter.unusedVariables false



theorem OwnN.away {w : World} {b n : Nat} {f g : Nat → Int} (h : OwnN w b n f g) (p : Addr) (v : Value) (hp : b ≠ p.block) : OwnN (w.setCell p v) b n f g := World.rowIs.of_block h (Below.heap_setCell w p v b hp)

def ToH (w : World) (K : Int) (n : Nat) (f g : Nat → Int) (e : Ending) (w' : World) : Prop :=
  ∃ b, e = .returned (.agg #[.int .i64 K, .slice (some ⟨b, 0, none⟩) n n]) ∧ w.heap.size ≤ b ∧ OwnN w' b n f g ∧ Below w.heap.size w w'





def topB (K : Int) (n : Nat) (f g : Nat → Int) : Bool := heapB K n f g && decide (0 < n)
def topV (K : Int) (n : Nat) (f g : Nat → Int) : Value := .tuple #[.agg #[.int .i64 (if topB K n f g then f 0 else 0), .int .i64 (if topB K n f g then g 0 else 0)], .bool (topB K n f g)]



end Go.Proofs.Ytkonckgapicdfaa