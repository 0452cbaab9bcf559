/- VecAdd of the model: a list made by append, in a statement that draws its order. -/
import Derived.Test.YtpbehhanccodeaaVI
import Derived.Deep.AppendLies
import Derived.Deep.RegionLaw
namespace Go.Proofs.Ytpbehhanccodeaa
open Go.RowKit
set_option maxRecDepth 8000
set_option linter.unusedSimpArgs false

/-- The first k sums. -/
def sumF (xs ys : List Int) : Nat → Int := fun j => nth xs j + nth ys j

def AddPost (w : World) (n : Nat) (f : Nat → Int) (ok : Bool) (e : Ending) (w' : World) : Prop :=
  ∃ a2 c2, e = .returned (.tuple #[if ok then .slice a2 n c2 else .slice none 0 0, .bool ok]) ∧ Row w' a2 n (ints f n) ∧ Below w.heap.size w w'

theorem below_app' {w wr w2 : World} {o : Obj} {v : Value} {k : Nat} {e : TypeId} {size : Nat} {xs : List Value} (hb : Below w.heap.size w wr) (ho : wr.ownsRow w.heap.size e size v k xs) (hg : (wr.alloc o).drew.grownBy w2 v.ownBlock) : Below w.heap.size w w2 :=
  (balloc hb o).drew.grown hg (by have := hb.size; simp; omega) fun k' hk' => (ho.lt k' hk').1

theorem owns_drew {w : World} {base : Nat} {e : TypeId} {size : Nat} {v : Value} {n : Nat} {xs : List Value} (h : w.ownsRow base e size v n xs) : w.drew.ownsRow base e size v n xs := h



def addOkB (xs ys : List Int) : Bool := vecOkB xs && vecOkB ys && decide (xs.length = ys.length) && vecOkB (ints (sumF xs ys) xs.length)
/-- The sums; none where one is no vector, they are not equally long, or that is none. -/
def addL (xs ys : List Int) : List Int := if addOkB xs ys then ints (sumF xs ys) xs.length else []



end Go.Proofs.Ytpbehhanccodeaa