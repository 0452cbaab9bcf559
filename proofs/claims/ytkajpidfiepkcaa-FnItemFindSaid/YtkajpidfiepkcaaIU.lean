/- placeOf of the program: sort.Search over items that rise. -/
import Derived.Test.YtkajpidfiepkcaaIC
import Derived.BigQuiet
import Derived.Deep.QuietTactic
namespace Go.Proofs.Ytkajpidfiepkcaa
open Go.RowKit
set_option linter.unusedSimpArgs false
set_option linter.unusedVariables false



/-- Where the item of an id is, or would be. -/
structure IsPlace (n : Nat) (L : IL) (id : Int) (p : Nat) : Prop where
  le : p ≤ n
  lo : ∀ i, i < p → (L i).id < id
  hi : ∀ i, p ≤ i → i < n → id ≤ (L i).id



/-- The answer of placeOf. -/
def PlaceR (w : World) (n : Nat) (L : IL) (id : Int) (e : Ending) (w' : World) : Prop :=
  ∃ p : Nat, e = .returned (.tuple #[.int .i64 p, .bool (decide (p < n ∧ (L p).id = id))]) ∧ IsPlace n L id p ∧ Below w.heap.size w w'







end Go.Proofs.Ytkajpidfiepkcaa