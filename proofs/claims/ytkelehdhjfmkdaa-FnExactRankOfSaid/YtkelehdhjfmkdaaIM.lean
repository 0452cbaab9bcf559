/- ItemFind of the model and of the program. -/
import Derived.Test.YtkelehdhjfmkdaaIK
namespace Go.Proofs.Ytkelehdhjfmkdaa
open Go.RowKit
set_option linter.unusedSimpArgs false
set_option linter.unusedVariables false

/-- The first one of that id, and whether there is one. -/
def findX (n : Nat) (L : IL) (id : Int) : It × Bool :=
  match (List.range n).find? fun i => decide ((L i).id = id) with
  | some i => (L i, true)
  | none => (⟨0, 0, []⟩, false)
theorem findX_hit {n k : Nat} {L : IL} {id : Int} (hk : k < n) (h : (L k).id = id) (hp : ∀ j, j < k → (L j).id ≠ id) : findX n L id = (L k, true) := by
  have e : (List.range n).find? (fun i => decide ((L i).id = id)) = some k := by
    rw [List.find?_range_eq_some]
    exact ⟨by simpa using h, by simpa using hk, fun j hj => by simpa using hp j hj⟩
  unfold findX
  rw [e]
theorem findX_miss {n : Nat} {L : IL} {id : Int} (hp : ∀ j, j < n → (L j).id ≠ id) : findX n L id = (⟨0, 0, []⟩, false) := by
  have e : (List.range n).find? (fun i => decide ((L i).id = id)) = none := by
    rw [List.find?_eq_none]
    intro j hj
    simpa using hp j (by simpa using hj)
  unfold findX
  rw [e]
theorem findX_len {n : Nat} {L : IL} {id : Int} {m : Nat} (h : ∀ i, i < n → (L i).vec.length ≤ m) : (findX n L id).1.vec.length ≤ m := by
  unfold findX
  split
  · rename_i i e
    have := List.mem_of_find?_eq_some e
    exact h i (by simpa using this)
  · simp

/-- The answer of ItemFind. -/
def FindR (w : World) (x : It) (ok : Bool) (e : Ending) (w' : World) : Prop :=
  ∃ v g, e = .returned (.tuple #[.agg #[.int .i64 x.id, .int .i64 x.tags, v], .bool ok]) ∧ VSl w' w.heap.size w'.heap.size v x.vec g ∧ Below w.heap.size w w'

theorem findR_no {w w' : World} {e : Ending} (he : e = .returned (.tuple #[.agg #[.int .i64 0, .int .i64 0, .slice none 0 0], .bool false])) (hb : Below w.heap.size w w') : FindR w ⟨0, 0, []⟩ false e w' :=
  ⟨.slice none 0 0, 0, he, ⟨_, _, rfl, .inl rfl⟩, hb⟩













end Go.Proofs.Ytkelehdhjfmkdaa
