/-
  No cell of these rows narrows 'for every input' (looked for: loops, veiled, ifaces, maps, wideKeys, modest, calm, conditions, laid).
  DERIVED. THE GIVEN ROWS OF THIS SEAT. 5 by the template 'for every input the law returns true; each argument reads behind the call as it read before'; 0 by the template 'total and deterministic' (their statements: YtnblahppkfbhdaaTotals.lean).
  GIVEN WITH THE SEED: the statements are not yours to turn. If you find one false, say at which input.
  Laid BY PROGRAM, IN A SANDBOX (cutbox-rows.mjs): the forced cells as the released guide's own fill.sh prints them over the translation c08b13848c3a09ed… (all of the seat's roots in one cut). By AI agents, Wed Nov 11 2026. No macro, syntax, notation, axiom, sorry.
-/
import Derived.Test.YtnblahppkfbhdaaChecked
import GoSem.Claim
import GoSem.ClaimJoined
import GoSem.ClaimMapViews
import Derived.JoinedTies
import Derived.KernelRfl
namespace Go.Proofs.Ytnblahppkfbhdaa
/- THE CELL 'sum', in the pinned program and in every row, IS THE sha256 OF THE DUMP (.gsa) THAT YtnblahppkfbhdaaProg.lean LOADS. Nothing in Lean hashes anything: it is a label: what it is worth is what the hold of that sum in a sandbox is worth. -/
noncomputable def Try.pinned : Pinned := { name := "ytnblahppkfbhdaa", sum := "c08b13848c3a09edb997d965aa0337f386fca17495e8751db86266cf1dbb7d7f", checked := Try.checked }
namespace Rows
def none {H : Type} : Left H := { results := [], args := [] }

/-- 'laws.FnBounds': WHATEVER THE INPUT: true; the input reads as it did. -/
def fnBoundsSpec : ChangeSpec := { name := "fnBounds", fn := fun _ => fun
  | [d] => { results := [.lit (.bool true)], args := [d] }
  | _ => none }
def fnBoundsRow : OpenClaim := { program := "ytnblahppkfbhdaa", sum := "c08b13848c3a09edb997d965aa0337f386fca17495e8751db86266cf1dbb7d7f", func := "loop.example/g00707/laws.FnBounds", spec := "fnBounds", unfollowed := true, recurses := true, apart := false }
def FnBoundsSaid : Prop := fnBoundsRow.holds Try.pinned (OpenSpec.ofChange fnBoundsSpec)

/-- ITS FALSE NEIGHBOUR: 'it returns false'. Refute it at one input. -/
def fnBoundsWrong : ChangeSpec := { name := "fnBounds", fn := fun _ => fun
  | [d] => { results := [.lit (.bool false)], args := [d] }
  | _ => none }
def FnBoundsWrongFalsely : Prop := fnBoundsRow.holds Try.pinned (OpenSpec.ofChange fnBoundsWrong)

/-- 'laws.FnBoundsTight': WHATEVER THE INPUT: true; the input reads as it did. -/
def fnBoundsTightSpec : ChangeSpec := { name := "fnBoundsTight", fn := fun _ => fun
  | [d] => { results := [.lit (.bool true)], args := [d] }
  | _ => none }
def fnBoundsTightRow : OpenClaim := { program := "ytnblahppkfbhdaa", sum := "c08b13848c3a09edb997d965aa0337f386fca17495e8751db86266cf1dbb7d7f", func := "loop.example/g00707/laws.FnBoundsTight", spec := "fnBoundsTight", unfollowed := true, recurses := true, apart := false }
def FnBoundsTightSaid : Prop := fnBoundsTightRow.holds Try.pinned (OpenSpec.ofChange fnBoundsTightSpec)

/-- ITS FALSE NEIGHBOUR: 'it returns false'. Refute it at one input. -/
def fnBoundsTightWrong : ChangeSpec := { name := "fnBoundsTight", fn := fun _ => fun
  | [d] => { results := [.lit (.bool false)], args := [d] }
  | _ => none }
def FnBoundsTightWrongFalsely : Prop := fnBoundsTightRow.holds Try.pinned (OpenSpec.ofChange fnBoundsTightWrong)

/-- 'laws.FnBoundsMore': WHATEVER THE INPUT: true; the input reads as it did. -/
def fnBoundsMoreSpec : ChangeSpec := { name := "fnBoundsMore", fn := fun _ => fun
  | [d] => { results := [.lit (.bool true)], args := [d] }
  | _ => none }
def fnBoundsMoreRow : OpenClaim := { program := "ytnblahppkfbhdaa", sum := "c08b13848c3a09edb997d965aa0337f386fca17495e8751db86266cf1dbb7d7f", func := "loop.example/g00707/laws.FnBoundsMore", spec := "fnBoundsMore", unfollowed := true, recurses := true, apart := false }
def FnBoundsMoreSaid : Prop := fnBoundsMoreRow.holds Try.pinned (OpenSpec.ofChange fnBoundsMoreSpec)

/-- ITS FALSE NEIGHBOUR: 'it returns false'. Refute it at one input. -/
def fnBoundsMoreWrong : ChangeSpec := { name := "fnBoundsMore", fn := fun _ => fun
  | [d] => { results := [.lit (.bool false)], args := [d] }
  | _ => none }
def FnBoundsMoreWrongFalsely : Prop := fnBoundsMoreRow.holds Try.pinned (OpenSpec.ofChange fnBoundsMoreWrong)

/-- 'laws.FnPoint': WHATEVER THE INPUT: true; the input reads as it did. -/
def fnPointSpec : ChangeSpec := { name := "fnPoint", fn := fun _ => fun
  | [d] => { results := [.lit (.bool true)], args := [d] }
  | _ => none }
def fnPointRow : OpenClaim := { program := "ytnblahppkfbhdaa", sum := "c08b13848c3a09edb997d965aa0337f386fca17495e8751db86266cf1dbb7d7f", func := "loop.example/g00707/laws.FnPoint", spec := "fnPoint", unfollowed := true, recurses := true, apart := false }
def FnPointSaid : Prop := fnPointRow.holds Try.pinned (OpenSpec.ofChange fnPointSpec)

/-- ITS FALSE NEIGHBOUR: 'it returns false'. Refute it at one input. -/
def fnPointWrong : ChangeSpec := { name := "fnPoint", fn := fun _ => fun
  | [d] => { results := [.lit (.bool false)], args := [d] }
  | _ => none }
def FnPointWrongFalsely : Prop := fnPointRow.holds Try.pinned (OpenSpec.ofChange fnPointWrong)

/-- 'laws.FnBoxHas': WHATEVER THE INPUT: true; the input reads as it did. -/
def fnBoxHasSpec : ChangeSpec := { name := "fnBoxHas", fn := fun _ => fun
  | [d] => { results := [.lit (.bool true)], args := [d] }
  | _ => none }
def fnBoxHasRow : OpenClaim := { program := "ytnblahppkfbhdaa", sum := "c08b13848c3a09edb997d965aa0337f386fca17495e8751db86266cf1dbb7d7f", func := "loop.example/g00707/laws.FnBoxHas", spec := "fnBoxHas", unfollowed := true, recurses := true, apart := false }
def FnBoxHasSaid : Prop := fnBoxHasRow.holds Try.pinned (OpenSpec.ofChange fnBoxHasSpec)

/-- ITS FALSE NEIGHBOUR: 'it returns false'. Refute it at one input. -/
def fnBoxHasWrong : ChangeSpec := { name := "fnBoxHas", fn := fun _ => fun
  | [d] => { results := [.lit (.bool false)], args := [d] }
  | _ => none }
def FnBoxHasWrongFalsely : Prop := fnBoxHasRow.holds Try.pinned (OpenSpec.ofChange fnBoxHasWrong)

/- THE SECOND FORM. 'bulk': how many values and letters a reading holds, each counted each time it is reached (what is shared counts as often as it is met; a slice's spare places count too). A statement '..UptoSaid' is the law's where the arguments, and the package variables that the reading takes, are together of bulk at most 1048576: NARROWER than '..Said'. Prove '..Said' where nothing that the law and all that it calls make is longer than what came in: it says more and counts as full. Else prove '..UptoSaid'. A law counts once. -/
mutual
def uptoBulk {H : Type} : DataW H → Nat
  | .lit (.string bytes) => bytes.length + 1
  | .lit _ => 1
  | .nil => 1
  | .ptr d => uptoBulk d + 1
  | .slice elems spare => uptoBulkAll elems + uptoBulkAll spare + 1
  | .agg parts => uptoBulkAll parts + 1
  | .iface _ d => uptoBulk d + 1
  | .map entries => uptoBulkEntries entries + 1
  | .held _ => 1
def uptoBulkAll {H : Type} : List (DataW H) → Nat
  | [] => 0
  | d :: r => uptoBulk d + uptoBulkAll r
def uptoBulkEntries {H : Type} : List (Lit × DataW H) → Nat
  | [] => 0
  | x :: r => uptoBulkEntry x + uptoBulkEntries r
def uptoBulkEntry {H : Type} : Lit × DataW H → Nat
  | (.string bytes, d) => bytes.length + uptoBulk d + 1
  | (_, d) => uptoBulk d + 1
 end
def uptoSmall : (H : Type) → List (DataW H) → Bool := fun _ ds => decide (uptoBulkAll ds ≤ 1048576)
def OpenSpec.upto (s : _root_.Go.ChangeSpec) : _root_.Go.OpenSpec := { _root_.Go.OpenSpec.ofChange s with cond := some uptoSmall }

/-- 'laws.FnBounds', WHERE WHAT IT READS IS OF BULK AT MOST 1048576: true; the input reads as it did. -/
def fnBoundsUptoRow : OpenClaim := { program := "ytnblahppkfbhdaa", sum := "c08b13848c3a09edb997d965aa0337f386fca17495e8751db86266cf1dbb7d7f", func := "loop.example/g00707/laws.FnBounds", spec := "fnBounds", unfollowed := true, recurses := true, apart := false, narrowed := true }
def FnBoundsUptoSaid : Prop := fnBoundsUptoRow.holds Try.pinned (OpenSpec.upto fnBoundsSpec)

/-- 'laws.FnBoundsTight', WHERE WHAT IT READS IS OF BULK AT MOST 1048576: true; the input reads as it did. -/
def fnBoundsTightUptoRow : OpenClaim := { program := "ytnblahppkfbhdaa", sum := "c08b13848c3a09edb997d965aa0337f386fca17495e8751db86266cf1dbb7d7f", func := "loop.example/g00707/laws.FnBoundsTight", spec := "fnBoundsTight", unfollowed := true, recurses := true, apart := false, narrowed := true }
def FnBoundsTightUptoSaid : Prop := fnBoundsTightUptoRow.holds Try.pinned (OpenSpec.upto fnBoundsTightSpec)

/-- 'laws.FnBoundsMore', WHERE WHAT IT READS IS OF BULK AT MOST 1048576: true; the input reads as it did. -/
def fnBoundsMoreUptoRow : OpenClaim := { program := "ytnblahppkfbhdaa", sum := "c08b13848c3a09edb997d965aa0337f386fca17495e8751db86266cf1dbb7d7f", func := "loop.example/g00707/laws.FnBoundsMore", spec := "fnBoundsMore", unfollowed := true, recurses := true, apart := false, narrowed := true }
def FnBoundsMoreUptoSaid : Prop := fnBoundsMoreUptoRow.holds Try.pinned (OpenSpec.upto fnBoundsMoreSpec)

/-- 'laws.FnPoint', WHERE WHAT IT READS IS OF BULK AT MOST 1048576: true; the input reads as it did. -/
def fnPointUptoRow : OpenClaim := { program := "ytnblahppkfbhdaa", sum := "c08b13848c3a09edb997d965aa0337f386fca17495e8751db86266cf1dbb7d7f", func := "loop.example/g00707/laws.FnPoint", spec := "fnPoint", unfollowed := true, recurses := true, apart := false, narrowed := true }
def FnPointUptoSaid : Prop := fnPointUptoRow.holds Try.pinned (OpenSpec.upto fnPointSpec)

/-- 'laws.FnBoxHas', WHERE WHAT IT READS IS OF BULK AT MOST 1048576: true; the input reads as it did. -/
def fnBoxHasUptoRow : OpenClaim := { program := "ytnblahppkfbhdaa", sum := "c08b13848c3a09edb997d965aa0337f386fca17495e8751db86266cf1dbb7d7f", func := "loop.example/g00707/laws.FnBoxHas", spec := "fnBoxHas", unfollowed := true, recurses := true, apart := false, narrowed := true }
def FnBoxHasUptoSaid : Prop := fnBoxHasUptoRow.holds Try.pinned (OpenSpec.upto fnBoxHasSpec)

end Rows
end Go.Proofs.Ytnblahppkfbhdaa
