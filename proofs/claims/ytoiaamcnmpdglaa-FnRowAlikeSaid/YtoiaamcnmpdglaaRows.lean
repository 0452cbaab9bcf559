/-
  No cell of these rows narrows 'for every input' (looked for: loops, veiled, ifaces, maps, wideKeys, modest, calm, conditions, laid).
  DERIVED. THE GIVEN ROWS OF THIS SEAT. 3 by the template 'for every input the law returns true; each argument reads behind the call as it read before'; 0 by the template 'total and deterministic' (their statements: YtoiaamcnmpdglaaTotals.lean).
  GIVEN WITH THE SEED: the statements are not yours to turn. If you find one false, say at which input.
  Laid BY PROGRAM, IN A SANDBOX (cutbox-rows.mjs): the forced cells as the released guide's own fill.sh prints them over the translation 691f7e69961f685a… (all of the seat's roots in one cut). By AI agents, Wed Nov 11 2026. No macro, syntax, notation, axiom, sorry.
-/
import Derived.Test.YtoiaamcnmpdglaaChecked
import GoSem.Claim
import GoSem.ClaimJoined
import GoSem.ClaimMapViews
import Derived.JoinedTies
import Derived.KernelRfl
namespace Go.Proofs.Ytoiaamcnmpdglaa
/- THE CELL 'sum', in the pinned program and in every row, IS THE sha256 OF THE DUMP (.gsa) THAT YtoiaamcnmpdglaaProg.lean LOADS. Nothing in Lean hashes anything: it is a label: what it is worth is what the hold of that sum in a sandbox is worth. -/
noncomputable def Try.pinned : Pinned := { name := "ytoiaamcnmpdglaa", sum := "691f7e69961f685ae6019ca19c5a78a27e1a3422977c3f896d0b60be36f5fb0f", checked := Try.checked }
namespace Rows
def none {H : Type} : Left H := { results := [], args := [] }

/-- 'laws.FnRow': WHATEVER THE INPUT: true; the input reads as it did. -/
def fnRowSpec : ChangeSpec := { name := "fnRow", fn := fun _ => fun
  | [d] => { results := [.lit (.bool true)], args := [d] }
  | _ => none }
def fnRowRow : OpenClaim := { program := "ytoiaamcnmpdglaa", sum := "691f7e69961f685ae6019ca19c5a78a27e1a3422977c3f896d0b60be36f5fb0f", func := "loop.example/g00707/laws.FnRow", spec := "fnRow", unfollowed := true, recurses := true, apart := false }
def FnRowSaid : Prop := fnRowRow.holds Try.pinned (OpenSpec.ofChange fnRowSpec)

/-- ITS FALSE NEIGHBOUR: 'it returns false'. Refute it at one input. -/
def fnRowWrong : ChangeSpec := { name := "fnRow", fn := fun _ => fun
  | [d] => { results := [.lit (.bool false)], args := [d] }
  | _ => none }
def FnRowWrongFalsely : Prop := fnRowRow.holds Try.pinned (OpenSpec.ofChange fnRowWrong)

/-- 'laws.FnRowNested': WHATEVER THE INPUT: true; the input reads as it did. -/
def fnRowNestedSpec : ChangeSpec := { name := "fnRowNested", fn := fun _ => fun
  | [d] => { results := [.lit (.bool true)], args := [d] }
  | _ => none }
def fnRowNestedRow : OpenClaim := { program := "ytoiaamcnmpdglaa", sum := "691f7e69961f685ae6019ca19c5a78a27e1a3422977c3f896d0b60be36f5fb0f", func := "loop.example/g00707/laws.FnRowNested", spec := "fnRowNested", apart := false }
def FnRowNestedSaid : Prop := fnRowNestedRow.holds Try.pinned (OpenSpec.ofChange fnRowNestedSpec)

/-- ITS FALSE NEIGHBOUR: 'it returns false'. Refute it at one input. -/
def fnRowNestedWrong : ChangeSpec := { name := "fnRowNested", fn := fun _ => fun
  | [d] => { results := [.lit (.bool false)], args := [d] }
  | _ => none }
def FnRowNestedWrongFalsely : Prop := fnRowNestedRow.holds Try.pinned (OpenSpec.ofChange fnRowNestedWrong)

/-- 'laws.FnRowAlike': WHATEVER THE INPUT: true; the input reads as it did. -/
def fnRowAlikeSpec : ChangeSpec := { name := "fnRowAlike", fn := fun _ => fun
  | [d] => { results := [.lit (.bool true)], args := [d] }
  | _ => none }
def fnRowAlikeRow : OpenClaim := { program := "ytoiaamcnmpdglaa", sum := "691f7e69961f685ae6019ca19c5a78a27e1a3422977c3f896d0b60be36f5fb0f", func := "loop.example/g00707/laws.FnRowAlike", spec := "fnRowAlike", apart := false }
def FnRowAlikeSaid : Prop := fnRowAlikeRow.holds Try.pinned (OpenSpec.ofChange fnRowAlikeSpec)

/-- ITS FALSE NEIGHBOUR: 'it returns false'. Refute it at one input. -/
def fnRowAlikeWrong : ChangeSpec := { name := "fnRowAlike", fn := fun _ => fun
  | [d] => { results := [.lit (.bool false)], args := [d] }
  | _ => none }
def FnRowAlikeWrongFalsely : Prop := fnRowAlikeRow.holds Try.pinned (OpenSpec.ofChange fnRowAlikeWrong)

/- THE SECOND FORM. 'bulk': how many values and letters a reading holds, each counted each time it is reached (what is shared counts as often as it is met; a slice's spare places count too). A statement '..UptoSaid' is the law's where the arguments, and the package variables that the reading takes, are together of bulk at most 1048576: NARROWER than '..Said'. Prove '..Said' where nothing that the law and all that it calls make is longer than what came in: it says more and counts as full. Else prove '..UptoSaid'. A law counts once. -/
mutual
def uptoBulk {H : Type} : DataW H → Nat
  | .lit (.string bytes) => bytes.length + 1
  | .lit _ => 1
  | .nil => 1
  | .ptr d => uptoBulk d + 1
  | .slice elems spare => uptoBulkAll elems + uptoBulkAll spare + 1
  | .agg parts => uptoBulkAll parts + 1
  | .iface _ d => uptoBulk d + 1
  | .map entries => uptoBulkEntries entries + 1
  | .held _ => 1
def uptoBulkAll {H : Type} : List (DataW H) → Nat
  | [] => 0
  | d :: r => uptoBulk d + uptoBulkAll r
def uptoBulkEntries {H : Type} : List (Lit × DataW H) → Nat
  | [] => 0
  | x :: r => uptoBulkEntry x + uptoBulkEntries r
def uptoBulkEntry {H : Type} : Lit × DataW H → Nat
  | (.string bytes, d) => bytes.length + uptoBulk d + 1
  | (_, d) => uptoBulk d + 1
 end
def uptoSmall : (H : Type) → List (DataW H) → Bool := fun _ ds => decide (uptoBulkAll ds ≤ 1048576)
def OpenSpec.upto (s : _root_.Go.ChangeSpec) : _root_.Go.OpenSpec := { _root_.Go.OpenSpec.ofChange s with cond := some uptoSmall }

/-- 'laws.FnRow', WHERE WHAT IT READS IS OF BULK AT MOST 1048576: true; the input reads as it did. -/
def fnRowUptoRow : OpenClaim := { program := "ytoiaamcnmpdglaa", sum := "691f7e69961f685ae6019ca19c5a78a27e1a3422977c3f896d0b60be36f5fb0f", func := "loop.example/g00707/laws.FnRow", spec := "fnRow", unfollowed := true, recurses := true, apart := false, narrowed := true }
def FnRowUptoSaid : Prop := fnRowUptoRow.holds Try.pinned (OpenSpec.upto fnRowSpec)

/-- 'laws.FnRowNested', WHERE WHAT IT READS IS OF BULK AT MOST 1048576: true; the input reads as it did. -/
def fnRowNestedUptoRow : OpenClaim := { program := "ytoiaamcnmpdglaa", sum := "691f7e69961f685ae6019ca19c5a78a27e1a3422977c3f896d0b60be36f5fb0f", func := "loop.example/g00707/laws.FnRowNested", spec := "fnRowNested", apart := false, narrowed := true }
def FnRowNestedUptoSaid : Prop := fnRowNestedUptoRow.holds Try.pinned (OpenSpec.upto fnRowNestedSpec)

/-- 'laws.FnRowAlike', WHERE WHAT IT READS IS OF BULK AT MOST 1048576: true; the input reads as it did. -/
def fnRowAlikeUptoRow : OpenClaim := { program := "ytoiaamcnmpdglaa", sum := "691f7e69961f685ae6019ca19c5a78a27e1a3422977c3f896d0b60be36f5fb0f", func := "loop.example/g00707/laws.FnRowAlike", spec := "fnRowAlike", apart := false, narrowed := true }
def FnRowAlikeUptoSaid : Prop := fnRowAlikeUptoRow.holds Try.pinned (OpenSpec.upto fnRowAlikeSpec)

end Rows
end Go.Proofs.Ytoiaamcnmpdglaa
