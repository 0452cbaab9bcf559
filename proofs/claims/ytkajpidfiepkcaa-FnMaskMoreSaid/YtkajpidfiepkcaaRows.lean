/-
  No cell of these rows narrows 'for every input' (looked for: loops, veiled, ifaces, maps, wideKeys, modest, calm, conditions, laid).
  DERIVED. THE GIVEN ROWS OF THIS SEAT. 3 by the template 'for every input the law returns true; each argument reads behind the call as it read before'; 0 by the template 'total and deterministic' (their statements: YtkajpidfiepkcaaTotals.lean).
  GIVEN WITH THE SEED: the statements are not yours to turn. If you find one false, say at which input.
  Laid BY PROGRAM, IN A SANDBOX (cutbox-rows.mjs): the forced cells as the released guide's own fill.sh prints them over the translation 1ceb3adb3bbaef85… (all of the seat's roots in one cut). By AI agents, Wed Nov 11 2026. No macro, syntax, notation, axiom, sorry.
-/
import Derived.Test.YtkajpidfiepkcaaChecked
import GoSem.Claim
import GoSem.ClaimJoined
import GoSem.ClaimMapViews
import Derived.JoinedTies
import Derived.KernelRfl
namespace Go.Proofs.Ytkajpidfiepkcaa
/- THE CELL 'sum', in the pinned program and in every row, IS THE sha256 OF THE DUMP (.gsa) THAT YtkajpidfiepkcaaProg.lean LOADS. Nothing in Lean hashes anything: it is a label: what it is worth is what the hold of that sum in a sandbox is worth. -/
noncomputable def Try.pinned : Pinned := { name := "ytkajpidfiepkcaa", sum := "1ceb3adb3bbaef85e385e8803396370c6073c9025edde7c6856f658e0971b5aa", checked := Try.checked }
namespace Rows
def none {H : Type} : Left H := { results := [], args := [] }

/-- 'laws.FnItemFind': WHATEVER THE INPUT: true; the input reads as it did. -/
def fnItemFindSpec : ChangeSpec := { name := "fnItemFind", fn := fun _ => fun
  | [d] => { results := [.lit (.bool true)], args := [d] }
  | _ => none }
def fnItemFindRow : OpenClaim := { program := "ytkajpidfiepkcaa", sum := "1ceb3adb3bbaef85e385e8803396370c6073c9025edde7c6856f658e0971b5aa", func := "loop.example/g00707/laws.FnItemFind", spec := "fnItemFind", apart := false }
def FnItemFindSaid : Prop := fnItemFindRow.holds Try.pinned (OpenSpec.ofChange fnItemFindSpec)

/-- ITS FALSE NEIGHBOUR: 'it returns false'. Refute it at one input. -/
def fnItemFindWrong : ChangeSpec := { name := "fnItemFind", fn := fun _ => fun
  | [d] => { results := [.lit (.bool false)], args := [d] }
  | _ => none }
def FnItemFindWrongFalsely : Prop := fnItemFindRow.holds Try.pinned (OpenSpec.ofChange fnItemFindWrong)

/-- 'laws.FnMatching': WHATEVER THE INPUT: true; the input reads as it did. -/
def fnMatchingSpec : ChangeSpec := { name := "fnMatching", fn := fun _ => fun
  | [d] => { results := [.lit (.bool true)], args := [d] }
  | _ => none }
def fnMatchingRow : OpenClaim := { program := "ytkajpidfiepkcaa", sum := "1ceb3adb3bbaef85e385e8803396370c6073c9025edde7c6856f658e0971b5aa", func := "loop.example/g00707/laws.FnMatching", spec := "fnMatching", apart := false }
def FnMatchingSaid : Prop := fnMatchingRow.holds Try.pinned (OpenSpec.ofChange fnMatchingSpec)

/-- ITS FALSE NEIGHBOUR: 'it returns false'. Refute it at one input. -/
def fnMatchingWrong : ChangeSpec := { name := "fnMatching", fn := fun _ => fun
  | [d] => { results := [.lit (.bool false)], args := [d] }
  | _ => none }
def FnMatchingWrongFalsely : Prop := fnMatchingRow.holds Try.pinned (OpenSpec.ofChange fnMatchingWrong)

/-- 'laws.FnMaskMore': WHATEVER THE INPUT: true; the input reads as it did. -/
def fnMaskMoreSpec : ChangeSpec := { name := "fnMaskMore", fn := fun _ => fun
  | [d1, d2] => { results := [.lit (.bool true)], args := [d1, d2] }
  | _ => none }
def fnMaskMoreRow : OpenClaim := { program := "ytkajpidfiepkcaa", sum := "1ceb3adb3bbaef85e385e8803396370c6073c9025edde7c6856f658e0971b5aa", func := "loop.example/g00707/laws.FnMaskMore", spec := "fnMaskMore", apart := false }
def FnMaskMoreSaid : Prop := fnMaskMoreRow.holds Try.pinned (OpenSpec.ofChange fnMaskMoreSpec)

/-- ITS FALSE NEIGHBOUR: 'it returns false'. Refute it at one input. -/
def fnMaskMoreWrong : ChangeSpec := { name := "fnMaskMore", fn := fun _ => fun
  | [d1, d2] => { results := [.lit (.bool false)], args := [d1, d2] }
  | _ => none }
def FnMaskMoreWrongFalsely : Prop := fnMaskMoreRow.holds Try.pinned (OpenSpec.ofChange fnMaskMoreWrong)

/- THE SECOND FORM. 'bulk': how many values and letters a reading holds, each counted each time it is reached (what is shared counts as often as it is met; a slice's spare places count too). A statement '..UptoSaid' is the law's where the arguments, and the package variables that the reading takes, are together of bulk at most 1048576: NARROWER than '..Said'. Prove '..Said' where nothing that the law and all that it calls make is longer than what came in: it says more and counts as full. Else prove '..UptoSaid'. A law counts once. -/
mutual
def uptoBulk {H : Type} : DataW H → Nat
  | .lit (.string bytes) => bytes.length + 1
  | .lit _ => 1
  | .nil => 1
  | .ptr d => uptoBulk d + 1
  | .slice elems spare => uptoBulkAll elems + uptoBulkAll spare + 1
  | .agg parts => uptoBulkAll parts + 1
  | .iface _ d => uptoBulk d + 1
  | .map entries => uptoBulkEntries entries + 1
  | .held _ => 1
def uptoBulkAll {H : Type} : List (DataW H) → Nat
  | [] => 0
  | d :: r => uptoBulk d + uptoBulkAll r
def uptoBulkEntries {H : Type} : List (Lit × DataW H) → Nat
  | [] => 0
  | x :: r => uptoBulkEntry x + uptoBulkEntries r
def uptoBulkEntry {H : Type} : Lit × DataW H → Nat
  | (.string bytes, d) => bytes.length + uptoBulk d + 1
  | (_, d) => uptoBulk d + 1
 end
def uptoSmall : (H : Type) → List (DataW H) → Bool := fun _ ds => decide (uptoBulkAll ds ≤ 1048576)
def OpenSpec.upto (s : _root_.Go.ChangeSpec) : _root_.Go.OpenSpec := { _root_.Go.OpenSpec.ofChange s with cond := some uptoSmall }

/-- 'laws.FnItemFind', WHERE WHAT IT READS IS OF BULK AT MOST 1048576: true; the input reads as it did. -/
def fnItemFindUptoRow : OpenClaim := { program := "ytkajpidfiepkcaa", sum := "1ceb3adb3bbaef85e385e8803396370c6073c9025edde7c6856f658e0971b5aa", func := "loop.example/g00707/laws.FnItemFind", spec := "fnItemFind", apart := false, narrowed := true }
def FnItemFindUptoSaid : Prop := fnItemFindUptoRow.holds Try.pinned (OpenSpec.upto fnItemFindSpec)

/-- 'laws.FnMatching', WHERE WHAT IT READS IS OF BULK AT MOST 1048576: true; the input reads as it did. -/
def fnMatchingUptoRow : OpenClaim := { program := "ytkajpidfiepkcaa", sum := "1ceb3adb3bbaef85e385e8803396370c6073c9025edde7c6856f658e0971b5aa", func := "loop.example/g00707/laws.FnMatching", spec := "fnMatching", apart := false, narrowed := true }
def FnMatchingUptoSaid : Prop := fnMatchingUptoRow.holds Try.pinned (OpenSpec.upto fnMatchingSpec)

/-- 'laws.FnMaskMore', WHERE WHAT IT READS IS OF BULK AT MOST 1048576: true; the input reads as it did. -/
def fnMaskMoreUptoRow : OpenClaim := { program := "ytkajpidfiepkcaa", sum := "1ceb3adb3bbaef85e385e8803396370c6073c9025edde7c6856f658e0971b5aa", func := "loop.example/g00707/laws.FnMaskMore", spec := "fnMaskMore", apart := false, narrowed := true }
def FnMaskMoreUptoSaid : Prop := fnMaskMoreUptoRow.holds Try.pinned (OpenSpec.upto fnMaskMoreSpec)

end Rows
end Go.Proofs.Ytkajpidfiepkcaa
