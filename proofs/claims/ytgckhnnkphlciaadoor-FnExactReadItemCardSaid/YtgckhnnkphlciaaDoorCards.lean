/-
  DERIVED. GIVEN WITH THE SEED: THE CARDS: each row of YtgckhnnkphlciaaDoorRows.lean that lists a variable, with what it lists TIED to the program's text (the seventh form; the later family's looks); each row that meets fmt, with fmt's text TOLD by the authors' own Lean function (tested against real Go, not proved from fmt's source: count such statements apart). THE CARD IS WHAT COUNTS. Prove the row's statement (the work); the ties are given (YtgckhnnkphlciaaDoorTie.lean); close each card by the builder's one call (the guide's Derived/Test/ToyasCard.lean, 'card_holds'). Laid BY PROGRAM, IN A SANDBOX (cutbox-door.mjs). By AI agents, Wed Nov 11 2026. No macro, syntax, notation, axiom, sorry.
-/
import Derived.Test.YtgckhnnkphlciaaDoorRows
import GoSem.ClaimSeven
namespace Go.Proofs.YtgckhnnkphlciaaDoor
namespace Rows

/-- THE TIED CARD OF 'laws.FnExactItemText'. -/
def fnExactItemTextCard : Claim7 := { stood := { row := fnExactItemTextRow, standIns := [], harness := (true, "0b2349cbfefcd551d05e9c406c7e21622d8ffe49fd23b429c7d41da87ff20a12"), looks := true }, kinds := [], alts := [], laidByText := true, laidKinds := [.data, .data, .data], laidTests := true, laidLooks := .later }
def FnExactItemTextCardSaid : Prop := Claim7.holds Tryd.pinned (.plain (OpenSpec.ofChange fnExactItemTextSpec)) fnExactItemTextCard

/-- THE TIED CARD OF 'laws.FnExactReadItem'. -/
def fnExactReadItemCard : Claim7 := { stood := { row := fnExactReadItemRow, standIns := [], harness := (true, "0b2349cbfefcd551d05e9c406c7e21622d8ffe49fd23b429c7d41da87ff20a12"), looks := true }, kinds := [], alts := [], laidByText := true, laidKinds := [.data, .data, .data, .data, .sentinel, .sentinel, .pinned], laidTests := true, laidLooks := .later }
def FnExactReadItemCardSaid : Prop := Claim7.holds Tryd.pinned (.plain (OpenSpec.ofChange fnExactReadItemSpec)) fnExactReadItemCard

/-- THE TIED CARD OF 'laws.FnExactHitText'. -/
def fnExactHitTextCard : Claim7 := { stood := { row := fnExactHitTextRow, standIns := [], harness := (true, "0b2349cbfefcd551d05e9c406c7e21622d8ffe49fd23b429c7d41da87ff20a12"), looks := true }, kinds := [], alts := [], laidByText := true, laidKinds := [.data, .data, .data], laidTests := true, laidLooks := .later }
def FnExactHitTextCardSaid : Prop := Claim7.holds Tryd.pinned (.plain (OpenSpec.ofChange fnExactHitTextSpec)) fnExactHitTextCard

/-- THE TIED CARD OF 'laws.FnExactReadHit'. -/
def fnExactReadHitCard : Claim7 := { stood := { row := fnExactReadHitRow, standIns := [], harness := (true, "0b2349cbfefcd551d05e9c406c7e21622d8ffe49fd23b429c7d41da87ff20a12"), looks := true }, kinds := [], alts := [], laidByText := true, laidKinds := [.data, .data, .data, .sentinel, .sentinel], laidTests := true, laidLooks := .later }
def FnExactReadHitCardSaid : Prop := Claim7.holds Tryd.pinned (.plain (OpenSpec.ofChange fnExactReadHitSpec)) fnExactReadHitCard

/-- THE SECOND FORM's CARD OF 'laws.FnExactItemText'. -/
def fnExactItemTextUptoCard : Claim7 := { stood := { row := fnExactItemTextUptoRow, standIns := [], harness := (true, "0b2349cbfefcd551d05e9c406c7e21622d8ffe49fd23b429c7d41da87ff20a12"), looks := true }, kinds := [], alts := [], laidByText := true, laidKinds := [.data, .data, .data], laidTests := true, laidLooks := .later }
def FnExactItemTextUptoCardSaid : Prop := Claim7.holds Tryd.pinned (.plain (OpenSpec.upto fnExactItemTextSpec)) fnExactItemTextUptoCard

/-- THE SECOND FORM's CARD OF 'laws.FnExactReadItem'. -/
def fnExactReadItemUptoCard : Claim7 := { stood := { row := fnExactReadItemUptoRow, standIns := [], harness := (true, "0b2349cbfefcd551d05e9c406c7e21622d8ffe49fd23b429c7d41da87ff20a12"), looks := true }, kinds := [], alts := [], laidByText := true, laidKinds := [.data, .data, .data, .data, .sentinel, .sentinel, .pinned], laidTests := true, laidLooks := .later }
def FnExactReadItemUptoCardSaid : Prop := Claim7.holds Tryd.pinned (.plain (OpenSpec.upto fnExactReadItemSpec)) fnExactReadItemUptoCard

/-- THE SECOND FORM's CARD OF 'laws.FnExactHitText'. -/
def fnExactHitTextUptoCard : Claim7 := { stood := { row := fnExactHitTextUptoRow, standIns := [], harness := (true, "0b2349cbfefcd551d05e9c406c7e21622d8ffe49fd23b429c7d41da87ff20a12"), looks := true }, kinds := [], alts := [], laidByText := true, laidKinds := [.data, .data, .data], laidTests := true, laidLooks := .later }
def FnExactHitTextUptoCardSaid : Prop := Claim7.holds Tryd.pinned (.plain (OpenSpec.upto fnExactHitTextSpec)) fnExactHitTextUptoCard

/-- THE SECOND FORM's CARD OF 'laws.FnExactReadHit'. -/
def fnExactReadHitUptoCard : Claim7 := { stood := { row := fnExactReadHitUptoRow, standIns := [], harness := (true, "0b2349cbfefcd551d05e9c406c7e21622d8ffe49fd23b429c7d41da87ff20a12"), looks := true }, kinds := [], alts := [], laidByText := true, laidKinds := [.data, .data, .data, .sentinel, .sentinel], laidTests := true, laidLooks := .later }
def FnExactReadHitUptoCardSaid : Prop := Claim7.holds Tryd.pinned (.plain (OpenSpec.upto fnExactReadHitSpec)) fnExactReadHitUptoCard
end Rows
end Go.Proofs.YtgckhnnkphlciaaDoor
