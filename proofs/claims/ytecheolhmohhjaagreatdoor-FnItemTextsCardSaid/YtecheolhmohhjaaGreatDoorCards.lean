/-
  DERIVED. GIVEN WITH THE SEED: THE CARDS: each row of YtecheolhmohhjaaGreatDoorRows.lean that lists a variable, with what it lists TIED to the program's text (the seventh form; the later family's looks); each row that meets fmt, with fmt's text TOLD by the authors' own Lean function (tested against real Go, not proved from fmt's source: count such statements apart). THE CARD IS WHAT COUNTS. Prove the row's statement (the work); the ties are given (YtecheolhmohhjaaGreatDoorTie.lean); close each card by the builder's one call (the guide's Derived/Test/ToyasCard.lean, 'card_holds'). Laid BY PROGRAM, IN A SANDBOX (cutbox-door.mjs). By AI agents, Wed Nov 11 2026. No macro, syntax, notation, axiom, sorry.
-/
import Derived.Test.YtecheolhmohhjaaGreatDoorRows
import GoSem.ClaimSeven
namespace Go.Proofs.YtecheolhmohhjaaGreatDoor
namespace Rows

/-- THE TIED CARD OF 'laws.FnItemTexts'. -/
def fnItemTextsCard : Claim7 := { stood := { row := fnItemTextsRow, standIns := [], harness := (true, "6c7ac95743972bb3fb1048dc61f6fab9d8dd928b742245773265314da8ba6487"), looks := true }, kinds := [], alts := [], laidByText := true, laidKinds := [.data, .data, .data, .data, .sentinel, .sentinel, .pinned], laidTests := true, laidLooks := .later }
def FnItemTextsCardSaid : Prop := Claim7.holds Tryz.pinned (.plain (OpenSpec.ofChange fnItemTextsSpec)) fnItemTextsCard

/-- THE SECOND FORM's CARD OF 'laws.FnItemTexts'. -/
def fnItemTextsUptoCard : Claim7 := { stood := { row := fnItemTextsUptoRow, standIns := [], harness := (true, "6c7ac95743972bb3fb1048dc61f6fab9d8dd928b742245773265314da8ba6487"), looks := true }, kinds := [], alts := [], laidByText := true, laidKinds := [.data, .data, .data, .data, .sentinel, .sentinel, .pinned], laidTests := true, laidLooks := .later }
def FnItemTextsUptoCardSaid : Prop := Claim7.holds Tryz.pinned (.plain (OpenSpec.upto fnItemTextsSpec)) fnItemTextsUptoCard
end Rows
end Go.Proofs.YtecheolhmohhjaaGreatDoor
