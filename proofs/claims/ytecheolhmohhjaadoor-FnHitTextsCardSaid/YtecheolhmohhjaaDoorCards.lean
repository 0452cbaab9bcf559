/-
  DERIVED. GIVEN WITH THE SEED: THE CARDS: each row of YtecheolhmohhjaaDoorRows.lean that lists a variable, with what it lists TIED to the program's text (the seventh form; the later family's looks); each row that meets fmt, with fmt's text TOLD by the authors' own Lean function (tested against real Go, not proved from fmt's source: count such statements apart). THE CARD IS WHAT COUNTS. Prove the row's statement (the work); the ties are given (YtecheolhmohhjaaDoorTie.lean); close each card by the builder's one call (the guide's Derived/Test/ToyasCard.lean, 'card_holds'). Laid BY PROGRAM, IN A SANDBOX (cutbox-door.mjs). By AI agents, Wed Nov 11 2026. No macro, syntax, notation, axiom, sorry.
-/
import Derived.Test.YtecheolhmohhjaaDoorRows
import GoSem.ClaimSeven
namespace Go.Proofs.YtecheolhmohhjaaDoor
namespace Rows

/-- THE TIED CARD OF 'laws.FnHitTexts'. -/
def fnHitTextsCard : Claim7 := { stood := { row := fnHitTextsRow, standIns := [], harness := (true, "c7252c7b901645be31782655283dbe3ae3e9877a21e4f3d910017edd1773c9b6"), looks := true }, kinds := [], alts := [], laidByText := true, laidKinds := [.data, .data, .data, .sentinel, .sentinel], laidTests := true, laidLooks := .later }
def FnHitTextsCardSaid : Prop := Claim7.holds Tryd.pinned (.plain (OpenSpec.ofChange fnHitTextsSpec)) fnHitTextsCard

/-- THE SECOND FORM's CARD OF 'laws.FnHitTexts'. -/
def fnHitTextsUptoCard : Claim7 := { stood := { row := fnHitTextsUptoRow, standIns := [], harness := (true, "c7252c7b901645be31782655283dbe3ae3e9877a21e4f3d910017edd1773c9b6"), looks := true }, kinds := [], alts := [], laidByText := true, laidKinds := [.data, .data, .data, .sentinel, .sentinel], laidTests := true, laidLooks := .later }
def FnHitTextsUptoCardSaid : Prop := Claim7.holds Tryd.pinned (.plain (OpenSpec.upto fnHitTextsSpec)) fnHitTextsUptoCard
end Rows
end Go.Proofs.YtecheolhmohhjaaDoor
