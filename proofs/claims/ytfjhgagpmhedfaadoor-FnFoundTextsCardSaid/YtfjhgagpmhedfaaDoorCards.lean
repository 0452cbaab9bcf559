/-
  DERIVED. GIVEN WITH THE SEED: THE CARDS: each row of YtfjhgagpmhedfaaDoorRows.lean that lists a variable, with what it lists TIED to the program's text (the seventh form; the later family's looks); each row that meets fmt, with fmt's text TOLD by the authors' own Lean function (tested against real Go, not proved from fmt's source: count such statements apart). THE CARD IS WHAT COUNTS. Prove the row's statement (the work); the ties are given (YtfjhgagpmhedfaaDoorTie.lean); close each card by the builder's one call (the guide's Derived/Test/ToyasCard.lean, 'card_holds'). Laid BY PROGRAM, IN A SANDBOX (cutbox-door.mjs). By AI agents, Wed Nov 11 2026. No macro, syntax, notation, axiom, sorry.
-/
import Derived.Test.YtfjhgagpmhedfaaDoorRows
import GoSem.ClaimSeven
namespace Go.Proofs.YtfjhgagpmhedfaaDoor
namespace Rows

/-- THE TIED CARD OF 'laws.FnExactFoundText'. -/
def fnExactFoundTextCard : Claim7 := { stood := { row := fnExactFoundTextRow, standIns := [], harness := (true, "5ccb9f4c02d1eaa5bee5e01a3f53d194c38d5e75a2272c325f7cce8cc93add85"), looks := false }, kinds := [], alts := [], laidByText := true, laidKinds := [.data, .data, .data], laidTests := true, laidLooks := .later }
def FnExactFoundTextCardSaid : Prop := Claim7.holds Tryd.pinned (.plain (OpenSpec.ofChange fnExactFoundTextSpec)) fnExactFoundTextCard

/-- THE TIED CARD OF 'laws.FnFoundTexts'. -/
def fnFoundTextsCard : Claim7 := { stood := { row := fnFoundTextsRow, standIns := [], harness := (true, "5ccb9f4c02d1eaa5bee5e01a3f53d194c38d5e75a2272c325f7cce8cc93add85"), looks := false }, kinds := [], alts := [], laidByText := true, laidKinds := [.data, .data, .data], laidTests := true, laidLooks := .later }
def FnFoundTextsCardSaid : Prop := Claim7.holds Tryd.pinned (.plain (OpenSpec.ofChange fnFoundTextsSpec)) fnFoundTextsCard

/-- THE SECOND FORM's CARD OF 'laws.FnExactFoundText'. -/
def fnExactFoundTextUptoCard : Claim7 := { stood := { row := fnExactFoundTextUptoRow, standIns := [], harness := (true, "5ccb9f4c02d1eaa5bee5e01a3f53d194c38d5e75a2272c325f7cce8cc93add85"), looks := false }, kinds := [], alts := [], laidByText := true, laidKinds := [.data, .data, .data], laidTests := true, laidLooks := .later }
def FnExactFoundTextUptoCardSaid : Prop := Claim7.holds Tryd.pinned (.plain (OpenSpec.upto fnExactFoundTextSpec)) fnExactFoundTextUptoCard

/-- THE SECOND FORM's CARD OF 'laws.FnFoundTexts'. -/
def fnFoundTextsUptoCard : Claim7 := { stood := { row := fnFoundTextsUptoRow, standIns := [], harness := (true, "5ccb9f4c02d1eaa5bee5e01a3f53d194c38d5e75a2272c325f7cce8cc93add85"), looks := false }, kinds := [], alts := [], laidByText := true, laidKinds := [.data, .data, .data], laidTests := true, laidLooks := .later }
def FnFoundTextsUptoCardSaid : Prop := Claim7.holds Tryd.pinned (.plain (OpenSpec.upto fnFoundTextsSpec)) fnFoundTextsUptoCard
end Rows
end Go.Proofs.YtfjhgagpmhedfaaDoor
