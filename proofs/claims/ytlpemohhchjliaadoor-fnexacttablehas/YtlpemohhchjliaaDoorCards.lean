/-
  DERIVED. GIVEN WITH THE SEED: THE CARDS: each row of YtlpemohhchjliaaDoorRows.lean that lists a variable, with what it lists TIED to the program's text (the seventh form; the later family's looks); each row that meets fmt, with fmt's text TOLD by the authors' own Lean function (tested against real Go, not proved from fmt's source: count such statements apart). THE CARD IS WHAT COUNTS. Prove the row's statement (the work); the ties are given (YtlpemohhchjliaaDoorTie.lean); close each card by the builder's one call (the guide's Derived/Test/ToyasCard.lean, 'card_holds'). Laid BY PROGRAM, IN A SANDBOX (cutbox-door.mjs). By AI agents, Wed Nov 11 2026. No macro, syntax, notation, axiom, sorry.
-/
import Derived.Test.YtlpemohhchjliaaDoorRows
import GoSem.ClaimSeven
namespace Go.Proofs.YtlpemohhchjliaaDoor
namespace Rows

/-- THE TIED CARD OF 'laws.FnExactEnvHas'. -/
def fnExactEnvHasCard : Claim7 := { stood := { row := fnExactEnvHasRow, standIns := [], harness := (true, "40d19dad770ce37e6085ef76c9f5b4a8154ffeb772d4327c747de9ad44c1b9c6"), looks := false }, kinds := [], alts := [], laidByText := true, laidKinds := [.data], laidTests := true, laidLooks := .later }
def FnExactEnvHasCardSaid : Prop := Claim7.holds Tryd.pinned (.plain (OpenSpec.ofChange fnExactEnvHasSpec)) fnExactEnvHasCard

/-- THE TIED CARD OF 'laws.FnExactEnvLeq'. -/
def fnExactEnvLeqCard : Claim7 := { stood := { row := fnExactEnvLeqRow, standIns := [], harness := (true, "40d19dad770ce37e6085ef76c9f5b4a8154ffeb772d4327c747de9ad44c1b9c6"), looks := false }, kinds := [], alts := [], laidByText := true, laidKinds := [.data], laidTests := true, laidLooks := .later }
def FnExactEnvLeqCardSaid : Prop := Claim7.holds Tryd.pinned (.plain (OpenSpec.ofChange fnExactEnvLeqSpec)) fnExactEnvLeqCard

/-- THE TIED CARD OF 'laws.FnExactEnvSet'. -/
def fnExactEnvSetCard : Claim7 := { stood := { row := fnExactEnvSetRow, standIns := [], harness := (true, "40d19dad770ce37e6085ef76c9f5b4a8154ffeb772d4327c747de9ad44c1b9c6"), looks := false }, kinds := [], alts := [], laidByText := true, laidKinds := [.data], laidTests := true, laidLooks := .later }
def FnExactEnvSetCardSaid : Prop := Claim7.holds Tryd.pinned (.plain (OpenSpec.ofChange fnExactEnvSetSpec)) fnExactEnvSetCard

/-- THE TIED CARD OF 'laws.FnExactTableOk'. -/
def fnExactTableOkCard : Claim7 := { stood := { row := fnExactTableOkRow, standIns := [], harness := (true, "40d19dad770ce37e6085ef76c9f5b4a8154ffeb772d4327c747de9ad44c1b9c6"), looks := false }, kinds := [], alts := [], laidByText := true, laidKinds := [.data], laidTests := true, laidLooks := .later }
def FnExactTableOkCardSaid : Prop := Claim7.holds Tryd.pinned (.plain (OpenSpec.ofChange fnExactTableOkSpec)) fnExactTableOkCard

/-- THE TIED CARD OF 'laws.FnExactTableHas'. -/
def fnExactTableHasCard : Claim7 := { stood := { row := fnExactTableHasRow, standIns := [], harness := (true, "40d19dad770ce37e6085ef76c9f5b4a8154ffeb772d4327c747de9ad44c1b9c6"), looks := false }, kinds := [], alts := [], laidByText := true, laidKinds := [.data], laidTests := true, laidLooks := .later }
def FnExactTableHasCardSaid : Prop := Claim7.holds Tryd.pinned (.plain (OpenSpec.ofChange fnExactTableHasSpec)) fnExactTableHasCard

/-- THE TIED CARD OF 'laws.FnExactTableLeq'. -/
def fnExactTableLeqCard : Claim7 := { stood := { row := fnExactTableLeqRow, standIns := [], harness := (true, "40d19dad770ce37e6085ef76c9f5b4a8154ffeb772d4327c747de9ad44c1b9c6"), looks := false }, kinds := [], alts := [], laidByText := true, laidKinds := [.data], laidTests := true, laidLooks := .later }
def FnExactTableLeqCardSaid : Prop := Claim7.holds Tryd.pinned (.plain (OpenSpec.ofChange fnExactTableLeqSpec)) fnExactTableLeqCard

/-- THE SECOND FORM's CARD OF 'laws.FnExactEnvHas'. -/
def fnExactEnvHasUptoCard : Claim7 := { stood := { row := fnExactEnvHasUptoRow, standIns := [], harness := (true, "40d19dad770ce37e6085ef76c9f5b4a8154ffeb772d4327c747de9ad44c1b9c6"), looks := false }, kinds := [], alts := [], laidByText := true, laidKinds := [.data], laidTests := true, laidLooks := .later }
def FnExactEnvHasUptoCardSaid : Prop := Claim7.holds Tryd.pinned (.plain (OpenSpec.upto fnExactEnvHasSpec)) fnExactEnvHasUptoCard

/-- THE SECOND FORM's CARD OF 'laws.FnExactEnvLeq'. -/
def fnExactEnvLeqUptoCard : Claim7 := { stood := { row := fnExactEnvLeqUptoRow, standIns := [], harness := (true, "40d19dad770ce37e6085ef76c9f5b4a8154ffeb772d4327c747de9ad44c1b9c6"), looks := false }, kinds := [], alts := [], laidByText := true, laidKinds := [.data], laidTests := true, laidLooks := .later }
def FnExactEnvLeqUptoCardSaid : Prop := Claim7.holds Tryd.pinned (.plain (OpenSpec.upto fnExactEnvLeqSpec)) fnExactEnvLeqUptoCard

/-- THE SECOND FORM's CARD OF 'laws.FnExactEnvSet'. -/
def fnExactEnvSetUptoCard : Claim7 := { stood := { row := fnExactEnvSetUptoRow, standIns := [], harness := (true, "40d19dad770ce37e6085ef76c9f5b4a8154ffeb772d4327c747de9ad44c1b9c6"), looks := false }, kinds := [], alts := [], laidByText := true, laidKinds := [.data], laidTests := true, laidLooks := .later }
def FnExactEnvSetUptoCardSaid : Prop := Claim7.holds Tryd.pinned (.plain (OpenSpec.upto fnExactEnvSetSpec)) fnExactEnvSetUptoCard

/-- THE SECOND FORM's CARD OF 'laws.FnExactTableOk'. -/
def fnExactTableOkUptoCard : Claim7 := { stood := { row := fnExactTableOkUptoRow, standIns := [], harness := (true, "40d19dad770ce37e6085ef76c9f5b4a8154ffeb772d4327c747de9ad44c1b9c6"), looks := false }, kinds := [], alts := [], laidByText := true, laidKinds := [.data], laidTests := true, laidLooks := .later }
def FnExactTableOkUptoCardSaid : Prop := Claim7.holds Tryd.pinned (.plain (OpenSpec.upto fnExactTableOkSpec)) fnExactTableOkUptoCard

/-- THE SECOND FORM's CARD OF 'laws.FnExactTableHas'. -/
def fnExactTableHasUptoCard : Claim7 := { stood := { row := fnExactTableHasUptoRow, standIns := [], harness := (true, "40d19dad770ce37e6085ef76c9f5b4a8154ffeb772d4327c747de9ad44c1b9c6"), looks := false }, kinds := [], alts := [], laidByText := true, laidKinds := [.data], laidTests := true, laidLooks := .later }
def FnExactTableHasUptoCardSaid : Prop := Claim7.holds Tryd.pinned (.plain (OpenSpec.upto fnExactTableHasSpec)) fnExactTableHasUptoCard

/-- THE SECOND FORM's CARD OF 'laws.FnExactTableLeq'. -/
def fnExactTableLeqUptoCard : Claim7 := { stood := { row := fnExactTableLeqUptoRow, standIns := [], harness := (true, "40d19dad770ce37e6085ef76c9f5b4a8154ffeb772d4327c747de9ad44c1b9c6"), looks := false }, kinds := [], alts := [], laidByText := true, laidKinds := [.data], laidTests := true, laidLooks := .later }
def FnExactTableLeqUptoCardSaid : Prop := Claim7.holds Tryd.pinned (.plain (OpenSpec.upto fnExactTableLeqSpec)) fnExactTableLeqUptoCard
end Rows
end Go.Proofs.YtlpemohhchjliaaDoor
