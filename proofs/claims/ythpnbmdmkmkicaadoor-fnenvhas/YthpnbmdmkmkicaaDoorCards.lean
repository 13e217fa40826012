/-
  DERIVED. GIVEN WITH THE SEED: THE CARDS: each row of YthpnbmdmkmkicaaDoorRows.lean that lists a variable, with what it lists TIED to the program's text (the seventh form; the later family's looks); each row that meets fmt, with fmt's text TOLD by the authors' own Lean function (tested against real Go, not proved from fmt's source: count such statements apart). THE CARD IS WHAT COUNTS. Prove the row's statement (the work); the ties are given (YthpnbmdmkmkicaaDoorTie.lean); close each card by the builder's one call (the guide's Derived/Test/ToyasCard.lean, 'card_holds'). Laid BY PROGRAM, IN A SANDBOX (cutbox-door.mjs). By AI agents, Wed Nov 11 2026. No macro, syntax, notation, axiom, sorry.
-/
import Derived.Test.YthpnbmdmkmkicaaDoorRows
import GoSem.ClaimSeven
namespace Go.Proofs.YthpnbmdmkmkicaaDoor
namespace Rows

/-- THE TIED CARD OF 'laws.FnEnvHas'. -/
def fnEnvHasCard : Claim7 := { stood := { row := fnEnvHasRow, standIns := [], harness := (true, "849b6c546234da5eb00d6bc4e0fa3949c3421bb700b6970efbf1e0d7f0a5357f"), looks := false }, kinds := [], alts := [], laidByText := true, laidKinds := [.data], laidTests := true, laidLooks := .later }
def FnEnvHasCardSaid : Prop := Claim7.holds Tryd.pinned (.plain (OpenSpec.ofChange fnEnvHasSpec)) fnEnvHasCard

/-- THE TIED CARD OF 'laws.FnSet'. -/
def fnSetCard : Claim7 := { stood := { row := fnSetRow, standIns := [], harness := (true, "849b6c546234da5eb00d6bc4e0fa3949c3421bb700b6970efbf1e0d7f0a5357f"), looks := false }, kinds := [], alts := [], laidByText := true, laidKinds := [.data], laidTests := true, laidLooks := .later }
def FnSetCardSaid : Prop := Claim7.holds Tryd.pinned (.plain (OpenSpec.ofChange fnSetSpec)) fnSetCard

/-- THE TIED CARD OF 'laws.FnPut'. -/
def fnPutCard : Claim7 := { stood := { row := fnPutRow, standIns := [], harness := (true, "849b6c546234da5eb00d6bc4e0fa3949c3421bb700b6970efbf1e0d7f0a5357f"), looks := false }, kinds := [], alts := [], laidByText := true, laidKinds := [.data], laidTests := true, laidLooks := .later }
def FnPutCardSaid : Prop := Claim7.holds Tryd.pinned (.plain (OpenSpec.ofChange fnPutSpec)) fnPutCard

/-- THE SECOND FORM's CARD OF 'laws.FnEnvHas'. -/
def fnEnvHasUptoCard : Claim7 := { stood := { row := fnEnvHasUptoRow, standIns := [], harness := (true, "849b6c546234da5eb00d6bc4e0fa3949c3421bb700b6970efbf1e0d7f0a5357f"), looks := false }, kinds := [], alts := [], laidByText := true, laidKinds := [.data], laidTests := true, laidLooks := .later }
def FnEnvHasUptoCardSaid : Prop := Claim7.holds Tryd.pinned (.plain (OpenSpec.upto fnEnvHasSpec)) fnEnvHasUptoCard

/-- THE SECOND FORM's CARD OF 'laws.FnSet'. -/
def fnSetUptoCard : Claim7 := { stood := { row := fnSetUptoRow, standIns := [], harness := (true, "849b6c546234da5eb00d6bc4e0fa3949c3421bb700b6970efbf1e0d7f0a5357f"), looks := false }, kinds := [], alts := [], laidByText := true, laidKinds := [.data], laidTests := true, laidLooks := .later }
def FnSetUptoCardSaid : Prop := Claim7.holds Tryd.pinned (.plain (OpenSpec.upto fnSetSpec)) fnSetUptoCard

/-- THE SECOND FORM's CARD OF 'laws.FnPut'. -/
def fnPutUptoCard : Claim7 := { stood := { row := fnPutUptoRow, standIns := [], harness := (true, "849b6c546234da5eb00d6bc4e0fa3949c3421bb700b6970efbf1e0d7f0a5357f"), looks := false }, kinds := [], alts := [], laidByText := true, laidKinds := [.data], laidTests := true, laidLooks := .later }
def FnPutUptoCardSaid : Prop := Claim7.holds Tryd.pinned (.plain (OpenSpec.upto fnPutSpec)) fnPutUptoCard
end Rows
end Go.Proofs.YthpnbmdmkmkicaaDoor
