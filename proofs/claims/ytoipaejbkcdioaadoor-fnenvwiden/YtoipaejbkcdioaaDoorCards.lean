/-
  DERIVED. GIVEN WITH THE SEED: THE CARDS: each row of YtoipaejbkcdioaaDoorRows.lean that lists a variable, with what it lists TIED to the program's text (the seventh form; the later family's looks); each row that meets fmt, with fmt's text TOLD by the authors' own Lean function (tested against real Go, not proved from fmt's source: count such statements apart). THE CARD IS WHAT COUNTS. Prove the row's statement (the work); the ties are given (YtoipaejbkcdioaaDoorTie.lean); close each card by the builder's one call (the guide's Derived/Test/ToyasCard.lean, 'card_holds'). Laid BY PROGRAM, IN A SANDBOX (cutbox-door.mjs). By AI agents, Wed Nov 11 2026. No macro, syntax, notation, axiom, sorry.
-/
import Derived.Test.YtoipaejbkcdioaaDoorRows
import GoSem.ClaimSeven
namespace Go.Proofs.YtoipaejbkcdioaaDoor
namespace Rows

/-- THE TIED CARD OF 'laws.FnEnvHas'. -/
def fnEnvHasCard : Claim7 := { stood := { row := fnEnvHasRow, standIns := [], harness := (true, "c0a90909e6a6ca613aa0c2e1d55801c9c979086b660af52e5533eb2ff789da91"), looks := false }, kinds := [], alts := [], laidByText := true, laidKinds := [.data], laidTests := true, laidLooks := .later }
def FnEnvHasCardSaid : Prop := Claim7.holds Tryd.pinned (.plain (OpenSpec.ofChange fnEnvHasSpec)) fnEnvHasCard

/-- THE TIED CARD OF 'laws.FnEnvOrder'. -/
def fnEnvOrderCard : Claim7 := { stood := { row := fnEnvOrderRow, standIns := [], harness := (true, "c0a90909e6a6ca613aa0c2e1d55801c9c979086b660af52e5533eb2ff789da91"), looks := false }, kinds := [], alts := [], laidByText := true, laidKinds := [.data], laidTests := true, laidLooks := .later }
def FnEnvOrderCardSaid : Prop := Claim7.holds Tryd.pinned (.plain (OpenSpec.ofChange fnEnvOrderSpec)) fnEnvOrderCard

/-- THE TIED CARD OF 'laws.FnEnvWiden'. -/
def fnEnvWidenCard : Claim7 := { stood := { row := fnEnvWidenRow, standIns := [], harness := (true, "c0a90909e6a6ca613aa0c2e1d55801c9c979086b660af52e5533eb2ff789da91"), looks := false }, kinds := [], alts := [], laidByText := true, laidKinds := [.data], laidTests := true, laidLooks := .later }
def FnEnvWidenCardSaid : Prop := Claim7.holds Tryd.pinned (.plain (OpenSpec.ofChange fnEnvWidenSpec)) fnEnvWidenCard

/-- THE TIED CARD OF 'laws.FnJoins'. -/
def fnJoinsCard : Claim7 := { stood := { row := fnJoinsRow, standIns := [], harness := (true, "c0a90909e6a6ca613aa0c2e1d55801c9c979086b660af52e5533eb2ff789da91"), looks := false }, kinds := [], alts := [], laidByText := true, laidKinds := [.data], laidTests := true, laidLooks := .later }
def FnJoinsCardSaid : Prop := Claim7.holds Tryd.pinned (.plain (OpenSpec.ofChange fnJoinsSpec)) fnJoinsCard

/-- THE SECOND FORM's CARD OF 'laws.FnEnvHas'. -/
def fnEnvHasUptoCard : Claim7 := { stood := { row := fnEnvHasUptoRow, standIns := [], harness := (true, "c0a90909e6a6ca613aa0c2e1d55801c9c979086b660af52e5533eb2ff789da91"), looks := false }, kinds := [], alts := [], laidByText := true, laidKinds := [.data], laidTests := true, laidLooks := .later }
def FnEnvHasUptoCardSaid : Prop := Claim7.holds Tryd.pinned (.plain (OpenSpec.upto fnEnvHasSpec)) fnEnvHasUptoCard

/-- THE SECOND FORM's CARD OF 'laws.FnEnvOrder'. -/
def fnEnvOrderUptoCard : Claim7 := { stood := { row := fnEnvOrderUptoRow, standIns := [], harness := (true, "c0a90909e6a6ca613aa0c2e1d55801c9c979086b660af52e5533eb2ff789da91"), looks := false }, kinds := [], alts := [], laidByText := true, laidKinds := [.data], laidTests := true, laidLooks := .later }
def FnEnvOrderUptoCardSaid : Prop := Claim7.holds Tryd.pinned (.plain (OpenSpec.upto fnEnvOrderSpec)) fnEnvOrderUptoCard

/-- THE SECOND FORM's CARD OF 'laws.FnEnvWiden'. -/
def fnEnvWidenUptoCard : Claim7 := { stood := { row := fnEnvWidenUptoRow, standIns := [], harness := (true, "c0a90909e6a6ca613aa0c2e1d55801c9c979086b660af52e5533eb2ff789da91"), looks := false }, kinds := [], alts := [], laidByText := true, laidKinds := [.data], laidTests := true, laidLooks := .later }
def FnEnvWidenUptoCardSaid : Prop := Claim7.holds Tryd.pinned (.plain (OpenSpec.upto fnEnvWidenSpec)) fnEnvWidenUptoCard

/-- THE SECOND FORM's CARD OF 'laws.FnJoins'. -/
def fnJoinsUptoCard : Claim7 := { stood := { row := fnJoinsUptoRow, standIns := [], harness := (true, "c0a90909e6a6ca613aa0c2e1d55801c9c979086b660af52e5533eb2ff789da91"), looks := false }, kinds := [], alts := [], laidByText := true, laidKinds := [.data], laidTests := true, laidLooks := .later }
def FnJoinsUptoCardSaid : Prop := Claim7.holds Tryd.pinned (.plain (OpenSpec.upto fnJoinsSpec)) fnJoinsUptoCard
end Rows
end Go.Proofs.YtoipaejbkcdioaaDoor
