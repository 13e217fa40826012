/-
  DERIVED. GIVEN WITH THE SEED: THE CARDS: each row of YthldhjifnpfmiaaGreatDoorRows.lean that lists a variable, with what it lists TIED to the program's text (the seventh form; the later family's looks); each row that meets fmt, with fmt's text TOLD by the authors' own Lean function (tested against real Go, not proved from fmt's source: count such statements apart). THE CARD IS WHAT COUNTS. Prove the row's statement (the work); the ties are given (YthldhjifnpfmiaaGreatDoorTie.lean); close each card by the builder's one call (the guide's Derived/Test/ToyasCard.lean, 'card_holds'). Laid BY PROGRAM, IN A SANDBOX (cutbox-door.mjs). By AI agents, Wed Nov 11 2026. No macro, syntax, notation, axiom, sorry.
-/
import Derived.Test.YthldhjifnpfmiaaGreatDoorRows
import GoSem.ClaimSeven
namespace Go.Proofs.YthldhjifnpfmiaaGreatDoor
namespace Rows

/-- THE TIED CARD OF 'laws.FnExactPartsHas'. -/
def fnExactPartsHasCard : Claim7 := { stood := { row := fnExactPartsHasRow, standIns := [], harness := (true, "3cae11ce9434935976becc4dba386cf88eb2dc91ead691e667d1d8df81755a5f"), looks := false }, kinds := [], alts := [], laidByText := true, laidKinds := [.data], laidTests := true, laidLooks := .later }
def FnExactPartsHasCardSaid : Prop := Claim7.holds Tryz.pinned (.plain (OpenSpec.ofChange fnExactPartsHasSpec)) fnExactPartsHasCard

/-- THE SECOND FORM's CARD OF 'laws.FnExactPartsHas'. -/
def fnExactPartsHasUptoCard : Claim7 := { stood := { row := fnExactPartsHasUptoRow, standIns := [], harness := (true, "3cae11ce9434935976becc4dba386cf88eb2dc91ead691e667d1d8df81755a5f"), looks := false }, kinds := [], alts := [], laidByText := true, laidKinds := [.data], laidTests := true, laidLooks := .later }
def FnExactPartsHasUptoCardSaid : Prop := Claim7.holds Tryz.pinned (.plain (OpenSpec.upto fnExactPartsHasSpec)) fnExactPartsHasUptoCard
end Rows
end Go.Proofs.YthldhjifnpfmiaaGreatDoor
