/-
  DERIVED. GIVEN WITH THE SEED: THE CARDS: each row of YthldhjifnpfmiaaDoorRows.lean that lists a variable, with what it lists TIED to the program's text (the seventh form; the later family's looks); each row that meets fmt, with fmt's text TOLD by the authors' own Lean function (tested against real Go, not proved from fmt's source: count such statements apart). THE CARD IS WHAT COUNTS. Prove the row's statement (the work); the ties are given (YthldhjifnpfmiaaDoorTie.lean); close each card by the builder's one call (the guide's Derived/Test/ToyasCard.lean, 'card_holds'). Laid BY PROGRAM, IN A SANDBOX (cutbox-door.mjs). By AI agents, Wed Nov 11 2026. No macro, syntax, notation, axiom, sorry.
-/
import Derived.Test.YthldhjifnpfmiaaDoorRows
import GoSem.ClaimSeven
namespace Go.Proofs.YthldhjifnpfmiaaDoor
namespace Rows

/-- THE TIED CARD OF 'laws.FnExactPartsLeq'. -/
def fnExactPartsLeqCard : Claim7 := { stood := { row := fnExactPartsLeqRow, standIns := [], harness := (true, "a2ad07e2a3b73028f51e3ca2b3d170155428dc0ad3d62ebdb56d32a6e61389b5"), looks := false }, kinds := [], alts := [], laidByText := true, laidKinds := [.data], laidTests := true, laidLooks := .later }
def FnExactPartsLeqCardSaid : Prop := Claim7.holds Tryd.pinned (.plain (OpenSpec.ofChange fnExactPartsLeqSpec)) fnExactPartsLeqCard

/-- THE SECOND FORM's CARD OF 'laws.FnExactPartsLeq'. -/
def fnExactPartsLeqUptoCard : Claim7 := { stood := { row := fnExactPartsLeqUptoRow, standIns := [], harness := (true, "a2ad07e2a3b73028f51e3ca2b3d170155428dc0ad3d62ebdb56d32a6e61389b5"), looks := false }, kinds := [], alts := [], laidByText := true, laidKinds := [.data], laidTests := true, laidLooks := .later }
def FnExactPartsLeqUptoCardSaid : Prop := Claim7.holds Tryd.pinned (.plain (OpenSpec.upto fnExactPartsLeqSpec)) fnExactPartsLeqUptoCard
end Rows
end Go.Proofs.YthldhjifnpfmiaaDoor
