/-
  DERIVED. GIVEN WITH THE SEED: THE CARDS: each row of YtdcdpicdpdhfbaaDoorRows.lean that lists a variable, with what it lists TIED to the program's text (the seventh form; the later family's looks); each row that meets fmt, with fmt's text TOLD by the authors' own Lean function (tested against real Go, not proved from fmt's source: count such statements apart). THE CARD IS WHAT COUNTS. Prove the row's statement (the work); the ties are given (YtdcdpicdpdhfbaaDoorTie.lean); close each card by the builder's one call (the guide's Derived/Test/ToyasCard.lean, 'card_holds'). Laid BY PROGRAM, IN A SANDBOX (cutbox-door.mjs). By AI agents, Wed Nov 11 2026. No macro, syntax, notation, axiom, sorry.
-/
import Derived.Test.YtdcdpicdpdhfbaaDoorRows
import GoSem.ClaimSeven
namespace Go.Proofs.YtdcdpicdpdhfbaaDoor
namespace Rows

/-- THE TIED CARD OF 'laws.FnExactPartsOk'. -/
def fnExactPartsOkCard : Claim7 := { stood := { row := fnExactPartsOkRow, standIns := [], harness := (true, "9b2ae4f7d0330e98644b8244de86b3ba311a5e4d8e593b78df5164c620e2de9f"), looks := false }, kinds := [], alts := [], laidByText := true, laidKinds := [.data], laidTests := true, laidLooks := .later }
def FnExactPartsOkCardSaid : Prop := Claim7.holds Tryd.pinned (.plain (OpenSpec.ofChange fnExactPartsOkSpec)) fnExactPartsOkCard

/-- THE TIED CARD OF 'laws.FnExactPartsLeq'. -/
def fnExactPartsLeqCard : Claim7 := { stood := { row := fnExactPartsLeqRow, standIns := [], harness := (true, "9b2ae4f7d0330e98644b8244de86b3ba311a5e4d8e593b78df5164c620e2de9f"), looks := false }, kinds := [], alts := [], laidByText := true, laidKinds := [.data], laidTests := true, laidLooks := .later }
def FnExactPartsLeqCardSaid : Prop := Claim7.holds Tryd.pinned (.plain (OpenSpec.ofChange fnExactPartsLeqSpec)) fnExactPartsLeqCard

/-- THE SECOND FORM's CARD OF 'laws.FnExactPartsOk'. -/
def fnExactPartsOkUptoCard : Claim7 := { stood := { row := fnExactPartsOkUptoRow, standIns := [], harness := (true, "9b2ae4f7d0330e98644b8244de86b3ba311a5e4d8e593b78df5164c620e2de9f"), looks := false }, kinds := [], alts := [], laidByText := true, laidKinds := [.data], laidTests := true, laidLooks := .later }
def FnExactPartsOkUptoCardSaid : Prop := Claim7.holds Tryd.pinned (.plain (OpenSpec.upto fnExactPartsOkSpec)) fnExactPartsOkUptoCard

/-- THE SECOND FORM's CARD OF 'laws.FnExactPartsLeq'. -/
def fnExactPartsLeqUptoCard : Claim7 := { stood := { row := fnExactPartsLeqUptoRow, standIns := [], harness := (true, "9b2ae4f7d0330e98644b8244de86b3ba311a5e4d8e593b78df5164c620e2de9f"), looks := false }, kinds := [], alts := [], laidByText := true, laidKinds := [.data], laidTests := true, laidLooks := .later }
def FnExactPartsLeqUptoCardSaid : Prop := Claim7.holds Tryd.pinned (.plain (OpenSpec.upto fnExactPartsLeqSpec)) fnExactPartsLeqUptoCard
end Rows
end Go.Proofs.YtdcdpicdpdhfbaaDoor
