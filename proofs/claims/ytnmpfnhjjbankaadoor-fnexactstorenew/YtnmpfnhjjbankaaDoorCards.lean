/-
  DERIVED. GIVEN WITH THE SEED: THE CARDS: each row of YtnmpfnhjjbankaaDoorRows.lean that lists a variable, with what it lists TIED to the program's text (the seventh form; the later family's looks); each row that meets fmt, with fmt's text TOLD by the authors' own Lean function (tested against real Go, not proved from fmt's source: count such statements apart). THE CARD IS WHAT COUNTS. Prove the row's statement (the work); the ties are given (YtnmpfnhjjbankaaDoorTie.lean); close each card by the builder's one call (the guide's Derived/Test/ToyasCard.lean, 'card_holds'). Laid BY PROGRAM, IN A SANDBOX (cutbox-door.mjs). By AI agents, Wed Nov 11 2026. No macro, syntax, notation, axiom, sorry.
-/
import Derived.Test.YtnmpfnhjjbankaaDoorRows
import GoSem.ClaimSeven
namespace Go.Proofs.YtnmpfnhjjbankaaDoor
namespace Rows

/-- THE TIED CARD OF 'laws.FnExactStoreNew'. -/
def fnExactStoreNewCard : Claim7 := { stood := { row := fnExactStoreNewRow, standIns := [], harness := (true, "22dc5421a47b7a6f0d1dedfa40d873edff78e33d93a2f546eec03f17296559b1"), looks := false }, kinds := [], alts := [], laidByText := true, laidKinds := [.data], laidTests := true, laidLooks := .later }
def FnExactStoreNewCardSaid : Prop := Claim7.holds Tryd.pinned (.plain (OpenSpec.ofChange fnExactStoreNewSpec)) fnExactStoreNewCard

/-- THE TIED CARD OF 'laws.FnExactEnvHas'. -/
def fnExactEnvHasCard : Claim7 := { stood := { row := fnExactEnvHasRow, standIns := [], harness := (true, "22dc5421a47b7a6f0d1dedfa40d873edff78e33d93a2f546eec03f17296559b1"), looks := false }, kinds := [], alts := [], laidByText := true, laidKinds := [.data], laidTests := true, laidLooks := .later }
def FnExactEnvHasCardSaid : Prop := Claim7.holds Tryd.pinned (.plain (OpenSpec.ofChange fnExactEnvHasSpec)) fnExactEnvHasCard

/-- THE TIED CARD OF 'laws.FnExactEnvPut'. -/
def fnExactEnvPutCard : Claim7 := { stood := { row := fnExactEnvPutRow, standIns := [], harness := (true, "22dc5421a47b7a6f0d1dedfa40d873edff78e33d93a2f546eec03f17296559b1"), looks := false }, kinds := [], alts := [], laidByText := true, laidKinds := [.data], laidTests := true, laidLooks := .later }
def FnExactEnvPutCardSaid : Prop := Claim7.holds Tryd.pinned (.plain (OpenSpec.ofChange fnExactEnvPutSpec)) fnExactEnvPutCard

/-- THE SECOND FORM's CARD OF 'laws.FnExactStoreNew'. -/
def fnExactStoreNewUptoCard : Claim7 := { stood := { row := fnExactStoreNewUptoRow, standIns := [], harness := (true, "22dc5421a47b7a6f0d1dedfa40d873edff78e33d93a2f546eec03f17296559b1"), looks := false }, kinds := [], alts := [], laidByText := true, laidKinds := [.data], laidTests := true, laidLooks := .later }
def FnExactStoreNewUptoCardSaid : Prop := Claim7.holds Tryd.pinned (.plain (OpenSpec.upto fnExactStoreNewSpec)) fnExactStoreNewUptoCard

/-- THE SECOND FORM's CARD OF 'laws.FnExactEnvHas'. -/
def fnExactEnvHasUptoCard : Claim7 := { stood := { row := fnExactEnvHasUptoRow, standIns := [], harness := (true, "22dc5421a47b7a6f0d1dedfa40d873edff78e33d93a2f546eec03f17296559b1"), looks := false }, kinds := [], alts := [], laidByText := true, laidKinds := [.data], laidTests := true, laidLooks := .later }
def FnExactEnvHasUptoCardSaid : Prop := Claim7.holds Tryd.pinned (.plain (OpenSpec.upto fnExactEnvHasSpec)) fnExactEnvHasUptoCard

/-- THE SECOND FORM's CARD OF 'laws.FnExactEnvPut'. -/
def fnExactEnvPutUptoCard : Claim7 := { stood := { row := fnExactEnvPutUptoRow, standIns := [], harness := (true, "22dc5421a47b7a6f0d1dedfa40d873edff78e33d93a2f546eec03f17296559b1"), looks := false }, kinds := [], alts := [], laidByText := true, laidKinds := [.data], laidTests := true, laidLooks := .later }
def FnExactEnvPutUptoCardSaid : Prop := Claim7.holds Tryd.pinned (.plain (OpenSpec.upto fnExactEnvPutSpec)) fnExactEnvPutUptoCard
end Rows
end Go.Proofs.YtnmpfnhjjbankaaDoor
