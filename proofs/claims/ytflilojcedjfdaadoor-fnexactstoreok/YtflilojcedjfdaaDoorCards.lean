/-
  DERIVED. GIVEN WITH THE SEED: THE CARDS: each row of YtflilojcedjfdaaDoorRows.lean that lists a variable, with what it lists TIED to the program's text (the seventh form; the later family's looks); each row that meets fmt, with fmt's text TOLD by the authors' own Lean function (tested against real Go, not proved from fmt's source: count such statements apart). THE CARD IS WHAT COUNTS. Prove the row's statement (the work); the ties are given (YtflilojcedjfdaaDoorTie.lean); close each card by the builder's one call (the guide's Derived/Test/ToyasCard.lean, 'card_holds'). Laid BY PROGRAM, IN A SANDBOX (cutbox-door.mjs). By AI agents, Wed Nov 11 2026. No macro, syntax, notation, axiom, sorry.
-/
import Derived.Test.YtflilojcedjfdaaDoorRows
import GoSem.ClaimSeven
namespace Go.Proofs.YtflilojcedjfdaaDoor
namespace Rows

/-- THE TIED CARD OF 'laws.FnExactDeclOk'. -/
def fnExactDeclOkCard : Claim7 := { stood := { row := fnExactDeclOkRow, standIns := [], harness := (true, "a52b3f81eda099e53a9fc3571a88371573c7b59bdc4d014ac59284a0bb901f5e"), looks := false }, kinds := [], alts := [], laidByText := true, laidKinds := [.data], laidTests := true, laidLooks := .later }
def FnExactDeclOkCardSaid : Prop := Claim7.holds Tryd.pinned (.plain (OpenSpec.ofChange fnExactDeclOkSpec)) fnExactDeclOkCard

/-- THE TIED CARD OF 'laws.FnExactStoreOk'. -/
def fnExactStoreOkCard : Claim7 := { stood := { row := fnExactStoreOkRow, standIns := [], harness := (true, "a52b3f81eda099e53a9fc3571a88371573c7b59bdc4d014ac59284a0bb901f5e"), looks := false }, kinds := [], alts := [], laidByText := true, laidKinds := [.data], laidTests := true, laidLooks := .later }
def FnExactStoreOkCardSaid : Prop := Claim7.holds Tryd.pinned (.plain (OpenSpec.ofChange fnExactStoreOkSpec)) fnExactStoreOkCard

/-- THE TIED CARD OF 'laws.FnExactEnvOk'. -/
def fnExactEnvOkCard : Claim7 := { stood := { row := fnExactEnvOkRow, standIns := [], harness := (true, "a52b3f81eda099e53a9fc3571a88371573c7b59bdc4d014ac59284a0bb901f5e"), looks := false }, kinds := [], alts := [], laidByText := true, laidKinds := [.data], laidTests := true, laidLooks := .later }
def FnExactEnvOkCardSaid : Prop := Claim7.holds Tryd.pinned (.plain (OpenSpec.ofChange fnExactEnvOkSpec)) fnExactEnvOkCard

/-- THE SECOND FORM's CARD OF 'laws.FnExactDeclOk'. -/
def fnExactDeclOkUptoCard : Claim7 := { stood := { row := fnExactDeclOkUptoRow, standIns := [], harness := (true, "a52b3f81eda099e53a9fc3571a88371573c7b59bdc4d014ac59284a0bb901f5e"), looks := false }, kinds := [], alts := [], laidByText := true, laidKinds := [.data], laidTests := true, laidLooks := .later }
def FnExactDeclOkUptoCardSaid : Prop := Claim7.holds Tryd.pinned (.plain (OpenSpec.upto fnExactDeclOkSpec)) fnExactDeclOkUptoCard

/-- THE SECOND FORM's CARD OF 'laws.FnExactStoreOk'. -/
def fnExactStoreOkUptoCard : Claim7 := { stood := { row := fnExactStoreOkUptoRow, standIns := [], harness := (true, "a52b3f81eda099e53a9fc3571a88371573c7b59bdc4d014ac59284a0bb901f5e"), looks := false }, kinds := [], alts := [], laidByText := true, laidKinds := [.data], laidTests := true, laidLooks := .later }
def FnExactStoreOkUptoCardSaid : Prop := Claim7.holds Tryd.pinned (.plain (OpenSpec.upto fnExactStoreOkSpec)) fnExactStoreOkUptoCard

/-- THE SECOND FORM's CARD OF 'laws.FnExactEnvOk'. -/
def fnExactEnvOkUptoCard : Claim7 := { stood := { row := fnExactEnvOkUptoRow, standIns := [], harness := (true, "a52b3f81eda099e53a9fc3571a88371573c7b59bdc4d014ac59284a0bb901f5e"), looks := false }, kinds := [], alts := [], laidByText := true, laidKinds := [.data], laidTests := true, laidLooks := .later }
def FnExactEnvOkUptoCardSaid : Prop := Claim7.holds Tryd.pinned (.plain (OpenSpec.upto fnExactEnvOkSpec)) fnExactEnvOkUptoCard
end Rows
end Go.Proofs.YtflilojcedjfdaaDoor
