/-
  DERIVED. GIVEN WITH THE SEED: THE CARDS: each row of YtcceeejmppamdaaDoorRows.lean that lists a variable, with what it lists TIED to the program's text (the seventh form; the later family's looks); each row that meets fmt, with fmt's text TOLD by the authors' own Lean function (tested against real Go, not proved from fmt's source: count such statements apart). THE CARD IS WHAT COUNTS. Prove the row's statement (the work); the ties are given (YtcceeejmppamdaaDoorTie.lean); close each card by the builder's one call (the guide's Derived/Test/ToyasCard.lean, 'card_holds'). Laid BY PROGRAM, IN A SANDBOX (cutbox-door.mjs). By AI agents, Wed Nov 11 2026. No macro, syntax, notation, axiom, sorry.
-/
import Derived.Test.YtcceeejmppamdaaDoorRows
import GoSem.ClaimSeven
namespace Go.Proofs.YtcceeejmppamdaaDoor
namespace Rows

/-- THE TIED CARD OF 'laws.FnExactEnvText'. -/
def fnExactEnvTextCard : Claim7 := { stood := { row := fnExactEnvTextRow, standIns := [], harness := (true, "5dfcff2e8d243cf53528f50cdd1932aee6d724bcb7bad71846752dc5f29ad0be"), looks := false }, kinds := [], alts := [], laidByText := true, laidKinds := [.data, .data, .data, .data], laidTests := true, laidLooks := .later }
def FnExactEnvTextCardSaid : Prop := Claim7.holds Tryd.pinned (.plain (OpenSpec.ofChange fnExactEnvTextSpec)) fnExactEnvTextCard

/-- THE TIED CARD OF 'laws.FnExactStoreText'. -/
def fnExactStoreTextCard : Claim7 := { stood := { row := fnExactStoreTextRow, standIns := [], harness := (true, "5dfcff2e8d243cf53528f50cdd1932aee6d724bcb7bad71846752dc5f29ad0be"), looks := false }, kinds := [], alts := [], laidByText := true, laidKinds := [.data, .data, .data, .data], laidTests := true, laidLooks := .later }
def FnExactStoreTextCardSaid : Prop := Claim7.holds Tryd.pinned (.plain (OpenSpec.ofChange fnExactStoreTextSpec)) fnExactStoreTextCard

/-- THE SECOND FORM's CARD OF 'laws.FnExactEnvText'. -/
def fnExactEnvTextUptoCard : Claim7 := { stood := { row := fnExactEnvTextUptoRow, standIns := [], harness := (true, "5dfcff2e8d243cf53528f50cdd1932aee6d724bcb7bad71846752dc5f29ad0be"), looks := false }, kinds := [], alts := [], laidByText := true, laidKinds := [.data, .data, .data, .data], laidTests := true, laidLooks := .later }
def FnExactEnvTextUptoCardSaid : Prop := Claim7.holds Tryd.pinned (.plain (OpenSpec.upto fnExactEnvTextSpec)) fnExactEnvTextUptoCard

/-- THE SECOND FORM's CARD OF 'laws.FnExactStoreText'. -/
def fnExactStoreTextUptoCard : Claim7 := { stood := { row := fnExactStoreTextUptoRow, standIns := [], harness := (true, "5dfcff2e8d243cf53528f50cdd1932aee6d724bcb7bad71846752dc5f29ad0be"), looks := false }, kinds := [], alts := [], laidByText := true, laidKinds := [.data, .data, .data, .data], laidTests := true, laidLooks := .later }
def FnExactStoreTextUptoCardSaid : Prop := Claim7.holds Tryd.pinned (.plain (OpenSpec.upto fnExactStoreTextSpec)) fnExactStoreTextUptoCard
end Rows
end Go.Proofs.YtcceeejmppamdaaDoor
