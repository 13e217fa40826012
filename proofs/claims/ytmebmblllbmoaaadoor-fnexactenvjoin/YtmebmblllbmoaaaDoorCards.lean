/-
  DERIVED. GIVEN WITH THE SEED: THE CARDS: each row of YtmebmblllbmoaaaDoorRows.lean that lists a variable, with what it lists TIED to the program's text (the seventh form; the later family's looks); each row that meets fmt, with fmt's text TOLD by the authors' own Lean function (tested against real Go, not proved from fmt's source: count such statements apart). THE CARD IS WHAT COUNTS. Prove the row's statement (the work); the ties are given (YtmebmblllbmoaaaDoorTie.lean); close each card by the builder's one call (the guide's Derived/Test/ToyasCard.lean, 'card_holds'). Laid BY PROGRAM, IN A SANDBOX (cutbox-door.mjs). By AI agents, Wed Nov 11 2026. No macro, syntax, notation, axiom, sorry.
-/
import Derived.Test.YtmebmblllbmoaaaDoorRows
import GoSem.ClaimSeven
namespace Go.Proofs.YtmebmblllbmoaaaDoor
namespace Rows

/-- THE TIED CARD OF 'laws.FnExactEnvHas'. -/
def fnExactEnvHasCard : Claim7 := { stood := { row := fnExactEnvHasRow, standIns := [], harness := (true, "7ae4c48f463277a9e2e4800966eb33c97b66a6e1cfebf75e95c4bbe4b32fa401"), looks := false }, kinds := [], alts := [], laidByText := true, laidKinds := [.data], laidTests := true, laidLooks := .later }
def FnExactEnvHasCardSaid : Prop := Claim7.holds Tryd.pinned (.plain (OpenSpec.ofChange fnExactEnvHasSpec)) fnExactEnvHasCard

/-- THE TIED CARD OF 'laws.FnExactEnvJoin'. -/
def fnExactEnvJoinCard : Claim7 := { stood := { row := fnExactEnvJoinRow, standIns := [], harness := (true, "7ae4c48f463277a9e2e4800966eb33c97b66a6e1cfebf75e95c4bbe4b32fa401"), looks := false }, kinds := [], alts := [], laidByText := true, laidKinds := [.data], laidTests := true, laidLooks := .later }
def FnExactEnvJoinCardSaid : Prop := Claim7.holds Tryd.pinned (.plain (OpenSpec.ofChange fnExactEnvJoinSpec)) fnExactEnvJoinCard

/-- THE TIED CARD OF 'laws.FnExactEnvMeet'. -/
def fnExactEnvMeetCard : Claim7 := { stood := { row := fnExactEnvMeetRow, standIns := [], harness := (true, "7ae4c48f463277a9e2e4800966eb33c97b66a6e1cfebf75e95c4bbe4b32fa401"), looks := false }, kinds := [], alts := [], laidByText := true, laidKinds := [.data], laidTests := true, laidLooks := .later }
def FnExactEnvMeetCardSaid : Prop := Claim7.holds Tryd.pinned (.plain (OpenSpec.ofChange fnExactEnvMeetSpec)) fnExactEnvMeetCard

/-- THE SECOND FORM's CARD OF 'laws.FnExactEnvHas'. -/
def fnExactEnvHasUptoCard : Claim7 := { stood := { row := fnExactEnvHasUptoRow, standIns := [], harness := (true, "7ae4c48f463277a9e2e4800966eb33c97b66a6e1cfebf75e95c4bbe4b32fa401"), looks := false }, kinds := [], alts := [], laidByText := true, laidKinds := [.data], laidTests := true, laidLooks := .later }
def FnExactEnvHasUptoCardSaid : Prop := Claim7.holds Tryd.pinned (.plain (OpenSpec.upto fnExactEnvHasSpec)) fnExactEnvHasUptoCard

/-- THE SECOND FORM's CARD OF 'laws.FnExactEnvJoin'. -/
def fnExactEnvJoinUptoCard : Claim7 := { stood := { row := fnExactEnvJoinUptoRow, standIns := [], harness := (true, "7ae4c48f463277a9e2e4800966eb33c97b66a6e1cfebf75e95c4bbe4b32fa401"), looks := false }, kinds := [], alts := [], laidByText := true, laidKinds := [.data], laidTests := true, laidLooks := .later }
def FnExactEnvJoinUptoCardSaid : Prop := Claim7.holds Tryd.pinned (.plain (OpenSpec.upto fnExactEnvJoinSpec)) fnExactEnvJoinUptoCard

/-- THE SECOND FORM's CARD OF 'laws.FnExactEnvMeet'. -/
def fnExactEnvMeetUptoCard : Claim7 := { stood := { row := fnExactEnvMeetUptoRow, standIns := [], harness := (true, "7ae4c48f463277a9e2e4800966eb33c97b66a6e1cfebf75e95c4bbe4b32fa401"), looks := false }, kinds := [], alts := [], laidByText := true, laidKinds := [.data], laidTests := true, laidLooks := .later }
def FnExactEnvMeetUptoCardSaid : Prop := Claim7.holds Tryd.pinned (.plain (OpenSpec.upto fnExactEnvMeetSpec)) fnExactEnvMeetUptoCard
end Rows
end Go.Proofs.YtmebmblllbmoaaaDoor
