/-
  DERIVED. GIVEN WITH THE SEED: THE CARDS: each row of YtgjlbekkifiinaaDoorRows.lean that lists a variable, with what it lists TIED to the program's text (the seventh form; the later family's looks); each row that meets fmt, with fmt's text TOLD by the authors' own Lean function (tested against real Go, not proved from fmt's source: count such statements apart). THE CARD IS WHAT COUNTS. Prove the row's statement (the work); the ties are given (YtgjlbekkifiinaaDoorTie.lean); close each card by the builder's one call (the guide's Derived/Test/ToyasCard.lean, 'card_holds'). Laid BY PROGRAM, IN A SANDBOX (cutbox-door.mjs). By AI agents, Wed Nov 11 2026. No macro, syntax, notation, axiom, sorry.
-/
import Derived.Test.YtgjlbekkifiinaaDoorRows
import GoSem.ClaimSeven
namespace Go.Proofs.YtgjlbekkifiinaaDoor
namespace Rows

/-- THE TIED CARD OF 'laws.FnExactEnvHas'. -/
def fnExactEnvHasCard : Claim7 := { stood := { row := fnExactEnvHasRow, standIns := [], harness := (true, "dbe62e02a112a3e608845f43461693e8ffe9b30c99074f1cb3b874618f14ff4e"), looks := false }, kinds := [], alts := [], laidByText := true, laidKinds := [.data], laidTests := true, laidLooks := .later }
def FnExactEnvHasCardSaid : Prop := Claim7.holds Tryd.pinned (.plain (OpenSpec.ofChange fnExactEnvHasSpec)) fnExactEnvHasCard

/-- THE TIED CARD OF 'laws.FnExactEnvJoin'. -/
def fnExactEnvJoinCard : Claim7 := { stood := { row := fnExactEnvJoinRow, standIns := [], harness := (true, "dbe62e02a112a3e608845f43461693e8ffe9b30c99074f1cb3b874618f14ff4e"), looks := false }, kinds := [], alts := [], laidByText := true, laidKinds := [.data], laidTests := true, laidLooks := .later }
def FnExactEnvJoinCardSaid : Prop := Claim7.holds Tryd.pinned (.plain (OpenSpec.ofChange fnExactEnvJoinSpec)) fnExactEnvJoinCard

/-- THE TIED CARD OF 'laws.FnExactEnvMeet'. -/
def fnExactEnvMeetCard : Claim7 := { stood := { row := fnExactEnvMeetRow, standIns := [], harness := (true, "dbe62e02a112a3e608845f43461693e8ffe9b30c99074f1cb3b874618f14ff4e"), looks := false }, kinds := [], alts := [], laidByText := true, laidKinds := [.data], laidTests := true, laidLooks := .later }
def FnExactEnvMeetCardSaid : Prop := Claim7.holds Tryd.pinned (.plain (OpenSpec.ofChange fnExactEnvMeetSpec)) fnExactEnvMeetCard

/-- THE TIED CARD OF 'laws.FnExactEnvWiden'. -/
def fnExactEnvWidenCard : Claim7 := { stood := { row := fnExactEnvWidenRow, standIns := [], harness := (true, "dbe62e02a112a3e608845f43461693e8ffe9b30c99074f1cb3b874618f14ff4e"), looks := false }, kinds := [], alts := [], laidByText := true, laidKinds := [.data], laidTests := true, laidLooks := .later }
def FnExactEnvWidenCardSaid : Prop := Claim7.holds Tryd.pinned (.plain (OpenSpec.ofChange fnExactEnvWidenSpec)) fnExactEnvWidenCard

/-- THE SECOND FORM's CARD OF 'laws.FnExactEnvHas'. -/
def fnExactEnvHasUptoCard : Claim7 := { stood := { row := fnExactEnvHasUptoRow, standIns := [], harness := (true, "dbe62e02a112a3e608845f43461693e8ffe9b30c99074f1cb3b874618f14ff4e"), looks := false }, kinds := [], alts := [], laidByText := true, laidKinds := [.data], laidTests := true, laidLooks := .later }
def FnExactEnvHasUptoCardSaid : Prop := Claim7.holds Tryd.pinned (.plain (OpenSpec.upto fnExactEnvHasSpec)) fnExactEnvHasUptoCard

/-- THE SECOND FORM's CARD OF 'laws.FnExactEnvJoin'. -/
def fnExactEnvJoinUptoCard : Claim7 := { stood := { row := fnExactEnvJoinUptoRow, standIns := [], harness := (true, "dbe62e02a112a3e608845f43461693e8ffe9b30c99074f1cb3b874618f14ff4e"), looks := false }, kinds := [], alts := [], laidByText := true, laidKinds := [.data], laidTests := true, laidLooks := .later }
def FnExactEnvJoinUptoCardSaid : Prop := Claim7.holds Tryd.pinned (.plain (OpenSpec.upto fnExactEnvJoinSpec)) fnExactEnvJoinUptoCard

/-- THE SECOND FORM's CARD OF 'laws.FnExactEnvMeet'. -/
def fnExactEnvMeetUptoCard : Claim7 := { stood := { row := fnExactEnvMeetUptoRow, standIns := [], harness := (true, "dbe62e02a112a3e608845f43461693e8ffe9b30c99074f1cb3b874618f14ff4e"), looks := false }, kinds := [], alts := [], laidByText := true, laidKinds := [.data], laidTests := true, laidLooks := .later }
def FnExactEnvMeetUptoCardSaid : Prop := Claim7.holds Tryd.pinned (.plain (OpenSpec.upto fnExactEnvMeetSpec)) fnExactEnvMeetUptoCard

/-- THE SECOND FORM's CARD OF 'laws.FnExactEnvWiden'. -/
def fnExactEnvWidenUptoCard : Claim7 := { stood := { row := fnExactEnvWidenUptoRow, standIns := [], harness := (true, "dbe62e02a112a3e608845f43461693e8ffe9b30c99074f1cb3b874618f14ff4e"), looks := false }, kinds := [], alts := [], laidByText := true, laidKinds := [.data], laidTests := true, laidLooks := .later }
def FnExactEnvWidenUptoCardSaid : Prop := Claim7.holds Tryd.pinned (.plain (OpenSpec.upto fnExactEnvWidenSpec)) fnExactEnvWidenUptoCard
end Rows
end Go.Proofs.YtgjlbekkifiinaaDoor
