/-
  DERIVED. GIVEN WITH THE SEED: THE CARDS: each row of YthbpmkfegceigaaDoorRows.lean that lists a variable, with what it lists TIED to the program's text (the seventh form; the later family's looks); each row that meets fmt, with fmt's text TOLD by the authors' own Lean function (tested against real Go, not proved from fmt's source: count such statements apart). THE CARD IS WHAT COUNTS. Prove the row's statement (the work); the ties are given (YthbpmkfegceigaaDoorTie.lean); close each card by the builder's one call (the guide's Derived/Test/ToyasCard.lean, 'card_holds'). Laid BY PROGRAM, IN A SANDBOX (cutbox-door.mjs). By AI agents, Wed Nov 11 2026. No macro, syntax, notation, axiom, sorry.
-/
import Derived.Test.YthbpmkfegceigaaDoorRows
import GoSem.ClaimSeven
namespace Go.Proofs.YthbpmkfegceigaaDoor
namespace Rows

/-- THE TIED CARD OF 'laws.FnExactEnvHas'. -/
def fnExactEnvHasCard : Claim7 := { stood := { row := fnExactEnvHasRow, standIns := [], harness := (true, "1b9dd8cba05e00d5a92f0390a5d447e46d5b09245f8fbc7a752ab66136511e42"), looks := false }, kinds := [], alts := [], laidByText := true, laidKinds := [.data], laidTests := true, laidLooks := .later }
def FnExactEnvHasCardSaid : Prop := Claim7.holds Tryd.pinned (.plain (OpenSpec.ofChange fnExactEnvHasSpec)) fnExactEnvHasCard

/-- THE TIED CARD OF 'laws.FnExactEnvLeq'. -/
def fnExactEnvLeqCard : Claim7 := { stood := { row := fnExactEnvLeqRow, standIns := [], harness := (true, "1b9dd8cba05e00d5a92f0390a5d447e46d5b09245f8fbc7a752ab66136511e42"), looks := false }, kinds := [], alts := [], laidByText := true, laidKinds := [.data], laidTests := true, laidLooks := .later }
def FnExactEnvLeqCardSaid : Prop := Claim7.holds Tryd.pinned (.plain (OpenSpec.ofChange fnExactEnvLeqSpec)) fnExactEnvLeqCard

/-- THE TIED CARD OF 'laws.FnExactEnvJoin'. -/
def fnExactEnvJoinCard : Claim7 := { stood := { row := fnExactEnvJoinRow, standIns := [], harness := (true, "1b9dd8cba05e00d5a92f0390a5d447e46d5b09245f8fbc7a752ab66136511e42"), looks := false }, kinds := [], alts := [], laidByText := true, laidKinds := [.data], laidTests := true, laidLooks := .later }
def FnExactEnvJoinCardSaid : Prop := Claim7.holds Tryd.pinned (.plain (OpenSpec.ofChange fnExactEnvJoinSpec)) fnExactEnvJoinCard

/-- THE TIED CARD OF 'laws.FnExactEnvMeet'. -/
def fnExactEnvMeetCard : Claim7 := { stood := { row := fnExactEnvMeetRow, standIns := [], harness := (true, "1b9dd8cba05e00d5a92f0390a5d447e46d5b09245f8fbc7a752ab66136511e42"), looks := false }, kinds := [], alts := [], laidByText := true, laidKinds := [.data], laidTests := true, laidLooks := .later }
def FnExactEnvMeetCardSaid : Prop := Claim7.holds Tryd.pinned (.plain (OpenSpec.ofChange fnExactEnvMeetSpec)) fnExactEnvMeetCard

/-- THE TIED CARD OF 'laws.FnExactEnvSet'. -/
def fnExactEnvSetCard : Claim7 := { stood := { row := fnExactEnvSetRow, standIns := [], harness := (true, "1b9dd8cba05e00d5a92f0390a5d447e46d5b09245f8fbc7a752ab66136511e42"), looks := false }, kinds := [], alts := [], laidByText := true, laidKinds := [.data], laidTests := true, laidLooks := .later }
def FnExactEnvSetCardSaid : Prop := Claim7.holds Tryd.pinned (.plain (OpenSpec.ofChange fnExactEnvSetSpec)) fnExactEnvSetCard

/-- THE SECOND FORM's CARD OF 'laws.FnExactEnvHas'. -/
def fnExactEnvHasUptoCard : Claim7 := { stood := { row := fnExactEnvHasUptoRow, standIns := [], harness := (true, "1b9dd8cba05e00d5a92f0390a5d447e46d5b09245f8fbc7a752ab66136511e42"), looks := false }, kinds := [], alts := [], laidByText := true, laidKinds := [.data], laidTests := true, laidLooks := .later }
def FnExactEnvHasUptoCardSaid : Prop := Claim7.holds Tryd.pinned (.plain (OpenSpec.upto fnExactEnvHasSpec)) fnExactEnvHasUptoCard

/-- THE SECOND FORM's CARD OF 'laws.FnExactEnvLeq'. -/
def fnExactEnvLeqUptoCard : Claim7 := { stood := { row := fnExactEnvLeqUptoRow, standIns := [], harness := (true, "1b9dd8cba05e00d5a92f0390a5d447e46d5b09245f8fbc7a752ab66136511e42"), looks := false }, kinds := [], alts := [], laidByText := true, laidKinds := [.data], laidTests := true, laidLooks := .later }
def FnExactEnvLeqUptoCardSaid : Prop := Claim7.holds Tryd.pinned (.plain (OpenSpec.upto fnExactEnvLeqSpec)) fnExactEnvLeqUptoCard

/-- THE SECOND FORM's CARD OF 'laws.FnExactEnvJoin'. -/
def fnExactEnvJoinUptoCard : Claim7 := { stood := { row := fnExactEnvJoinUptoRow, standIns := [], harness := (true, "1b9dd8cba05e00d5a92f0390a5d447e46d5b09245f8fbc7a752ab66136511e42"), looks := false }, kinds := [], alts := [], laidByText := true, laidKinds := [.data], laidTests := true, laidLooks := .later }
def FnExactEnvJoinUptoCardSaid : Prop := Claim7.holds Tryd.pinned (.plain (OpenSpec.upto fnExactEnvJoinSpec)) fnExactEnvJoinUptoCard

/-- THE SECOND FORM's CARD OF 'laws.FnExactEnvMeet'. -/
def fnExactEnvMeetUptoCard : Claim7 := { stood := { row := fnExactEnvMeetUptoRow, standIns := [], harness := (true, "1b9dd8cba05e00d5a92f0390a5d447e46d5b09245f8fbc7a752ab66136511e42"), looks := false }, kinds := [], alts := [], laidByText := true, laidKinds := [.data], laidTests := true, laidLooks := .later }
def FnExactEnvMeetUptoCardSaid : Prop := Claim7.holds Tryd.pinned (.plain (OpenSpec.upto fnExactEnvMeetSpec)) fnExactEnvMeetUptoCard

/-- THE SECOND FORM's CARD OF 'laws.FnExactEnvSet'. -/
def fnExactEnvSetUptoCard : Claim7 := { stood := { row := fnExactEnvSetUptoRow, standIns := [], harness := (true, "1b9dd8cba05e00d5a92f0390a5d447e46d5b09245f8fbc7a752ab66136511e42"), looks := false }, kinds := [], alts := [], laidByText := true, laidKinds := [.data], laidTests := true, laidLooks := .later }
def FnExactEnvSetUptoCardSaid : Prop := Claim7.holds Tryd.pinned (.plain (OpenSpec.upto fnExactEnvSetSpec)) fnExactEnvSetUptoCard
end Rows
end Go.Proofs.YthbpmkfegceigaaDoor
