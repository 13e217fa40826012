/-
  DERIVED. GIVEN WITH THE SEED: THE CARDS: each row of YtcjefmeadnmbhaaDoorRows.lean that lists a variable, with what it lists TIED to the program's text (the seventh form; the later family's looks); each row that meets fmt, with fmt's text TOLD by the authors' own Lean function (tested against real Go, not proved from fmt's source: count such statements apart). THE CARD IS WHAT COUNTS. Prove the row's statement (the work); the ties are given (YtcjefmeadnmbhaaDoorTie.lean); close each card by the builder's one call (the guide's Derived/Test/ToyasCard.lean, 'card_holds'). Laid BY PROGRAM, IN A SANDBOX (cutbox-door.mjs). By AI agents, Wed Nov 11 2026. No macro, syntax, notation, axiom, sorry.
-/
import Derived.Test.YtcjefmeadnmbhaaDoorRows
import GoSem.ClaimSeven
namespace Go.Proofs.YtcjefmeadnmbhaaDoor
namespace Rows

/-- THE TIED CARD OF 'laws.FnExactEnvHas'. -/
def fnExactEnvHasCard : Claim7 := { stood := { row := fnExactEnvHasRow, standIns := [], harness := (true, "1a80f25e7aa82e7428183484edb5e27065697b77eae12369a04019aadc2561af"), looks := false }, kinds := [], alts := [], laidByText := true, laidKinds := [.data], laidTests := true, laidLooks := .later }
def FnExactEnvHasCardSaid : Prop := Claim7.holds Tryd.pinned (.plain (OpenSpec.ofChange fnExactEnvHasSpec)) fnExactEnvHasCard

/-- THE TIED CARD OF 'laws.FnExactTableJoin'. -/
def fnExactTableJoinCard : Claim7 := { stood := { row := fnExactTableJoinRow, standIns := [], harness := (true, "1a80f25e7aa82e7428183484edb5e27065697b77eae12369a04019aadc2561af"), looks := false }, kinds := [], alts := [], laidByText := true, laidKinds := [.data], laidTests := true, laidLooks := .later }
def FnExactTableJoinCardSaid : Prop := Claim7.holds Tryd.pinned (.plain (OpenSpec.ofChange fnExactTableJoinSpec)) fnExactTableJoinCard

/-- THE TIED CARD OF 'laws.FnExactTableWiden'. -/
def fnExactTableWidenCard : Claim7 := { stood := { row := fnExactTableWidenRow, standIns := [], harness := (true, "1a80f25e7aa82e7428183484edb5e27065697b77eae12369a04019aadc2561af"), looks := false }, kinds := [], alts := [], laidByText := true, laidKinds := [.data], laidTests := true, laidLooks := .later }
def FnExactTableWidenCardSaid : Prop := Claim7.holds Tryd.pinned (.plain (OpenSpec.ofChange fnExactTableWidenSpec)) fnExactTableWidenCard

/-- THE SECOND FORM's CARD OF 'laws.FnExactEnvHas'. -/
def fnExactEnvHasUptoCard : Claim7 := { stood := { row := fnExactEnvHasUptoRow, standIns := [], harness := (true, "1a80f25e7aa82e7428183484edb5e27065697b77eae12369a04019aadc2561af"), looks := false }, kinds := [], alts := [], laidByText := true, laidKinds := [.data], laidTests := true, laidLooks := .later }
def FnExactEnvHasUptoCardSaid : Prop := Claim7.holds Tryd.pinned (.plain (OpenSpec.upto fnExactEnvHasSpec)) fnExactEnvHasUptoCard

/-- THE SECOND FORM's CARD OF 'laws.FnExactTableJoin'. -/
def fnExactTableJoinUptoCard : Claim7 := { stood := { row := fnExactTableJoinUptoRow, standIns := [], harness := (true, "1a80f25e7aa82e7428183484edb5e27065697b77eae12369a04019aadc2561af"), looks := false }, kinds := [], alts := [], laidByText := true, laidKinds := [.data], laidTests := true, laidLooks := .later }
def FnExactTableJoinUptoCardSaid : Prop := Claim7.holds Tryd.pinned (.plain (OpenSpec.upto fnExactTableJoinSpec)) fnExactTableJoinUptoCard

/-- THE SECOND FORM's CARD OF 'laws.FnExactTableWiden'. -/
def fnExactTableWidenUptoCard : Claim7 := { stood := { row := fnExactTableWidenUptoRow, standIns := [], harness := (true, "1a80f25e7aa82e7428183484edb5e27065697b77eae12369a04019aadc2561af"), looks := false }, kinds := [], alts := [], laidByText := true, laidKinds := [.data], laidTests := true, laidLooks := .later }
def FnExactTableWidenUptoCardSaid : Prop := Claim7.holds Tryd.pinned (.plain (OpenSpec.upto fnExactTableWidenSpec)) fnExactTableWidenUptoCard
end Rows
end Go.Proofs.YtcjefmeadnmbhaaDoor
