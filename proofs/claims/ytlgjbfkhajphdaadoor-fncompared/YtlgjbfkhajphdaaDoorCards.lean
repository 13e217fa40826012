/-
  DERIVED. GIVEN WITH THE SEED: THE CARDS: each row of YtlgjbfkhajphdaaDoorRows.lean that lists a variable, with what it lists TIED to the program's text (the seventh form; the later family's looks); each row that meets fmt, with fmt's text TOLD by the authors' own Lean function (tested against real Go, not proved from fmt's source: count such statements apart). THE CARD IS WHAT COUNTS. Prove the row's statement (the work); the ties are given (YtlgjbfkhajphdaaDoorTie.lean); close each card by the builder's one call (the guide's Derived/Test/ToyasCard.lean, 'card_holds'). Laid BY PROGRAM, IN A SANDBOX (cutbox-door.mjs). By AI agents, Wed Nov 11 2026. No macro, syntax, notation, axiom, sorry.
-/
import Derived.Test.YtlgjbfkhajphdaaDoorRows
import GoSem.ClaimSeven
namespace Go.Proofs.YtlgjbfkhajphdaaDoor
namespace Rows

/-- THE TIED CARD OF 'laws.FnCompared'. -/
def fnComparedCard : Claim7 := { stood := { row := fnComparedRow, standIns := [], harness := (true, "d7be480669a750b4ae98288f29525b064348784fd2961c9e896876bab38b890f"), looks := false }, kinds := [], alts := [], laidByText := true, laidKinds := [.data], laidTests := true, laidLooks := .later }
def FnComparedCardSaid : Prop := Claim7.holds Tryd.pinned (.plain (OpenSpec.ofChange fnComparedSpec)) fnComparedCard

/-- THE TIED CARD OF 'laws.FnExactIvCompare'. -/
def fnExactIvCompareCard : Claim7 := { stood := { row := fnExactIvCompareRow, standIns := [], harness := (true, "d7be480669a750b4ae98288f29525b064348784fd2961c9e896876bab38b890f"), looks := false }, kinds := [], alts := [], laidByText := true, laidKinds := [.data], laidTests := true, laidLooks := .later }
def FnExactIvCompareCardSaid : Prop := Claim7.holds Tryd.pinned (.plain (OpenSpec.ofChange fnExactIvCompareSpec)) fnExactIvCompareCard

/-- THE SECOND FORM's CARD OF 'laws.FnCompared'. -/
def fnComparedUptoCard : Claim7 := { stood := { row := fnComparedUptoRow, standIns := [], harness := (true, "d7be480669a750b4ae98288f29525b064348784fd2961c9e896876bab38b890f"), looks := false }, kinds := [], alts := [], laidByText := true, laidKinds := [.data], laidTests := true, laidLooks := .later }
def FnComparedUptoCardSaid : Prop := Claim7.holds Tryd.pinned (.plain (OpenSpec.upto fnComparedSpec)) fnComparedUptoCard

/-- THE SECOND FORM's CARD OF 'laws.FnExactIvCompare'. -/
def fnExactIvCompareUptoCard : Claim7 := { stood := { row := fnExactIvCompareUptoRow, standIns := [], harness := (true, "d7be480669a750b4ae98288f29525b064348784fd2961c9e896876bab38b890f"), looks := false }, kinds := [], alts := [], laidByText := true, laidKinds := [.data], laidTests := true, laidLooks := .later }
def FnExactIvCompareUptoCardSaid : Prop := Claim7.holds Tryd.pinned (.plain (OpenSpec.upto fnExactIvCompareSpec)) fnExactIvCompareUptoCard
end Rows
end Go.Proofs.YtlgjbfkhajphdaaDoor
