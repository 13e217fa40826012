/-
  DERIVED. GIVEN WITH THE SEED: THE CARDS: each row of YtpdnnpnclgcpoaaDoorRows.lean that lists a variable, with what it lists TIED to the program's text (the seventh form; the later family's looks); each row that meets fmt, with fmt's text TOLD by the authors' own Lean function (tested against real Go, not proved from fmt's source: count such statements apart). THE CARD IS WHAT COUNTS. Prove the row's statement (the work); the ties are given (YtpdnnpnclgcpoaaDoorTie.lean); close each card by the builder's one call (the guide's Derived/Test/ToyasCard.lean, 'card_holds'). Laid BY PROGRAM, IN A SANDBOX (cutbox-door.mjs). By AI agents, Wed Nov 11 2026. No macro, syntax, notation, axiom, sorry.
-/
import Derived.Test.YtpdnnpnclgcpoaaDoorRows
import GoSem.ClaimSeven
namespace Go.Proofs.YtpdnnpnclgcpoaaDoor
namespace Rows

/-- THE TIED CARD OF 'laws.FnTableHas'. -/
def fnTableHasCard : Claim7 := { stood := { row := fnTableHasRow, standIns := [], harness := (true, "e5131ce8aebc395d2afe7f7fd61ed3706369049e5738aa4af046d1c80d272ab7"), looks := false }, kinds := [], alts := [], laidByText := true, laidKinds := [.data], laidTests := true, laidLooks := .later }
def FnTableHasCardSaid : Prop := Claim7.holds Tryd.pinned (.plain (OpenSpec.ofChange fnTableHasSpec)) fnTableHasCard

/-- THE TIED CARD OF 'laws.FnTableOrder'. -/
def fnTableOrderCard : Claim7 := { stood := { row := fnTableOrderRow, standIns := [], harness := (true, "e5131ce8aebc395d2afe7f7fd61ed3706369049e5738aa4af046d1c80d272ab7"), looks := false }, kinds := [], alts := [], laidByText := true, laidKinds := [.data], laidTests := true, laidLooks := .later }
def FnTableOrderCardSaid : Prop := Claim7.holds Tryd.pinned (.plain (OpenSpec.ofChange fnTableOrderSpec)) fnTableOrderCard

/-- THE TIED CARD OF 'laws.FnStoreTexts'. -/
def fnStoreTextsCard : Claim7 := { stood := { row := fnStoreTextsRow, standIns := [], harness := (true, "e5131ce8aebc395d2afe7f7fd61ed3706369049e5738aa4af046d1c80d272ab7"), looks := false }, kinds := [], alts := [], laidByText := true, laidKinds := [.data, .data, .data, .data], laidTests := true, laidLooks := .later }
def FnStoreTextsCardSaid : Prop := Claim7.holds Tryd.pinned (.plain (OpenSpec.ofChange fnStoreTextsSpec)) fnStoreTextsCard

/-- THE SECOND FORM's CARD OF 'laws.FnTableHas'. -/
def fnTableHasUptoCard : Claim7 := { stood := { row := fnTableHasUptoRow, standIns := [], harness := (true, "e5131ce8aebc395d2afe7f7fd61ed3706369049e5738aa4af046d1c80d272ab7"), looks := false }, kinds := [], alts := [], laidByText := true, laidKinds := [.data], laidTests := true, laidLooks := .later }
def FnTableHasUptoCardSaid : Prop := Claim7.holds Tryd.pinned (.plain (OpenSpec.upto fnTableHasSpec)) fnTableHasUptoCard

/-- THE SECOND FORM's CARD OF 'laws.FnTableOrder'. -/
def fnTableOrderUptoCard : Claim7 := { stood := { row := fnTableOrderUptoRow, standIns := [], harness := (true, "e5131ce8aebc395d2afe7f7fd61ed3706369049e5738aa4af046d1c80d272ab7"), looks := false }, kinds := [], alts := [], laidByText := true, laidKinds := [.data], laidTests := true, laidLooks := .later }
def FnTableOrderUptoCardSaid : Prop := Claim7.holds Tryd.pinned (.plain (OpenSpec.upto fnTableOrderSpec)) fnTableOrderUptoCard

/-- THE SECOND FORM's CARD OF 'laws.FnStoreTexts'. -/
def fnStoreTextsUptoCard : Claim7 := { stood := { row := fnStoreTextsUptoRow, standIns := [], harness := (true, "e5131ce8aebc395d2afe7f7fd61ed3706369049e5738aa4af046d1c80d272ab7"), looks := false }, kinds := [], alts := [], laidByText := true, laidKinds := [.data, .data, .data, .data], laidTests := true, laidLooks := .later }
def FnStoreTextsUptoCardSaid : Prop := Claim7.holds Tryd.pinned (.plain (OpenSpec.upto fnStoreTextsSpec)) fnStoreTextsUptoCard
end Rows
end Go.Proofs.YtpdnnpnclgcpoaaDoor
