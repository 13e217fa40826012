/-
  NARROWER THAN 'FOR EVERY INPUT', by the rows' own cells (each row's printed sentence says how): FnExactPartsHas: laid.
  DERIVED. THE GIVEN ROWS OF THIS SEAT. 1 by the template 'for every input the law returns true; each argument reads behind the call as it read before'; 0 by the template 'total and deterministic' (their statements: YthldhjifnpfmiaaGreatDoorTotals.lean).
  GIVEN WITH THE SEED: the statements are not yours to turn. If you find one false, say at which input.
  Laid BY PROGRAM, IN A SANDBOX (cutbox-rows.mjs): the forced cells as the released guide's own fill.sh prints them over the translation e8059eac6d9d32b3… (all of the seat's roots in one cut). By AI agents, Wed Nov 11 2026. No macro, syntax, notation, axiom, sorry.
-/
import Derived.Test.YthldhjifnpfmiaaGreatDoorChecked
import GoSem.Claim
import GoSem.ClaimJoined
import GoSem.ClaimMapViews
import Derived.JoinedTies
import Derived.KernelRfl
namespace Go.Proofs.YthldhjifnpfmiaaGreatDoor
/- THE CELL 'sum', in the pinned program and in every row, IS THE sha256 OF THE DUMP (.gsa) THAT YthldhjifnpfmiaaGreatDoorProg.lean LOADS. Nothing in Lean hashes anything: it is a label: what it is worth is what the hold of that sum in a sandbox is worth. -/
noncomputable def Tryz.pinned : Pinned := { name := "ythldhjifnpfmiaagreatdoor", sum := "e8059eac6d9d32b3b11df9d8360862a3d74d130ed020c53a4e6f302a118ed85d", checked := Tryz.checked }
namespace Rows
def none {H : Type} : Left H := { results := [], args := [] }

/- WHAT THE LISTED PACKAGE-LEVEL VARIABLES READ AS WHEN THE CALL BEGINS. Each datum BY PROGRAM (the guide's laid-datum.mjs) off the statement by which the dump's own 'gosem.cut.vars' lays the variable. In a bare row this is a premise. The card (YthldhjifnpfmiaaGreatDoorCards.lean) ties it to the program's text. -/
def laid_loop_example_g00719_impl_keywords {H : Type} : DataW H := .agg [.lit (.string [118, 97, 114]), .lit (.string [102, 108, 97, 103]), .lit (.string [97, 114, 114, 97, 121]), .lit (.string [105, 102]), .lit (.string [102, 111, 114, 107]), .lit (.string [101, 108, 115, 101]), .lit (.string [101, 110, 100]), .lit (.string [119, 104, 105, 108, 101]), .lit (.string [117, 110, 114, 111, 108, 108]), .lit (.string [97, 115, 115, 101, 114, 116]), .lit (.string [97, 115, 115, 117, 109, 101]), .lit (.string [105, 110, 112, 117, 116]), .lit (.string [115, 112, 108, 105, 116]), .lit (.string [109, 101, 114, 103, 101]), .lit (.string [116, 114, 117, 101]), .lit (.string [102, 97, 108, 115, 101])]

/-- 'laws.FnExactPartsHas': WHATEVER THE INPUT: true; the input reads as it did. -/
def fnExactPartsHasSpec : ChangeSpec := { name := "fnExactPartsHas", vars := ["loop.example/g00719/impl.keywords"], fn := fun _ => fun
  | [d1, d2, d3, d4, g1] => { results := [.lit (.bool true)], args := [d1, d2, d3, d4], vars := [g1] }
  | _ => none }
def fnExactPartsHasRow : OpenClaim := { program := "ythldhjifnpfmiaagreatdoor", sum := "e8059eac6d9d32b3b11df9d8360862a3d74d130ed020c53a4e6f302a118ed85d", func := "loop.example/g00719/laws.FnExactPartsHas", spec := "fnExactPartsHas", unfollowed := true, recurses := true, named := ["loop.example/g00719/impl.keywords"], plainKeys := false, apart := false, laid := [("loop.example/g00719/impl.keywords", laid_loop_example_g00719_impl_keywords)] }
def FnExactPartsHasSaid : Prop := fnExactPartsHasRow.holds Tryz.pinned (OpenSpec.ofChange fnExactPartsHasSpec)

/-- ITS FALSE NEIGHBOUR: 'it returns false'. Refute it at one input. -/
def fnExactPartsHasWrong : ChangeSpec := { name := "fnExactPartsHas", vars := ["loop.example/g00719/impl.keywords"], fn := fun _ => fun
  | [d1, d2, d3, d4, g1] => { results := [.lit (.bool false)], args := [d1, d2, d3, d4], vars := [g1] }
  | _ => none }
def FnExactPartsHasWrongFalsely : Prop := fnExactPartsHasRow.holds Tryz.pinned (OpenSpec.ofChange fnExactPartsHasWrong)

/- THE SECOND FORM. 'bulk': how many values and letters a reading holds, each counted each time it is reached (what is shared counts as often as it is met; a slice's spare places count too). A statement '..UptoSaid' is the law's where the arguments, and the package variables that the reading takes, are together of bulk at most 1048576: NARROWER than '..Said'. Prove '..Said' where nothing that the law and all that it calls make is longer than what came in: it says more and counts as full. Else prove '..UptoSaid'. A law counts once. -/
mutual
def uptoBulk {H : Type} : DataW H → Nat
  | .lit (.string bytes) => bytes.length + 1
  | .lit _ => 1
  | .nil => 1
  | .ptr d => uptoBulk d + 1
  | .slice elems spare => uptoBulkAll elems + uptoBulkAll spare + 1
  | .agg parts => uptoBulkAll parts + 1
  | .iface _ d => uptoBulk d + 1
  | .map entries => uptoBulkEntries entries + 1
  | .held _ => 1
def uptoBulkAll {H : Type} : List (DataW H) → Nat
  | [] => 0
  | d :: r => uptoBulk d + uptoBulkAll r
def uptoBulkEntries {H : Type} : List (Lit × DataW H) → Nat
  | [] => 0
  | x :: r => uptoBulkEntry x + uptoBulkEntries r
def uptoBulkEntry {H : Type} : Lit × DataW H → Nat
  | (.string bytes, d) => bytes.length + uptoBulk d + 1
  | (_, d) => uptoBulk d + 1
 end
def uptoSmall : (H : Type) → List (DataW H) → Bool := fun _ ds => decide (uptoBulkAll ds ≤ 1048576)
def OpenSpec.upto (s : _root_.Go.ChangeSpec) : _root_.Go.OpenSpec := { _root_.Go.OpenSpec.ofChange s with cond := some uptoSmall }

/-- 'laws.FnExactPartsHas', WHERE WHAT IT READS IS OF BULK AT MOST 1048576: true; the input reads as it did. -/
def fnExactPartsHasUptoRow : OpenClaim := { program := "ythldhjifnpfmiaagreatdoor", sum := "e8059eac6d9d32b3b11df9d8360862a3d74d130ed020c53a4e6f302a118ed85d", func := "loop.example/g00719/laws.FnExactPartsHas", spec := "fnExactPartsHas", unfollowed := true, recurses := true, named := ["loop.example/g00719/impl.keywords"], plainKeys := false, apart := false, laid := [("loop.example/g00719/impl.keywords", laid_loop_example_g00719_impl_keywords)], narrowed := true }
def FnExactPartsHasUptoSaid : Prop := fnExactPartsHasUptoRow.holds Tryz.pinned (OpenSpec.upto fnExactPartsHasSpec)

end Rows
end Go.Proofs.YthldhjifnpfmiaaGreatDoor
