/-
  NARROWER THAN 'FOR EVERY INPUT', by the rows' own cells (each row's printed sentence says how): FnCompared: laid · FnExactIvCompare: laid.
  DERIVED. THE GIVEN ROWS OF THIS SEAT. 2 by the template 'for every input the law returns true; each argument reads behind the call as it read before'; 0 by the template 'total and deterministic' (their statements: YtlgjbfkhajphdaaDoorTotals.lean).
  GIVEN WITH THE SEED: the statements are not yours to turn. If you find one false, say at which input.
  Laid BY PROGRAM, IN A SANDBOX (cutbox-rows.mjs): the forced cells as the released guide's own fill.sh prints them over the translation 04578710c8a8f659… (all of the seat's roots in one cut). By AI agents, Wed Nov 11 2026. No macro, syntax, notation, axiom, sorry.
-/
import Derived.Test.YtlgjbfkhajphdaaDoorChecked
import GoSem.Claim
import GoSem.ClaimJoined
import GoSem.ClaimMapViews
import Derived.JoinedTies
import Derived.KernelRfl
namespace Go.Proofs.YtlgjbfkhajphdaaDoor
/- THE CELL 'sum', in the pinned program and in every row, IS THE sha256 OF THE DUMP (.gsa) THAT YtlgjbfkhajphdaaDoorProg.lean LOADS. Nothing in Lean hashes anything: it is a label: what it is worth is what the hold of that sum in a sandbox is worth. -/
noncomputable def Tryd.pinned : Pinned := { name := "ytlgjbfkhajphdaadoor", sum := "04578710c8a8f659bef2737436c212e5dd43a3b60e55f390a1c9cd3bbd51b573", checked := Tryd.checked }
namespace Rows
def none {H : Type} : Left H := { results := [], args := [] }

/- WHAT THE LISTED PACKAGE-LEVEL VARIABLES READ AS WHEN THE CALL BEGINS. Each datum BY PROGRAM (the guide's laid-datum.mjs) off the statement by which the dump's own 'gosem.cut.vars' lays the variable. In a bare row this is a premise. The card (YtlgjbfkhajphdaaDoorCards.lean) ties it to the program's text. -/
def laid_loop_example_g00719_impl_opposites {H : Type} : DataW H := .agg [.lit (.int .i64 0), .lit (.int .i64 0), .lit (.int .i64 0), .lit (.int .i64 0), .lit (.int .i64 0), .lit (.int .i64 0), .lit (.int .i64 0), .lit (.int .i64 0), .lit (.int .i64 0), .lit (.int .i64 0), .lit (.int .i64 0), .lit (.int .i64 0), .lit (.int .i64 0), .lit (.int .i64 18), .lit (.int .i64 17), .lit (.int .i64 16), .lit (.int .i64 15), .lit (.int .i64 14), .lit (.int .i64 13)]

/-- 'laws.FnCompared': WHATEVER THE INPUT: true; the input reads as it did. -/
def fnComparedSpec : ChangeSpec := { name := "fnCompared", vars := ["loop.example/g00719/impl.opposites"], fn := fun _ => fun
  | [d, g1] => { results := [.lit (.bool true)], args := [d], vars := [g1] }
  | _ => none }
def fnComparedRow : OpenClaim := { program := "ytlgjbfkhajphdaadoor", sum := "04578710c8a8f659bef2737436c212e5dd43a3b60e55f390a1c9cd3bbd51b573", func := "loop.example/g00719/laws.FnCompared", spec := "fnCompared", named := ["loop.example/g00719/impl.opposites"], apart := false, laid := [("loop.example/g00719/impl.opposites", laid_loop_example_g00719_impl_opposites)] }
def FnComparedSaid : Prop := fnComparedRow.holds Tryd.pinned (OpenSpec.ofChange fnComparedSpec)

/-- ITS FALSE NEIGHBOUR: 'it returns false'. Refute it at one input. -/
def fnComparedWrong : ChangeSpec := { name := "fnCompared", vars := ["loop.example/g00719/impl.opposites"], fn := fun _ => fun
  | [d, g1] => { results := [.lit (.bool false)], args := [d], vars := [g1] }
  | _ => none }
def FnComparedWrongFalsely : Prop := fnComparedRow.holds Tryd.pinned (OpenSpec.ofChange fnComparedWrong)

/-- 'laws.FnExactIvCompare': WHATEVER THE INPUT: true; the input reads as it did. -/
def fnExactIvCompareSpec : ChangeSpec := { name := "fnExactIvCompare", vars := ["loop.example/g00719/impl.opposites"], fn := fun _ => fun
  | [d1, d2, d3, g1] => { results := [.lit (.bool true)], args := [d1, d2, d3], vars := [g1] }
  | _ => none }
def fnExactIvCompareRow : OpenClaim := { program := "ytlgjbfkhajphdaadoor", sum := "04578710c8a8f659bef2737436c212e5dd43a3b60e55f390a1c9cd3bbd51b573", func := "loop.example/g00719/laws.FnExactIvCompare", spec := "fnExactIvCompare", named := ["loop.example/g00719/impl.opposites"], apart := false, laid := [("loop.example/g00719/impl.opposites", laid_loop_example_g00719_impl_opposites)] }
def FnExactIvCompareSaid : Prop := fnExactIvCompareRow.holds Tryd.pinned (OpenSpec.ofChange fnExactIvCompareSpec)

/-- ITS FALSE NEIGHBOUR: 'it returns false'. Refute it at one input. -/
def fnExactIvCompareWrong : ChangeSpec := { name := "fnExactIvCompare", vars := ["loop.example/g00719/impl.opposites"], fn := fun _ => fun
  | [d1, d2, d3, g1] => { results := [.lit (.bool false)], args := [d1, d2, d3], vars := [g1] }
  | _ => none }
def FnExactIvCompareWrongFalsely : Prop := fnExactIvCompareRow.holds Tryd.pinned (OpenSpec.ofChange fnExactIvCompareWrong)

/- THE SECOND FORM. 'bulk': how many values and letters a reading holds, each counted each time it is reached (what is shared counts as often as it is met; a slice's spare places count too). A statement '..UptoSaid' is the law's where the arguments, and the package variables that the reading takes, are together of bulk at most 1048576: NARROWER than '..Said'. Prove '..Said' where nothing that the law and all that it calls make is longer than what came in: it says more and counts as full. Else prove '..UptoSaid'. A law counts once. -/
mutual
def uptoBulk {H : Type} : DataW H → Nat
  | .lit (.string bytes) => bytes.length + 1
  | .lit _ => 1
  | .nil => 1
  | .ptr d => uptoBulk d + 1
  | .slice elems spare => uptoBulkAll elems + uptoBulkAll spare + 1
  | .agg parts => uptoBulkAll parts + 1
  | .iface _ d => uptoBulk d + 1
  | .map entries => uptoBulkEntries entries + 1
  | .held _ => 1
def uptoBulkAll {H : Type} : List (DataW H) → Nat
  | [] => 0
  | d :: r => uptoBulk d + uptoBulkAll r
def uptoBulkEntries {H : Type} : List (Lit × DataW H) → Nat
  | [] => 0
  | x :: r => uptoBulkEntry x + uptoBulkEntries r
def uptoBulkEntry {H : Type} : Lit × DataW H → Nat
  | (.string bytes, d) => bytes.length + uptoBulk d + 1
  | (_, d) => uptoBulk d + 1
 end
def uptoSmall : (H : Type) → List (DataW H) → Bool := fun _ ds => decide (uptoBulkAll ds ≤ 1048576)
def OpenSpec.upto (s : _root_.Go.ChangeSpec) : _root_.Go.OpenSpec := { _root_.Go.OpenSpec.ofChange s with cond := some uptoSmall }

/-- 'laws.FnCompared', WHERE WHAT IT READS IS OF BULK AT MOST 1048576: true; the input reads as it did. -/
def fnComparedUptoRow : OpenClaim := { program := "ytlgjbfkhajphdaadoor", sum := "04578710c8a8f659bef2737436c212e5dd43a3b60e55f390a1c9cd3bbd51b573", func := "loop.example/g00719/laws.FnCompared", spec := "fnCompared", named := ["loop.example/g00719/impl.opposites"], apart := false, laid := [("loop.example/g00719/impl.opposites", laid_loop_example_g00719_impl_opposites)], narrowed := true }
def FnComparedUptoSaid : Prop := fnComparedUptoRow.holds Tryd.pinned (OpenSpec.upto fnComparedSpec)

/-- 'laws.FnExactIvCompare', WHERE WHAT IT READS IS OF BULK AT MOST 1048576: true; the input reads as it did. -/
def fnExactIvCompareUptoRow : OpenClaim := { program := "ytlgjbfkhajphdaadoor", sum := "04578710c8a8f659bef2737436c212e5dd43a3b60e55f390a1c9cd3bbd51b573", func := "loop.example/g00719/laws.FnExactIvCompare", spec := "fnExactIvCompare", named := ["loop.example/g00719/impl.opposites"], apart := false, laid := [("loop.example/g00719/impl.opposites", laid_loop_example_g00719_impl_opposites)], narrowed := true }
def FnExactIvCompareUptoSaid : Prop := fnExactIvCompareUptoRow.holds Tryd.pinned (OpenSpec.upto fnExactIvCompareSpec)

end Rows
end Go.Proofs.YtlgjbfkhajphdaaDoor
