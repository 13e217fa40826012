/-
  NARROWER THAN 'FOR EVERY INPUT', by the rows' own cells (each row's printed sentence says how): FnExactEnvHas: laid · FnExactEnvLeq: laid · FnExactEnvSet: laid · FnExactTableOk: laid · FnExactTableHas: laid · FnExactTableLeq: laid.
  DERIVED. THE GIVEN ROWS OF THIS SEAT. 6 by the template 'for every input the law returns true; each argument reads behind the call as it read before'; 0 by the template 'total and deterministic' (their statements: YtlpemohhchjliaaDoorTotals.lean).
  GIVEN WITH THE SEED: the statements are not yours to turn. If you find one false, say at which input.
  Laid BY PROGRAM, IN A SANDBOX (cutbox-rows.mjs): the forced cells as the released guide's own fill.sh prints them over the translation 3c7ab9cef4c5e0cf… (all of the seat's roots in one cut). By AI agents, Wed Nov 11 2026. No macro, syntax, notation, axiom, sorry.
-/
import Derived.Test.YtlpemohhchjliaaDoorChecked
import GoSem.Claim
import GoSem.ClaimJoined
import GoSem.ClaimMapViews
import Derived.JoinedTies
import Derived.KernelRfl
namespace Go.Proofs.YtlpemohhchjliaaDoor
/- THE CELL 'sum', in the pinned program and in every row, IS THE sha256 OF THE DUMP (.gsa) THAT YtlpemohhchjliaaDoorProg.lean LOADS. Nothing in Lean hashes anything: it is a label: what it is worth is what the hold of that sum in a sandbox is worth. -/
noncomputable def Tryd.pinned : Pinned := { name := "ytlpemohhchjliaadoor", sum := "3c7ab9cef4c5e0cf6ad35b5a66aa172305342fad8dc60a95bbf8dd3628264459", checked := Tryd.checked }
namespace Rows
def none {H : Type} : Left H := { results := [], args := [] }

/- WHAT THE LISTED PACKAGE-LEVEL VARIABLES READ AS WHEN THE CALL BEGINS. Each datum BY PROGRAM (the guide's laid-datum.mjs) off the statement by which the dump's own 'gosem.cut.vars' lays the variable. In a bare row this is a premise. The card (YtlpemohhchjliaaDoorCards.lean) ties it to the program's text. -/
def laid_loop_example_g00719_impl_keywords {H : Type} : DataW H := .agg [.lit (.string [118, 97, 114]), .lit (.string [102, 108, 97, 103]), .lit (.string [97, 114, 114, 97, 121]), .lit (.string [105, 102]), .lit (.string [102, 111, 114, 107]), .lit (.string [101, 108, 115, 101]), .lit (.string [101, 110, 100]), .lit (.string [119, 104, 105, 108, 101]), .lit (.string [117, 110, 114, 111, 108, 108]), .lit (.string [97, 115, 115, 101, 114, 116]), .lit (.string [97, 115, 115, 117, 109, 101]), .lit (.string [105, 110, 112, 117, 116]), .lit (.string [115, 112, 108, 105, 116]), .lit (.string [109, 101, 114, 103, 101]), .lit (.string [116, 114, 117, 101]), .lit (.string [102, 97, 108, 115, 101])]

/-- 'laws.FnExactEnvHas': WHATEVER THE INPUT: true; the input reads as it did. -/
def fnExactEnvHasSpec : ChangeSpec := { name := "fnExactEnvHas", vars := ["loop.example/g00719/impl.keywords"], fn := fun _ => fun
  | [d1, d2, d3, g1] => { results := [.lit (.bool true)], args := [d1, d2, d3], vars := [g1] }
  | _ => none }
def fnExactEnvHasRow : OpenClaim := { program := "ytlpemohhchjliaadoor", sum := "3c7ab9cef4c5e0cf6ad35b5a66aa172305342fad8dc60a95bbf8dd3628264459", func := "loop.example/g00719/laws.FnExactEnvHas", spec := "fnExactEnvHas", unfollowed := true, recurses := true, named := ["loop.example/g00719/impl.keywords"], apart := false, laid := [("loop.example/g00719/impl.keywords", laid_loop_example_g00719_impl_keywords)] }
def FnExactEnvHasSaid : Prop := fnExactEnvHasRow.holds Tryd.pinned (OpenSpec.ofChange fnExactEnvHasSpec)

/-- ITS FALSE NEIGHBOUR: 'it returns false'. Refute it at one input. -/
def fnExactEnvHasWrong : ChangeSpec := { name := "fnExactEnvHas", vars := ["loop.example/g00719/impl.keywords"], fn := fun _ => fun
  | [d1, d2, d3, g1] => { results := [.lit (.bool false)], args := [d1, d2, d3], vars := [g1] }
  | _ => none }
def FnExactEnvHasWrongFalsely : Prop := fnExactEnvHasRow.holds Tryd.pinned (OpenSpec.ofChange fnExactEnvHasWrong)

/-- 'laws.FnExactEnvLeq': WHATEVER THE INPUT: true; the input reads as it did. -/
def fnExactEnvLeqSpec : ChangeSpec := { name := "fnExactEnvLeq", vars := ["loop.example/g00719/impl.keywords"], fn := fun _ => fun
  | [d1, d2, d3, g1] => { results := [.lit (.bool true)], args := [d1, d2, d3], vars := [g1] }
  | _ => none }
def fnExactEnvLeqRow : OpenClaim := { program := "ytlpemohhchjliaadoor", sum := "3c7ab9cef4c5e0cf6ad35b5a66aa172305342fad8dc60a95bbf8dd3628264459", func := "loop.example/g00719/laws.FnExactEnvLeq", spec := "fnExactEnvLeq", unfollowed := true, recurses := true, named := ["loop.example/g00719/impl.keywords"], apart := false, laid := [("loop.example/g00719/impl.keywords", laid_loop_example_g00719_impl_keywords)] }
def FnExactEnvLeqSaid : Prop := fnExactEnvLeqRow.holds Tryd.pinned (OpenSpec.ofChange fnExactEnvLeqSpec)

/-- ITS FALSE NEIGHBOUR: 'it returns false'. Refute it at one input. -/
def fnExactEnvLeqWrong : ChangeSpec := { name := "fnExactEnvLeq", vars := ["loop.example/g00719/impl.keywords"], fn := fun _ => fun
  | [d1, d2, d3, g1] => { results := [.lit (.bool false)], args := [d1, d2, d3], vars := [g1] }
  | _ => none }
def FnExactEnvLeqWrongFalsely : Prop := fnExactEnvLeqRow.holds Tryd.pinned (OpenSpec.ofChange fnExactEnvLeqWrong)

/-- 'laws.FnExactEnvSet': WHATEVER THE INPUT: true; the input reads as it did. -/
def fnExactEnvSetSpec : ChangeSpec := { name := "fnExactEnvSet", vars := ["loop.example/g00719/impl.keywords"], fn := fun _ => fun
  | [d1, d2, d3, d4, g1] => { results := [.lit (.bool true)], args := [d1, d2, d3, d4], vars := [g1] }
  | _ => none }
def fnExactEnvSetRow : OpenClaim := { program := "ytlpemohhchjliaadoor", sum := "3c7ab9cef4c5e0cf6ad35b5a66aa172305342fad8dc60a95bbf8dd3628264459", func := "loop.example/g00719/laws.FnExactEnvSet", spec := "fnExactEnvSet", unfollowed := true, recurses := true, named := ["loop.example/g00719/impl.keywords"], apart := false, laid := [("loop.example/g00719/impl.keywords", laid_loop_example_g00719_impl_keywords)] }
def FnExactEnvSetSaid : Prop := fnExactEnvSetRow.holds Tryd.pinned (OpenSpec.ofChange fnExactEnvSetSpec)

/-- ITS FALSE NEIGHBOUR: 'it returns false'. Refute it at one input. -/
def fnExactEnvSetWrong : ChangeSpec := { name := "fnExactEnvSet", vars := ["loop.example/g00719/impl.keywords"], fn := fun _ => fun
  | [d1, d2, d3, d4, g1] => { results := [.lit (.bool false)], args := [d1, d2, d3, d4], vars := [g1] }
  | _ => none }
def FnExactEnvSetWrongFalsely : Prop := fnExactEnvSetRow.holds Tryd.pinned (OpenSpec.ofChange fnExactEnvSetWrong)

/-- 'laws.FnExactTableOk': WHATEVER THE INPUT: true; the input reads as it did. -/
def fnExactTableOkSpec : ChangeSpec := { name := "fnExactTableOk", vars := ["loop.example/g00719/impl.keywords"], fn := fun _ => fun
  | [d1, d2, g1] => { results := [.lit (.bool true)], args := [d1, d2], vars := [g1] }
  | _ => none }
def fnExactTableOkRow : OpenClaim := { program := "ytlpemohhchjliaadoor", sum := "3c7ab9cef4c5e0cf6ad35b5a66aa172305342fad8dc60a95bbf8dd3628264459", func := "loop.example/g00719/laws.FnExactTableOk", spec := "fnExactTableOk", unfollowed := true, recurses := true, named := ["loop.example/g00719/impl.keywords"], apart := false, laid := [("loop.example/g00719/impl.keywords", laid_loop_example_g00719_impl_keywords)] }
def FnExactTableOkSaid : Prop := fnExactTableOkRow.holds Tryd.pinned (OpenSpec.ofChange fnExactTableOkSpec)

/-- ITS FALSE NEIGHBOUR: 'it returns false'. Refute it at one input. -/
def fnExactTableOkWrong : ChangeSpec := { name := "fnExactTableOk", vars := ["loop.example/g00719/impl.keywords"], fn := fun _ => fun
  | [d1, d2, g1] => { results := [.lit (.bool false)], args := [d1, d2], vars := [g1] }
  | _ => none }
def FnExactTableOkWrongFalsely : Prop := fnExactTableOkRow.holds Tryd.pinned (OpenSpec.ofChange fnExactTableOkWrong)

/-- 'laws.FnExactTableHas': WHATEVER THE INPUT: true; the input reads as it did. -/
def fnExactTableHasSpec : ChangeSpec := { name := "fnExactTableHas", vars := ["loop.example/g00719/impl.keywords"], fn := fun _ => fun
  | [d1, d2, d3, g1] => { results := [.lit (.bool true)], args := [d1, d2, d3], vars := [g1] }
  | _ => none }
def fnExactTableHasRow : OpenClaim := { program := "ytlpemohhchjliaadoor", sum := "3c7ab9cef4c5e0cf6ad35b5a66aa172305342fad8dc60a95bbf8dd3628264459", func := "loop.example/g00719/laws.FnExactTableHas", spec := "fnExactTableHas", unfollowed := true, recurses := true, named := ["loop.example/g00719/impl.keywords"], apart := false, laid := [("loop.example/g00719/impl.keywords", laid_loop_example_g00719_impl_keywords)] }
def FnExactTableHasSaid : Prop := fnExactTableHasRow.holds Tryd.pinned (OpenSpec.ofChange fnExactTableHasSpec)

/-- ITS FALSE NEIGHBOUR: 'it returns false'. Refute it at one input. -/
def fnExactTableHasWrong : ChangeSpec := { name := "fnExactTableHas", vars := ["loop.example/g00719/impl.keywords"], fn := fun _ => fun
  | [d1, d2, d3, g1] => { results := [.lit (.bool false)], args := [d1, d2, d3], vars := [g1] }
  | _ => none }
def FnExactTableHasWrongFalsely : Prop := fnExactTableHasRow.holds Tryd.pinned (OpenSpec.ofChange fnExactTableHasWrong)

/-- 'laws.FnExactTableLeq': WHATEVER THE INPUT: true; the input reads as it did. -/
def fnExactTableLeqSpec : ChangeSpec := { name := "fnExactTableLeq", vars := ["loop.example/g00719/impl.keywords"], fn := fun _ => fun
  | [d1, d2, d3, g1] => { results := [.lit (.bool true)], args := [d1, d2, d3], vars := [g1] }
  | _ => none }
def fnExactTableLeqRow : OpenClaim := { program := "ytlpemohhchjliaadoor", sum := "3c7ab9cef4c5e0cf6ad35b5a66aa172305342fad8dc60a95bbf8dd3628264459", func := "loop.example/g00719/laws.FnExactTableLeq", spec := "fnExactTableLeq", unfollowed := true, recurses := true, named := ["loop.example/g00719/impl.keywords"], apart := false, laid := [("loop.example/g00719/impl.keywords", laid_loop_example_g00719_impl_keywords)] }
def FnExactTableLeqSaid : Prop := fnExactTableLeqRow.holds Tryd.pinned (OpenSpec.ofChange fnExactTableLeqSpec)

/-- ITS FALSE NEIGHBOUR: 'it returns false'. Refute it at one input. -/
def fnExactTableLeqWrong : ChangeSpec := { name := "fnExactTableLeq", vars := ["loop.example/g00719/impl.keywords"], fn := fun _ => fun
  | [d1, d2, d3, g1] => { results := [.lit (.bool false)], args := [d1, d2, d3], vars := [g1] }
  | _ => none }
def FnExactTableLeqWrongFalsely : Prop := fnExactTableLeqRow.holds Tryd.pinned (OpenSpec.ofChange fnExactTableLeqWrong)

/- THE SECOND FORM. 'bulk': how many values and letters a reading holds, each counted each time it is reached (what is shared counts as often as it is met; a slice's spare places count too). A statement '..UptoSaid' is the law's where the arguments, and the package variables that the reading takes, are together of bulk at most 1048576: NARROWER than '..Said'. Prove '..Said' where nothing that the law and all that it calls make is longer than what came in: it says more and counts as full. Else prove '..UptoSaid'. A law counts once. -/
mutual
def uptoBulk {H : Type} : DataW H → Nat
  | .lit (.string bytes) => bytes.length + 1
  | .lit _ => 1
  | .nil => 1
  | .ptr d => uptoBulk d + 1
  | .slice elems spare => uptoBulkAll elems + uptoBulkAll spare + 1
  | .agg parts => uptoBulkAll parts + 1
  | .iface _ d => uptoBulk d + 1
  | .map entries => uptoBulkEntries entries + 1
  | .held _ => 1
def uptoBulkAll {H : Type} : List (DataW H) → Nat
  | [] => 0
  | d :: r => uptoBulk d + uptoBulkAll r
def uptoBulkEntries {H : Type} : List (Lit × DataW H) → Nat
  | [] => 0
  | x :: r => uptoBulkEntry x + uptoBulkEntries r
def uptoBulkEntry {H : Type} : Lit × DataW H → Nat
  | (.string bytes, d) => bytes.length + uptoBulk d + 1
  | (_, d) => uptoBulk d + 1
 end
def uptoSmall : (H : Type) → List (DataW H) → Bool := fun _ ds => decide (uptoBulkAll ds ≤ 1048576)
def OpenSpec.upto (s : _root_.Go.ChangeSpec) : _root_.Go.OpenSpec := { _root_.Go.OpenSpec.ofChange s with cond := some uptoSmall }

/-- 'laws.FnExactEnvHas', WHERE WHAT IT READS IS OF BULK AT MOST 1048576: true; the input reads as it did. -/
def fnExactEnvHasUptoRow : OpenClaim := { program := "ytlpemohhchjliaadoor", sum := "3c7ab9cef4c5e0cf6ad35b5a66aa172305342fad8dc60a95bbf8dd3628264459", func := "loop.example/g00719/laws.FnExactEnvHas", spec := "fnExactEnvHas", unfollowed := true, recurses := true, named := ["loop.example/g00719/impl.keywords"], apart := false, laid := [("loop.example/g00719/impl.keywords", laid_loop_example_g00719_impl_keywords)], narrowed := true }
def FnExactEnvHasUptoSaid : Prop := fnExactEnvHasUptoRow.holds Tryd.pinned (OpenSpec.upto fnExactEnvHasSpec)

/-- 'laws.FnExactEnvLeq', WHERE WHAT IT READS IS OF BULK AT MOST 1048576: true; the input reads as it did. -/
def fnExactEnvLeqUptoRow : OpenClaim := { program := "ytlpemohhchjliaadoor", sum := "3c7ab9cef4c5e0cf6ad35b5a66aa172305342fad8dc60a95bbf8dd3628264459", func := "loop.example/g00719/laws.FnExactEnvLeq", spec := "fnExactEnvLeq", unfollowed := true, recurses := true, named := ["loop.example/g00719/impl.keywords"], apart := false, laid := [("loop.example/g00719/impl.keywords", laid_loop_example_g00719_impl_keywords)], narrowed := true }
def FnExactEnvLeqUptoSaid : Prop := fnExactEnvLeqUptoRow.holds Tryd.pinned (OpenSpec.upto fnExactEnvLeqSpec)

/-- 'laws.FnExactEnvSet', WHERE WHAT IT READS IS OF BULK AT MOST 1048576: true; the input reads as it did. -/
def fnExactEnvSetUptoRow : OpenClaim := { program := "ytlpemohhchjliaadoor", sum := "3c7ab9cef4c5e0cf6ad35b5a66aa172305342fad8dc60a95bbf8dd3628264459", func := "loop.example/g00719/laws.FnExactEnvSet", spec := "fnExactEnvSet", unfollowed := true, recurses := true, named := ["loop.example/g00719/impl.keywords"], apart := false, laid := [("loop.example/g00719/impl.keywords", laid_loop_example_g00719_impl_keywords)], narrowed := true }
def FnExactEnvSetUptoSaid : Prop := fnExactEnvSetUptoRow.holds Tryd.pinned (OpenSpec.upto fnExactEnvSetSpec)

/-- 'laws.FnExactTableOk', WHERE WHAT IT READS IS OF BULK AT MOST 1048576: true; the input reads as it did. -/
def fnExactTableOkUptoRow : OpenClaim := { program := "ytlpemohhchjliaadoor", sum := "3c7ab9cef4c5e0cf6ad35b5a66aa172305342fad8dc60a95bbf8dd3628264459", func := "loop.example/g00719/laws.FnExactTableOk", spec := "fnExactTableOk", unfollowed := true, recurses := true, named := ["loop.example/g00719/impl.keywords"], apart := false, laid := [("loop.example/g00719/impl.keywords", laid_loop_example_g00719_impl_keywords)], narrowed := true }
def FnExactTableOkUptoSaid : Prop := fnExactTableOkUptoRow.holds Tryd.pinned (OpenSpec.upto fnExactTableOkSpec)

/-- 'laws.FnExactTableHas', WHERE WHAT IT READS IS OF BULK AT MOST 1048576: true; the input reads as it did. -/
def fnExactTableHasUptoRow : OpenClaim := { program := "ytlpemohhchjliaadoor", sum := "3c7ab9cef4c5e0cf6ad35b5a66aa172305342fad8dc60a95bbf8dd3628264459", func := "loop.example/g00719/laws.FnExactTableHas", spec := "fnExactTableHas", unfollowed := true, recurses := true, named := ["loop.example/g00719/impl.keywords"], apart := false, laid := [("loop.example/g00719/impl.keywords", laid_loop_example_g00719_impl_keywords)], narrowed := true }
def FnExactTableHasUptoSaid : Prop := fnExactTableHasUptoRow.holds Tryd.pinned (OpenSpec.upto fnExactTableHasSpec)

/-- 'laws.FnExactTableLeq', WHERE WHAT IT READS IS OF BULK AT MOST 1048576: true; the input reads as it did. -/
def fnExactTableLeqUptoRow : OpenClaim := { program := "ytlpemohhchjliaadoor", sum := "3c7ab9cef4c5e0cf6ad35b5a66aa172305342fad8dc60a95bbf8dd3628264459", func := "loop.example/g00719/laws.FnExactTableLeq", spec := "fnExactTableLeq", unfollowed := true, recurses := true, named := ["loop.example/g00719/impl.keywords"], apart := false, laid := [("loop.example/g00719/impl.keywords", laid_loop_example_g00719_impl_keywords)], narrowed := true }
def FnExactTableLeqUptoSaid : Prop := fnExactTableLeqUptoRow.holds Tryd.pinned (OpenSpec.upto fnExactTableLeqSpec)

end Rows
end Go.Proofs.YtlpemohhchjliaaDoor
