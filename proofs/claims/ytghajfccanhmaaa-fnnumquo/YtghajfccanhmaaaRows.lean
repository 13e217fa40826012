/-
  No cell of these rows narrows 'for every input' (looked for: loops, veiled, ifaces, maps, wideKeys, modest, calm, conditions, laid).
  DERIVED. THE GIVEN ROWS OF THIS SEAT. 9 by the template 'for every input the law returns true; each argument reads behind the call as it read before'; 0 by the template 'total and deterministic' (their statements: YtghajfccanhmaaaTotals.lean).
  GIVEN WITH THE SEED: the statements are not yours to turn. If you find one false, say at which input.
  Laid BY PROGRAM, IN A SANDBOX (cutbox-rows.mjs): the forced cells as the released guide's own fill.sh prints them over the translation 38ac8148fbca8c83… (all of the seat's roots in one cut). By AI agents, Wed Nov 11 2026. No macro, syntax, notation, axiom, sorry.
-/
import Derived.Test.YtghajfccanhmaaaChecked
import GoSem.Claim
import GoSem.ClaimJoined
import GoSem.ClaimMapViews
import Derived.JoinedTies
import Derived.KernelRfl
namespace Go.Proofs.Ytghajfccanhmaaa
/- THE CELL 'sum', in the pinned program and in every row, IS THE sha256 OF THE DUMP (.gsa) THAT YtghajfccanhmaaaProg.lean LOADS. Nothing in Lean hashes anything: it is a label: what it is worth is what the hold of that sum in a sandbox is worth. -/
noncomputable def Try.pinned : Pinned := { name := "ytghajfccanhmaaa", sum := "38ac8148fbca8c83a8b058971a7a035fe417c4ea386f2f390e2b20d45665c19a", checked := Try.checked }
namespace Rows
def none {H : Type} : Left H := { results := [], args := [] }

/-- 'laws.FnNumAdd': WHATEVER THE INPUT: true; the input reads as it did. -/
def fnNumAddSpec : ChangeSpec := { name := "fnNumAdd", fn := fun _ => fun
  | [d] => { results := [.lit (.bool true)], args := [d] }
  | _ => none }
def fnNumAddRow : OpenClaim := { program := "ytghajfccanhmaaa", sum := "38ac8148fbca8c83a8b058971a7a035fe417c4ea386f2f390e2b20d45665c19a", func := "loop.example/g00719/laws.FnNumAdd", spec := "fnNumAdd", apart := false }
def FnNumAddSaid : Prop := fnNumAddRow.holds Try.pinned (OpenSpec.ofChange fnNumAddSpec)

/-- ITS FALSE NEIGHBOUR: 'it returns false'. Refute it at one input. -/
def fnNumAddWrong : ChangeSpec := { name := "fnNumAdd", fn := fun _ => fun
  | [d] => { results := [.lit (.bool false)], args := [d] }
  | _ => none }
def FnNumAddWrongFalsely : Prop := fnNumAddRow.holds Try.pinned (OpenSpec.ofChange fnNumAddWrong)

/-- 'laws.FnNumMul': WHATEVER THE INPUT: true; the input reads as it did. -/
def fnNumMulSpec : ChangeSpec := { name := "fnNumMul", fn := fun _ => fun
  | [d] => { results := [.lit (.bool true)], args := [d] }
  | _ => none }
def fnNumMulRow : OpenClaim := { program := "ytghajfccanhmaaa", sum := "38ac8148fbca8c83a8b058971a7a035fe417c4ea386f2f390e2b20d45665c19a", func := "loop.example/g00719/laws.FnNumMul", spec := "fnNumMul", apart := false }
def FnNumMulSaid : Prop := fnNumMulRow.holds Try.pinned (OpenSpec.ofChange fnNumMulSpec)

/-- ITS FALSE NEIGHBOUR: 'it returns false'. Refute it at one input. -/
def fnNumMulWrong : ChangeSpec := { name := "fnNumMul", fn := fun _ => fun
  | [d] => { results := [.lit (.bool false)], args := [d] }
  | _ => none }
def FnNumMulWrongFalsely : Prop := fnNumMulRow.holds Try.pinned (OpenSpec.ofChange fnNumMulWrong)

/-- 'laws.FnNumQuo': WHATEVER THE INPUT: true; the input reads as it did. -/
def fnNumQuoSpec : ChangeSpec := { name := "fnNumQuo", fn := fun _ => fun
  | [d] => { results := [.lit (.bool true)], args := [d] }
  | _ => none }
def fnNumQuoRow : OpenClaim := { program := "ytghajfccanhmaaa", sum := "38ac8148fbca8c83a8b058971a7a035fe417c4ea386f2f390e2b20d45665c19a", func := "loop.example/g00719/laws.FnNumQuo", spec := "fnNumQuo", apart := false }
def FnNumQuoSaid : Prop := fnNumQuoRow.holds Try.pinned (OpenSpec.ofChange fnNumQuoSpec)

/-- ITS FALSE NEIGHBOUR: 'it returns false'. Refute it at one input. -/
def fnNumQuoWrong : ChangeSpec := { name := "fnNumQuo", fn := fun _ => fun
  | [d] => { results := [.lit (.bool false)], args := [d] }
  | _ => none }
def FnNumQuoWrongFalsely : Prop := fnNumQuoRow.holds Try.pinned (OpenSpec.ofChange fnNumQuoWrong)

/-- 'laws.FnNumSub': WHATEVER THE INPUT: true; the input reads as it did. -/
def fnNumSubSpec : ChangeSpec := { name := "fnNumSub", fn := fun _ => fun
  | [d] => { results := [.lit (.bool true)], args := [d] }
  | _ => none }
def fnNumSubRow : OpenClaim := { program := "ytghajfccanhmaaa", sum := "38ac8148fbca8c83a8b058971a7a035fe417c4ea386f2f390e2b20d45665c19a", func := "loop.example/g00719/laws.FnNumSub", spec := "fnNumSub", apart := false }
def FnNumSubSaid : Prop := fnNumSubRow.holds Try.pinned (OpenSpec.ofChange fnNumSubSpec)

/-- ITS FALSE NEIGHBOUR: 'it returns false'. Refute it at one input. -/
def fnNumSubWrong : ChangeSpec := { name := "fnNumSub", fn := fun _ => fun
  | [d] => { results := [.lit (.bool false)], args := [d] }
  | _ => none }
def FnNumSubWrongFalsely : Prop := fnNumSubRow.holds Try.pinned (OpenSpec.ofChange fnNumSubWrong)

/-- 'laws.FnExactNumAdd': WHATEVER THE INPUT: true; the input reads as it did. -/
def fnExactNumAddSpec : ChangeSpec := { name := "fnExactNumAdd", fn := fun _ => fun
  | [d1, d2] => { results := [.lit (.bool true)], args := [d1, d2] }
  | _ => none }
def fnExactNumAddRow : OpenClaim := { program := "ytghajfccanhmaaa", sum := "38ac8148fbca8c83a8b058971a7a035fe417c4ea386f2f390e2b20d45665c19a", func := "loop.example/g00719/laws.FnExactNumAdd", spec := "fnExactNumAdd", apart := false }
def FnExactNumAddSaid : Prop := fnExactNumAddRow.holds Try.pinned (OpenSpec.ofChange fnExactNumAddSpec)

/-- ITS FALSE NEIGHBOUR: 'it returns false'. Refute it at one input. -/
def fnExactNumAddWrong : ChangeSpec := { name := "fnExactNumAdd", fn := fun _ => fun
  | [d1, d2] => { results := [.lit (.bool false)], args := [d1, d2] }
  | _ => none }
def FnExactNumAddWrongFalsely : Prop := fnExactNumAddRow.holds Try.pinned (OpenSpec.ofChange fnExactNumAddWrong)

/-- 'laws.FnExactNumSub': WHATEVER THE INPUT: true; the input reads as it did. -/
def fnExactNumSubSpec : ChangeSpec := { name := "fnExactNumSub", fn := fun _ => fun
  | [d1, d2] => { results := [.lit (.bool true)], args := [d1, d2] }
  | _ => none }
def fnExactNumSubRow : OpenClaim := { program := "ytghajfccanhmaaa", sum := "38ac8148fbca8c83a8b058971a7a035fe417c4ea386f2f390e2b20d45665c19a", func := "loop.example/g00719/laws.FnExactNumSub", spec := "fnExactNumSub", apart := false }
def FnExactNumSubSaid : Prop := fnExactNumSubRow.holds Try.pinned (OpenSpec.ofChange fnExactNumSubSpec)

/-- ITS FALSE NEIGHBOUR: 'it returns false'. Refute it at one input. -/
def fnExactNumSubWrong : ChangeSpec := { name := "fnExactNumSub", fn := fun _ => fun
  | [d1, d2] => { results := [.lit (.bool false)], args := [d1, d2] }
  | _ => none }
def FnExactNumSubWrongFalsely : Prop := fnExactNumSubRow.holds Try.pinned (OpenSpec.ofChange fnExactNumSubWrong)

/-- 'laws.FnExactNumMul': WHATEVER THE INPUT: true; the input reads as it did. -/
def fnExactNumMulSpec : ChangeSpec := { name := "fnExactNumMul", fn := fun _ => fun
  | [d1, d2] => { results := [.lit (.bool true)], args := [d1, d2] }
  | _ => none }
def fnExactNumMulRow : OpenClaim := { program := "ytghajfccanhmaaa", sum := "38ac8148fbca8c83a8b058971a7a035fe417c4ea386f2f390e2b20d45665c19a", func := "loop.example/g00719/laws.FnExactNumMul", spec := "fnExactNumMul", apart := false }
def FnExactNumMulSaid : Prop := fnExactNumMulRow.holds Try.pinned (OpenSpec.ofChange fnExactNumMulSpec)

/-- ITS FALSE NEIGHBOUR: 'it returns false'. Refute it at one input. -/
def fnExactNumMulWrong : ChangeSpec := { name := "fnExactNumMul", fn := fun _ => fun
  | [d1, d2] => { results := [.lit (.bool false)], args := [d1, d2] }
  | _ => none }
def FnExactNumMulWrongFalsely : Prop := fnExactNumMulRow.holds Try.pinned (OpenSpec.ofChange fnExactNumMulWrong)

/-- 'laws.FnExactNumQuo': WHATEVER THE INPUT: true; the input reads as it did. -/
def fnExactNumQuoSpec : ChangeSpec := { name := "fnExactNumQuo", fn := fun _ => fun
  | [d1, d2] => { results := [.lit (.bool true)], args := [d1, d2] }
  | _ => none }
def fnExactNumQuoRow : OpenClaim := { program := "ytghajfccanhmaaa", sum := "38ac8148fbca8c83a8b058971a7a035fe417c4ea386f2f390e2b20d45665c19a", func := "loop.example/g00719/laws.FnExactNumQuo", spec := "fnExactNumQuo", apart := false }
def FnExactNumQuoSaid : Prop := fnExactNumQuoRow.holds Try.pinned (OpenSpec.ofChange fnExactNumQuoSpec)

/-- ITS FALSE NEIGHBOUR: 'it returns false'. Refute it at one input. -/
def fnExactNumQuoWrong : ChangeSpec := { name := "fnExactNumQuo", fn := fun _ => fun
  | [d1, d2] => { results := [.lit (.bool false)], args := [d1, d2] }
  | _ => none }
def FnExactNumQuoWrongFalsely : Prop := fnExactNumQuoRow.holds Try.pinned (OpenSpec.ofChange fnExactNumQuoWrong)

/-- 'laws.FnExactNumRem': WHATEVER THE INPUT: true; the input reads as it did. -/
def fnExactNumRemSpec : ChangeSpec := { name := "fnExactNumRem", fn := fun _ => fun
  | [d1, d2] => { results := [.lit (.bool true)], args := [d1, d2] }
  | _ => none }
def fnExactNumRemRow : OpenClaim := { program := "ytghajfccanhmaaa", sum := "38ac8148fbca8c83a8b058971a7a035fe417c4ea386f2f390e2b20d45665c19a", func := "loop.example/g00719/laws.FnExactNumRem", spec := "fnExactNumRem", apart := false }
def FnExactNumRemSaid : Prop := fnExactNumRemRow.holds Try.pinned (OpenSpec.ofChange fnExactNumRemSpec)

/-- ITS FALSE NEIGHBOUR: 'it returns false'. Refute it at one input. -/
def fnExactNumRemWrong : ChangeSpec := { name := "fnExactNumRem", fn := fun _ => fun
  | [d1, d2] => { results := [.lit (.bool false)], args := [d1, d2] }
  | _ => none }
def FnExactNumRemWrongFalsely : Prop := fnExactNumRemRow.holds Try.pinned (OpenSpec.ofChange fnExactNumRemWrong)

/- THE SECOND FORM. 'bulk': how many values and letters a reading holds, each counted each time it is reached (what is shared counts as often as it is met; a slice's spare places count too). A statement '..UptoSaid' is the law's where the arguments, and the package variables that the reading takes, are together of bulk at most 1048576: NARROWER than '..Said'. Prove '..Said' where nothing that the law and all that it calls make is longer than what came in: it says more and counts as full. Else prove '..UptoSaid'. A law counts once. -/
mutual
def uptoBulk {H : Type} : DataW H → Nat
  | .lit (.string bytes) => bytes.length + 1
  | .lit _ => 1
  | .nil => 1
  | .ptr d => uptoBulk d + 1
  | .slice elems spare => uptoBulkAll elems + uptoBulkAll spare + 1
  | .agg parts => uptoBulkAll parts + 1
  | .iface _ d => uptoBulk d + 1
  | .map entries => uptoBulkEntries entries + 1
  | .held _ => 1
def uptoBulkAll {H : Type} : List (DataW H) → Nat
  | [] => 0
  | d :: r => uptoBulk d + uptoBulkAll r
def uptoBulkEntries {H : Type} : List (Lit × DataW H) → Nat
  | [] => 0
  | x :: r => uptoBulkEntry x + uptoBulkEntries r
def uptoBulkEntry {H : Type} : Lit × DataW H → Nat
  | (.string bytes, d) => bytes.length + uptoBulk d + 1
  | (_, d) => uptoBulk d + 1
 end
def uptoSmall : (H : Type) → List (DataW H) → Bool := fun _ ds => decide (uptoBulkAll ds ≤ 1048576)
def OpenSpec.upto (s : _root_.Go.ChangeSpec) : _root_.Go.OpenSpec := { _root_.Go.OpenSpec.ofChange s with cond := some uptoSmall }

/-- 'laws.FnNumAdd', WHERE WHAT IT READS IS OF BULK AT MOST 1048576: true; the input reads as it did. -/
def fnNumAddUptoRow : OpenClaim := { program := "ytghajfccanhmaaa", sum := "38ac8148fbca8c83a8b058971a7a035fe417c4ea386f2f390e2b20d45665c19a", func := "loop.example/g00719/laws.FnNumAdd", spec := "fnNumAdd", apart := false, narrowed := true }
def FnNumAddUptoSaid : Prop := fnNumAddUptoRow.holds Try.pinned (OpenSpec.upto fnNumAddSpec)

/-- 'laws.FnNumMul', WHERE WHAT IT READS IS OF BULK AT MOST 1048576: true; the input reads as it did. -/
def fnNumMulUptoRow : OpenClaim := { program := "ytghajfccanhmaaa", sum := "38ac8148fbca8c83a8b058971a7a035fe417c4ea386f2f390e2b20d45665c19a", func := "loop.example/g00719/laws.FnNumMul", spec := "fnNumMul", apart := false, narrowed := true }
def FnNumMulUptoSaid : Prop := fnNumMulUptoRow.holds Try.pinned (OpenSpec.upto fnNumMulSpec)

/-- 'laws.FnNumQuo', WHERE WHAT IT READS IS OF BULK AT MOST 1048576: true; the input reads as it did. -/
def fnNumQuoUptoRow : OpenClaim := { program := "ytghajfccanhmaaa", sum := "38ac8148fbca8c83a8b058971a7a035fe417c4ea386f2f390e2b20d45665c19a", func := "loop.example/g00719/laws.FnNumQuo", spec := "fnNumQuo", apart := false, narrowed := true }
def FnNumQuoUptoSaid : Prop := fnNumQuoUptoRow.holds Try.pinned (OpenSpec.upto fnNumQuoSpec)

/-- 'laws.FnNumSub', WHERE WHAT IT READS IS OF BULK AT MOST 1048576: true; the input reads as it did. -/
def fnNumSubUptoRow : OpenClaim := { program := "ytghajfccanhmaaa", sum := "38ac8148fbca8c83a8b058971a7a035fe417c4ea386f2f390e2b20d45665c19a", func := "loop.example/g00719/laws.FnNumSub", spec := "fnNumSub", apart := false, narrowed := true }
def FnNumSubUptoSaid : Prop := fnNumSubUptoRow.holds Try.pinned (OpenSpec.upto fnNumSubSpec)

/-- 'laws.FnExactNumAdd', WHERE WHAT IT READS IS OF BULK AT MOST 1048576: true; the input reads as it did. -/
def fnExactNumAddUptoRow : OpenClaim := { program := "ytghajfccanhmaaa", sum := "38ac8148fbca8c83a8b058971a7a035fe417c4ea386f2f390e2b20d45665c19a", func := "loop.example/g00719/laws.FnExactNumAdd", spec := "fnExactNumAdd", apart := false, narrowed := true }
def FnExactNumAddUptoSaid : Prop := fnExactNumAddUptoRow.holds Try.pinned (OpenSpec.upto fnExactNumAddSpec)

/-- 'laws.FnExactNumSub', WHERE WHAT IT READS IS OF BULK AT MOST 1048576: true; the input reads as it did. -/
def fnExactNumSubUptoRow : OpenClaim := { program := "ytghajfccanhmaaa", sum := "38ac8148fbca8c83a8b058971a7a035fe417c4ea386f2f390e2b20d45665c19a", func := "loop.example/g00719/laws.FnExactNumSub", spec := "fnExactNumSub", apart := false, narrowed := true }
def FnExactNumSubUptoSaid : Prop := fnExactNumSubUptoRow.holds Try.pinned (OpenSpec.upto fnExactNumSubSpec)

/-- 'laws.FnExactNumMul', WHERE WHAT IT READS IS OF BULK AT MOST 1048576: true; the input reads as it did. -/
def fnExactNumMulUptoRow : OpenClaim := { program := "ytghajfccanhmaaa", sum := "38ac8148fbca8c83a8b058971a7a035fe417c4ea386f2f390e2b20d45665c19a", func := "loop.example/g00719/laws.FnExactNumMul", spec := "fnExactNumMul", apart := false, narrowed := true }
def FnExactNumMulUptoSaid : Prop := fnExactNumMulUptoRow.holds Try.pinned (OpenSpec.upto fnExactNumMulSpec)

/-- 'laws.FnExactNumQuo', WHERE WHAT IT READS IS OF BULK AT MOST 1048576: true; the input reads as it did. -/
def fnExactNumQuoUptoRow : OpenClaim := { program := "ytghajfccanhmaaa", sum := "38ac8148fbca8c83a8b058971a7a035fe417c4ea386f2f390e2b20d45665c19a", func := "loop.example/g00719/laws.FnExactNumQuo", spec := "fnExactNumQuo", apart := false, narrowed := true }
def FnExactNumQuoUptoSaid : Prop := fnExactNumQuoUptoRow.holds Try.pinned (OpenSpec.upto fnExactNumQuoSpec)

/-- 'laws.FnExactNumRem', WHERE WHAT IT READS IS OF BULK AT MOST 1048576: true; the input reads as it did. -/
def fnExactNumRemUptoRow : OpenClaim := { program := "ytghajfccanhmaaa", sum := "38ac8148fbca8c83a8b058971a7a035fe417c4ea386f2f390e2b20d45665c19a", func := "loop.example/g00719/laws.FnExactNumRem", spec := "fnExactNumRem", apart := false, narrowed := true }
def FnExactNumRemUptoSaid : Prop := fnExactNumRemUptoRow.holds Try.pinned (OpenSpec.upto fnExactNumRemSpec)

end Rows
end Go.Proofs.Ytghajfccanhmaaa
