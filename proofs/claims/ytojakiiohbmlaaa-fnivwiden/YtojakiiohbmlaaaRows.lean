/-
  No cell of these rows narrows 'for every input' (looked for: loops, veiled, ifaces, maps, wideKeys, modest, calm, conditions, laid).
  DERIVED. THE GIVEN ROWS OF THIS SEAT. 10 by the template 'for every input the law returns true; each argument reads behind the call as it read before'; 0 by the template 'total and deterministic' (their statements: YtojakiiohbmlaaaTotals.lean).
  GIVEN WITH THE SEED: the statements are not yours to turn. If you find one false, say at which input.
  Laid BY PROGRAM, IN A SANDBOX (cutbox-rows.mjs): the forced cells as the released guide's own fill.sh prints them over the translation b3db202f339cdce2… (all of the seat's roots in one cut). By AI agents, Wed Nov 11 2026. No macro, syntax, notation, axiom, sorry.
-/
import Derived.Test.YtojakiiohbmlaaaChecked
import GoSem.Claim
import GoSem.ClaimJoined
import GoSem.ClaimMapViews
import Derived.JoinedTies
import Derived.KernelRfl
namespace Go.Proofs.Ytojakiiohbmlaaa
/- THE CELL 'sum', in the pinned program and in every row, IS THE sha256 OF THE DUMP (.gsa) THAT YtojakiiohbmlaaaProg.lean LOADS. Nothing in Lean hashes anything: it is a label: what it is worth is what the hold of that sum in a sandbox is worth. -/
noncomputable def Try.pinned : Pinned := { name := "ytojakiiohbmlaaa", sum := "b3db202f339cdce2f1203dd98a41e8f14961da3648b57600db134f0f10a73179", checked := Try.checked }
namespace Rows
def none {H : Type} : Left H := { results := [], args := [] }

/-- 'laws.FnIvJoin': WHATEVER THE INPUT: true; the input reads as it did. -/
def fnIvJoinSpec : ChangeSpec := { name := "fnIvJoin", fn := fun _ => fun
  | [d1, d2] => { results := [.lit (.bool true)], args := [d1, d2] }
  | _ => none }
def fnIvJoinRow : OpenClaim := { program := "ytojakiiohbmlaaa", sum := "b3db202f339cdce2f1203dd98a41e8f14961da3648b57600db134f0f10a73179", func := "loop.example/g00719/laws.FnIvJoin", spec := "fnIvJoin", apart := false }
def FnIvJoinSaid : Prop := fnIvJoinRow.holds Try.pinned (OpenSpec.ofChange fnIvJoinSpec)

/-- ITS FALSE NEIGHBOUR: 'it returns false'. Refute it at one input. -/
def fnIvJoinWrong : ChangeSpec := { name := "fnIvJoin", fn := fun _ => fun
  | [d1, d2] => { results := [.lit (.bool false)], args := [d1, d2] }
  | _ => none }
def FnIvJoinWrongFalsely : Prop := fnIvJoinRow.holds Try.pinned (OpenSpec.ofChange fnIvJoinWrong)

/-- 'laws.FnIvMeet': WHATEVER THE INPUT: true; the input reads as it did. -/
def fnIvMeetSpec : ChangeSpec := { name := "fnIvMeet", fn := fun _ => fun
  | [d] => { results := [.lit (.bool true)], args := [d] }
  | _ => none }
def fnIvMeetRow : OpenClaim := { program := "ytojakiiohbmlaaa", sum := "b3db202f339cdce2f1203dd98a41e8f14961da3648b57600db134f0f10a73179", func := "loop.example/g00719/laws.FnIvMeet", spec := "fnIvMeet", apart := false }
def FnIvMeetSaid : Prop := fnIvMeetRow.holds Try.pinned (OpenSpec.ofChange fnIvMeetSpec)

/-- ITS FALSE NEIGHBOUR: 'it returns false'. Refute it at one input. -/
def fnIvMeetWrong : ChangeSpec := { name := "fnIvMeet", fn := fun _ => fun
  | [d] => { results := [.lit (.bool false)], args := [d] }
  | _ => none }
def FnIvMeetWrongFalsely : Prop := fnIvMeetRow.holds Try.pinned (OpenSpec.ofChange fnIvMeetWrong)

/-- 'laws.FnIvWiden': WHATEVER THE INPUT: true; the input reads as it did. -/
def fnIvWidenSpec : ChangeSpec := { name := "fnIvWiden", fn := fun _ => fun
  | [d] => { results := [.lit (.bool true)], args := [d] }
  | _ => none }
def fnIvWidenRow : OpenClaim := { program := "ytojakiiohbmlaaa", sum := "b3db202f339cdce2f1203dd98a41e8f14961da3648b57600db134f0f10a73179", func := "loop.example/g00719/laws.FnIvWiden", spec := "fnIvWiden", apart := false }
def FnIvWidenSaid : Prop := fnIvWidenRow.holds Try.pinned (OpenSpec.ofChange fnIvWidenSpec)

/-- ITS FALSE NEIGHBOUR: 'it returns false'. Refute it at one input. -/
def fnIvWidenWrong : ChangeSpec := { name := "fnIvWiden", fn := fun _ => fun
  | [d] => { results := [.lit (.bool false)], args := [d] }
  | _ => none }
def FnIvWidenWrongFalsely : Prop := fnIvWidenRow.holds Try.pinned (OpenSpec.ofChange fnIvWidenWrong)

/-- 'laws.FnExactIvOk': WHATEVER THE INPUT: true; the input reads as it did. -/
def fnExactIvOkSpec : ChangeSpec := { name := "fnExactIvOk", fn := fun _ => fun
  | [d] => { results := [.lit (.bool true)], args := [d] }
  | _ => none }
def fnExactIvOkRow : OpenClaim := { program := "ytojakiiohbmlaaa", sum := "b3db202f339cdce2f1203dd98a41e8f14961da3648b57600db134f0f10a73179", func := "loop.example/g00719/laws.FnExactIvOk", spec := "fnExactIvOk", apart := false }
def FnExactIvOkSaid : Prop := fnExactIvOkRow.holds Try.pinned (OpenSpec.ofChange fnExactIvOkSpec)

/-- ITS FALSE NEIGHBOUR: 'it returns false'. Refute it at one input. -/
def fnExactIvOkWrong : ChangeSpec := { name := "fnExactIvOk", fn := fun _ => fun
  | [d] => { results := [.lit (.bool false)], args := [d] }
  | _ => none }
def FnExactIvOkWrongFalsely : Prop := fnExactIvOkRow.holds Try.pinned (OpenSpec.ofChange fnExactIvOkWrong)

/-- 'laws.FnExactIvHas': WHATEVER THE INPUT: true; the input reads as it did. -/
def fnExactIvHasSpec : ChangeSpec := { name := "fnExactIvHas", fn := fun _ => fun
  | [d1, d2] => { results := [.lit (.bool true)], args := [d1, d2] }
  | _ => none }
def fnExactIvHasRow : OpenClaim := { program := "ytojakiiohbmlaaa", sum := "b3db202f339cdce2f1203dd98a41e8f14961da3648b57600db134f0f10a73179", func := "loop.example/g00719/laws.FnExactIvHas", spec := "fnExactIvHas", apart := false }
def FnExactIvHasSaid : Prop := fnExactIvHasRow.holds Try.pinned (OpenSpec.ofChange fnExactIvHasSpec)

/-- ITS FALSE NEIGHBOUR: 'it returns false'. Refute it at one input. -/
def fnExactIvHasWrong : ChangeSpec := { name := "fnExactIvHas", fn := fun _ => fun
  | [d1, d2] => { results := [.lit (.bool false)], args := [d1, d2] }
  | _ => none }
def FnExactIvHasWrongFalsely : Prop := fnExactIvHasRow.holds Try.pinned (OpenSpec.ofChange fnExactIvHasWrong)

/-- 'laws.FnExactIvLeq': WHATEVER THE INPUT: true; the input reads as it did. -/
def fnExactIvLeqSpec : ChangeSpec := { name := "fnExactIvLeq", fn := fun _ => fun
  | [d1, d2] => { results := [.lit (.bool true)], args := [d1, d2] }
  | _ => none }
def fnExactIvLeqRow : OpenClaim := { program := "ytojakiiohbmlaaa", sum := "b3db202f339cdce2f1203dd98a41e8f14961da3648b57600db134f0f10a73179", func := "loop.example/g00719/laws.FnExactIvLeq", spec := "fnExactIvLeq", apart := false }
def FnExactIvLeqSaid : Prop := fnExactIvLeqRow.holds Try.pinned (OpenSpec.ofChange fnExactIvLeqSpec)

/-- ITS FALSE NEIGHBOUR: 'it returns false'. Refute it at one input. -/
def fnExactIvLeqWrong : ChangeSpec := { name := "fnExactIvLeq", fn := fun _ => fun
  | [d1, d2] => { results := [.lit (.bool false)], args := [d1, d2] }
  | _ => none }
def FnExactIvLeqWrongFalsely : Prop := fnExactIvLeqRow.holds Try.pinned (OpenSpec.ofChange fnExactIvLeqWrong)

/-- 'laws.FnExactIvJoin': WHATEVER THE INPUT: true; the input reads as it did. -/
def fnExactIvJoinSpec : ChangeSpec := { name := "fnExactIvJoin", fn := fun _ => fun
  | [d1, d2] => { results := [.lit (.bool true)], args := [d1, d2] }
  | _ => none }
def fnExactIvJoinRow : OpenClaim := { program := "ytojakiiohbmlaaa", sum := "b3db202f339cdce2f1203dd98a41e8f14961da3648b57600db134f0f10a73179", func := "loop.example/g00719/laws.FnExactIvJoin", spec := "fnExactIvJoin", apart := false }
def FnExactIvJoinSaid : Prop := fnExactIvJoinRow.holds Try.pinned (OpenSpec.ofChange fnExactIvJoinSpec)

/-- ITS FALSE NEIGHBOUR: 'it returns false'. Refute it at one input. -/
def fnExactIvJoinWrong : ChangeSpec := { name := "fnExactIvJoin", fn := fun _ => fun
  | [d1, d2] => { results := [.lit (.bool false)], args := [d1, d2] }
  | _ => none }
def FnExactIvJoinWrongFalsely : Prop := fnExactIvJoinRow.holds Try.pinned (OpenSpec.ofChange fnExactIvJoinWrong)

/-- 'laws.FnExactIvMeet': WHATEVER THE INPUT: true; the input reads as it did. -/
def fnExactIvMeetSpec : ChangeSpec := { name := "fnExactIvMeet", fn := fun _ => fun
  | [d1, d2] => { results := [.lit (.bool true)], args := [d1, d2] }
  | _ => none }
def fnExactIvMeetRow : OpenClaim := { program := "ytojakiiohbmlaaa", sum := "b3db202f339cdce2f1203dd98a41e8f14961da3648b57600db134f0f10a73179", func := "loop.example/g00719/laws.FnExactIvMeet", spec := "fnExactIvMeet", apart := false }
def FnExactIvMeetSaid : Prop := fnExactIvMeetRow.holds Try.pinned (OpenSpec.ofChange fnExactIvMeetSpec)

/-- ITS FALSE NEIGHBOUR: 'it returns false'. Refute it at one input. -/
def fnExactIvMeetWrong : ChangeSpec := { name := "fnExactIvMeet", fn := fun _ => fun
  | [d1, d2] => { results := [.lit (.bool false)], args := [d1, d2] }
  | _ => none }
def FnExactIvMeetWrongFalsely : Prop := fnExactIvMeetRow.holds Try.pinned (OpenSpec.ofChange fnExactIvMeetWrong)

/-- 'laws.FnExactIvWiden': WHATEVER THE INPUT: true; the input reads as it did. -/
def fnExactIvWidenSpec : ChangeSpec := { name := "fnExactIvWiden", fn := fun _ => fun
  | [d1, d2, d3] => { results := [.lit (.bool true)], args := [d1, d2, d3] }
  | _ => none }
def fnExactIvWidenRow : OpenClaim := { program := "ytojakiiohbmlaaa", sum := "b3db202f339cdce2f1203dd98a41e8f14961da3648b57600db134f0f10a73179", func := "loop.example/g00719/laws.FnExactIvWiden", spec := "fnExactIvWiden", apart := false }
def FnExactIvWidenSaid : Prop := fnExactIvWidenRow.holds Try.pinned (OpenSpec.ofChange fnExactIvWidenSpec)

/-- ITS FALSE NEIGHBOUR: 'it returns false'. Refute it at one input. -/
def fnExactIvWidenWrong : ChangeSpec := { name := "fnExactIvWiden", fn := fun _ => fun
  | [d1, d2, d3] => { results := [.lit (.bool false)], args := [d1, d2, d3] }
  | _ => none }
def FnExactIvWidenWrongFalsely : Prop := fnExactIvWidenRow.holds Try.pinned (OpenSpec.ofChange fnExactIvWidenWrong)

/-- 'laws.FnExactIvRem': WHATEVER THE INPUT: true; the input reads as it did. -/
def fnExactIvRemSpec : ChangeSpec := { name := "fnExactIvRem", fn := fun _ => fun
  | [d1, d2] => { results := [.lit (.bool true)], args := [d1, d2] }
  | _ => none }
def fnExactIvRemRow : OpenClaim := { program := "ytojakiiohbmlaaa", sum := "b3db202f339cdce2f1203dd98a41e8f14961da3648b57600db134f0f10a73179", func := "loop.example/g00719/laws.FnExactIvRem", spec := "fnExactIvRem", apart := false }
def FnExactIvRemSaid : Prop := fnExactIvRemRow.holds Try.pinned (OpenSpec.ofChange fnExactIvRemSpec)

/-- ITS FALSE NEIGHBOUR: 'it returns false'. Refute it at one input. -/
def fnExactIvRemWrong : ChangeSpec := { name := "fnExactIvRem", fn := fun _ => fun
  | [d1, d2] => { results := [.lit (.bool false)], args := [d1, d2] }
  | _ => none }
def FnExactIvRemWrongFalsely : Prop := fnExactIvRemRow.holds Try.pinned (OpenSpec.ofChange fnExactIvRemWrong)

/- THE SECOND FORM. 'bulk': how many values and letters a reading holds, each counted each time it is reached (what is shared counts as often as it is met; a slice's spare places count too). A statement '..UptoSaid' is the law's where the arguments, and the package variables that the reading takes, are together of bulk at most 1048576: NARROWER than '..Said'. Prove '..Said' where nothing that the law and all that it calls make is longer than what came in: it says more and counts as full. Else prove '..UptoSaid'. A law counts once. -/
mutual
def uptoBulk {H : Type} : DataW H → Nat
  | .lit (.string bytes) => bytes.length + 1
  | .lit _ => 1
  | .nil => 1
  | .ptr d => uptoBulk d + 1
  | .slice elems spare => uptoBulkAll elems + uptoBulkAll spare + 1
  | .agg parts => uptoBulkAll parts + 1
  | .iface _ d => uptoBulk d + 1
  | .map entries => uptoBulkEntries entries + 1
  | .held _ => 1
def uptoBulkAll {H : Type} : List (DataW H) → Nat
  | [] => 0
  | d :: r => uptoBulk d + uptoBulkAll r
def uptoBulkEntries {H : Type} : List (Lit × DataW H) → Nat
  | [] => 0
  | x :: r => uptoBulkEntry x + uptoBulkEntries r
def uptoBulkEntry {H : Type} : Lit × DataW H → Nat
  | (.string bytes, d) => bytes.length + uptoBulk d + 1
  | (_, d) => uptoBulk d + 1
 end
def uptoSmall : (H : Type) → List (DataW H) → Bool := fun _ ds => decide (uptoBulkAll ds ≤ 1048576)
def OpenSpec.upto (s : _root_.Go.ChangeSpec) : _root_.Go.OpenSpec := { _root_.Go.OpenSpec.ofChange s with cond := some uptoSmall }

/-- 'laws.FnIvJoin', WHERE WHAT IT READS IS OF BULK AT MOST 1048576: true; the input reads as it did. -/
def fnIvJoinUptoRow : OpenClaim := { program := "ytojakiiohbmlaaa", sum := "b3db202f339cdce2f1203dd98a41e8f14961da3648b57600db134f0f10a73179", func := "loop.example/g00719/laws.FnIvJoin", spec := "fnIvJoin", apart := false, narrowed := true }
def FnIvJoinUptoSaid : Prop := fnIvJoinUptoRow.holds Try.pinned (OpenSpec.upto fnIvJoinSpec)

/-- 'laws.FnIvMeet', WHERE WHAT IT READS IS OF BULK AT MOST 1048576: true; the input reads as it did. -/
def fnIvMeetUptoRow : OpenClaim := { program := "ytojakiiohbmlaaa", sum := "b3db202f339cdce2f1203dd98a41e8f14961da3648b57600db134f0f10a73179", func := "loop.example/g00719/laws.FnIvMeet", spec := "fnIvMeet", apart := false, narrowed := true }
def FnIvMeetUptoSaid : Prop := fnIvMeetUptoRow.holds Try.pinned (OpenSpec.upto fnIvMeetSpec)

/-- 'laws.FnIvWiden', WHERE WHAT IT READS IS OF BULK AT MOST 1048576: true; the input reads as it did. -/
def fnIvWidenUptoRow : OpenClaim := { program := "ytojakiiohbmlaaa", sum := "b3db202f339cdce2f1203dd98a41e8f14961da3648b57600db134f0f10a73179", func := "loop.example/g00719/laws.FnIvWiden", spec := "fnIvWiden", apart := false, narrowed := true }
def FnIvWidenUptoSaid : Prop := fnIvWidenUptoRow.holds Try.pinned (OpenSpec.upto fnIvWidenSpec)

/-- 'laws.FnExactIvOk', WHERE WHAT IT READS IS OF BULK AT MOST 1048576: true; the input reads as it did. -/
def fnExactIvOkUptoRow : OpenClaim := { program := "ytojakiiohbmlaaa", sum := "b3db202f339cdce2f1203dd98a41e8f14961da3648b57600db134f0f10a73179", func := "loop.example/g00719/laws.FnExactIvOk", spec := "fnExactIvOk", apart := false, narrowed := true }
def FnExactIvOkUptoSaid : Prop := fnExactIvOkUptoRow.holds Try.pinned (OpenSpec.upto fnExactIvOkSpec)

/-- 'laws.FnExactIvHas', WHERE WHAT IT READS IS OF BULK AT MOST 1048576: true; the input reads as it did. -/
def fnExactIvHasUptoRow : OpenClaim := { program := "ytojakiiohbmlaaa", sum := "b3db202f339cdce2f1203dd98a41e8f14961da3648b57600db134f0f10a73179", func := "loop.example/g00719/laws.FnExactIvHas", spec := "fnExactIvHas", apart := false, narrowed := true }
def FnExactIvHasUptoSaid : Prop := fnExactIvHasUptoRow.holds Try.pinned (OpenSpec.upto fnExactIvHasSpec)

/-- 'laws.FnExactIvLeq', WHERE WHAT IT READS IS OF BULK AT MOST 1048576: true; the input reads as it did. -/
def fnExactIvLeqUptoRow : OpenClaim := { program := "ytojakiiohbmlaaa", sum := "b3db202f339cdce2f1203dd98a41e8f14961da3648b57600db134f0f10a73179", func := "loop.example/g00719/laws.FnExactIvLeq", spec := "fnExactIvLeq", apart := false, narrowed := true }
def FnExactIvLeqUptoSaid : Prop := fnExactIvLeqUptoRow.holds Try.pinned (OpenSpec.upto fnExactIvLeqSpec)

/-- 'laws.FnExactIvJoin', WHERE WHAT IT READS IS OF BULK AT MOST 1048576: true; the input reads as it did. -/
def fnExactIvJoinUptoRow : OpenClaim := { program := "ytojakiiohbmlaaa", sum := "b3db202f339cdce2f1203dd98a41e8f14961da3648b57600db134f0f10a73179", func := "loop.example/g00719/laws.FnExactIvJoin", spec := "fnExactIvJoin", apart := false, narrowed := true }
def FnExactIvJoinUptoSaid : Prop := fnExactIvJoinUptoRow.holds Try.pinned (OpenSpec.upto fnExactIvJoinSpec)

/-- 'laws.FnExactIvMeet', WHERE WHAT IT READS IS OF BULK AT MOST 1048576: true; the input reads as it did. -/
def fnExactIvMeetUptoRow : OpenClaim := { program := "ytojakiiohbmlaaa", sum := "b3db202f339cdce2f1203dd98a41e8f14961da3648b57600db134f0f10a73179", func := "loop.example/g00719/laws.FnExactIvMeet", spec := "fnExactIvMeet", apart := false, narrowed := true }
def FnExactIvMeetUptoSaid : Prop := fnExactIvMeetUptoRow.holds Try.pinned (OpenSpec.upto fnExactIvMeetSpec)

/-- 'laws.FnExactIvWiden', WHERE WHAT IT READS IS OF BULK AT MOST 1048576: true; the input reads as it did. -/
def fnExactIvWidenUptoRow : OpenClaim := { program := "ytojakiiohbmlaaa", sum := "b3db202f339cdce2f1203dd98a41e8f14961da3648b57600db134f0f10a73179", func := "loop.example/g00719/laws.FnExactIvWiden", spec := "fnExactIvWiden", apart := false, narrowed := true }
def FnExactIvWidenUptoSaid : Prop := fnExactIvWidenUptoRow.holds Try.pinned (OpenSpec.upto fnExactIvWidenSpec)

/-- 'laws.FnExactIvRem', WHERE WHAT IT READS IS OF BULK AT MOST 1048576: true; the input reads as it did. -/
def fnExactIvRemUptoRow : OpenClaim := { program := "ytojakiiohbmlaaa", sum := "b3db202f339cdce2f1203dd98a41e8f14961da3648b57600db134f0f10a73179", func := "loop.example/g00719/laws.FnExactIvRem", spec := "fnExactIvRem", apart := false, narrowed := true }
def FnExactIvRemUptoSaid : Prop := fnExactIvRemUptoRow.holds Try.pinned (OpenSpec.upto fnExactIvRemSpec)

end Rows
end Go.Proofs.Ytojakiiohbmlaaa
