/- What the package's table of opposites holds, out of the row's own condition. -/
import Derived.Test.YtlgjbfkhajphdaaDoorCmpD
import Derived.ProofKit
import Derived.LaidMore
import Derived.OpenShut
import Derived.ChangeVars
import Derived.ChangeOld
import Derived.Lib.SmallJoins
namespace Go.Proofs.YtlgjbfkhajphdaaDoor
open Go.ChangeShapes Go.WideShapes Go.ChangeAt Go.RowKit
set_option linter.unusedSimpArgs false

theorem gOp : Tryd.prog.globalNamed "loop.example/g00719/impl.opposites" = some 0 := by kernel_rfl
theorem tOp : (Tryd.prog.globals[0]?).map (·.type) = some 44 := by kernel_rfl
def oppL : List Int := [0, 0, 0, 0, 0, 0, 0, 0, 0, 0, 0, 0, 0, 18, 17, 16, 15, 14, 13]
theorem op_datum : (Rows.laid_loop_example_g00719_impl_opposites : DataW Unit) = .agg (oppL.map fun n => .lit (.int .i64 n)) := rfl
theorem opp_at {W : World} (h : laidMetH Tryd.prog [("loop.example/g00719/impl.opposites", Rows.laid_loop_example_g00719_impl_opposites)] W) (k : Nat) (hk : k < oppL.length) : W.cell? ⟨0, k, none⟩ = some (.int .i64 oppL[k]) := by
  rw [MakeChecks.laidMetH_plain _ _ _ (by kernel_rfl)] at h
  obtain ⟨ps, ⟨g0, t0, cs0, f0, p0, q0, hg0, ht0, hv0, hd0, _, _⟩, _, _⟩ := h
  obtain rfl := Option.some.inj (gOp.symm.trans hg0)
  obtain rfl := Option.some.inj (tOp.symm.trans ht0)
  obtain ⟨xs, m1, rfl, hx1, hlen, hn, hel⟩ := DataW.trod_array Tryd.underlying44 hd0
  have c1 : Tryd.prog.cellsOf 2 = 1 := by kernel_rfl
  have hk19 : k < 19 := hk
  have h0 := hel k hk19
  rw [c1] at h0
  have hk' : k < xs.length := by omega
  rw [List.getElem?_eq_getElem hk'] at h0
  obtain ⟨s, e1, e2, _⟩ := DataW.trod_int Tryd.underlying2 h0
  have hx2 : (xs.map (·.1))[k]? = (oppL.map fun n => (DataW.lit (.int .i64 n) : DataW Unit))[k]? := by
    have := congrArg Prod.fst hx1
    rw [op_datum] at this
    simp only [DataW.agg.injEq] at this
    rw [← this]
  rw [List.getElem?_map, List.getElem?_eq_getElem hk', List.getElem?_map, List.getElem?_eq_getElem hk] at hx2
  simp only [Option.map_some, Option.some.injEq] at hx2
  rw [e2] at hx2
  simp only [DataW.lit.injEq, Lit.int.injEq] at hx2
  have es : s = oppL[k] := hx2.2
  have hc := World.var?_cell hg0 hv0 k
  rw [hc]
  have e3 : cs0.toList[k]? = some (.int .i64 s) := by
    rw [Nat.mul_one] at e1
    have := congrArg List.head? e1
    rw [List.head?_take] at this
    simpa using this
  have e4 : cs0[k]? = some (.int .i64 s) := by simpa using e3
  rw [e4, es]
  rfl
theorem opp_of_laid {W : World} (h : laidMetH Tryd.prog [("loop.example/g00719/impl.opposites", Rows.laid_loop_example_g00719_impl_opposites)] W) : OPP W :=
  ⟨opp_at h 13 (by decide), opp_at h 14 (by decide), opp_at h 15 (by decide), opp_at h 16 (by decide), opp_at h 17 (by decide), opp_at h 18 (by decide)⟩
end Go.Proofs.YtlgjbfkhajphdaaDoor
