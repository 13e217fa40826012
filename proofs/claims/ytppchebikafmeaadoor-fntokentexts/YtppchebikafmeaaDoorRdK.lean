/- What the laid variables hold when a token is read. -/
import Derived.Test.YtppchebikafmeaaDoorRdZ
import Derived.LaidLaws
import Derived.ProofKit
import Derived.LaidMore
import Derived.OpenShut
import Derived.ChangeVars
import Derived.ChangeOld
import Derived.Lib.SmallJoins
namespace Go.Proofs.YtppchebikafmeaaDoor
open Go.ChangeShapes Go.WideShapes Go.ChangeAt Go.RowKit
set_option linter.unusedSimpArgs false

theorem laid_mem {P : Program} {w : World} {n : String} {d : DataW Unit} : ∀ {l : List (String × DataW Unit)} {ps : List MemPlace}, DataW.LaidVars P w l ps → (n, d) ∈ l → ∃ g t cs fuel p, P.globalNamed n = some g ∧ (P.globals[g]?).map (·.type) = some t ∧ w.var? P n = some cs ∧ DataW.trod (fun _ => ()) P w 0 (fun _ => true) false fuel t cs.toList = some (d, p)
  | [], _, _, hm => by simp at hm
  | (n', d') :: r, ps, h, hm => by
    obtain ⟨g, t, cs, fuel, p, q, h1, h2, h3, h4, h5, _⟩ := h
    rcases List.mem_cons.1 hm with e | hm
    · obtain ⟨rfl, rfl⟩ := Prod.mk.inj e
      exact ⟨g, t, cs, fuel, p, h1, h2, h3, h4⟩
    · exact laid_mem h5 hm
theorem gSyn : Tryd.prog.globalNamed "strconv.ErrSyntax" = some 2 := by kernel_rfl
theorem tSyn : (Tryd.prog.globals[2]?).map (·.type) = some 65 := by kernel_rfl
theorem gRan : Tryd.prog.globalNamed "strconv.ErrRange" = some 3 := by kernel_rfl
theorem tRan : (Tryd.prog.globals[3]?).map (·.type) = some 65 := by kernel_rfl
theorem syn_datum : ∃ nm d, (Rows.laid_strconv_ErrSyntax : DataW Unit) = .iface nm d := ⟨_, _, rfl⟩
theorem ran_datum : ∃ nm d, (Rows.laid_strconv_ErrRange : DataW Unit) = .iface nm d := ⟨_, _, rfl⟩
theorem err_of_vars {W : World} {l : List (String × DataW Unit)} {ps : List MemPlace} (h : DataW.LaidVars Tryd.prog W l ps) (h1 : ("strconv.ErrSyntax", Rows.laid_strconv_ErrSyntax) ∈ l) (h2 : ("strconv.ErrRange", Rows.laid_strconv_ErrRange) ∈ l) : ERR W := by
  constructor
  · obtain ⟨g0, t0, cs0, f0, p0, hg0, ht0, hv0, hd0⟩ := laid_mem h h1
    obtain rfl := Option.some.inj (gSyn.symm.trans hg0)
    obtain rfl := Option.some.inj (tSyn.symm.trans ht0)
    obtain ⟨nm, d, hd⟩ := syn_datum
    rw [hd] at hd0
    obtain ⟨_, u, v, hc, _, _⟩ := iface_of_trod Tryd.underlying65 hd0
    refine ⟨u, v, ?_⟩
    rw [World.var?_cell hg0 hv0 0]
    have : cs0[0]? = some (.iface u v) := by
      rw [← Array.getElem?_toList, hc]
      rfl
    rw [this]
  · obtain ⟨g0, t0, cs0, f0, p0, hg0, ht0, hv0, hd0⟩ := laid_mem h h2
    obtain rfl := Option.some.inj (gRan.symm.trans hg0)
    obtain rfl := Option.some.inj (tRan.symm.trans ht0)
    obtain ⟨nm, d, hd⟩ := ran_datum
    rw [hd] at hd0
    obtain ⟨_, u, v, hc, _, _⟩ := iface_of_trod Tryd.underlying65 hd0
    refine ⟨u, v, ?_⟩
    rw [World.var?_cell hg0 hv0 0]
    have : cs0[0]? = some (.iface u v) := by
      rw [← Array.getElem?_toList, hc]
      rfl
    rw [this]
theorem err_of_laid {W : World} {l : List (String × DataW Unit)} (h : laidMetH Tryd.prog l W) (hp : ∀ W, laidMetH Tryd.prog l W = laidMet Tryd.prog l W := by (intro W; exact MakeChecks.laidMetH_plain _ _ _ (by kernel_rfl))) (h1 : ("strconv.ErrSyntax", Rows.laid_strconv_ErrSyntax) ∈ l := by simp) (h2 : ("strconv.ErrRange", Rows.laid_strconv_ErrRange) ∈ l := by simp) : ERR W := by
  rw [hp] at h
  obtain ⟨ps, hv, _⟩ := h
  exact err_of_vars hv h1 h2
end Go.Proofs.YtppchebikafmeaaDoor
