/- What the laid variables hold when an alarm is read. -/
import Derived.Test.YtghommnbnafmkaaDoorAlmV
import Derived.LaidLaws
namespace Go.Proofs.YtghommnbnafmkaaDoor
open Go.ChangeShapes Go.WideShapes Go.ChangeAt Go.RowKit
set_option linter.unusedSimpArgs false

theorem gSyn : Tryd.prog.globalNamed "strconv.ErrSyntax" = some 3 := by kernel_rfl
theorem tSyn : (Tryd.prog.globals[3]?).map (·.type) = some 63 := by kernel_rfl
theorem gRan : Tryd.prog.globalNamed "strconv.ErrRange" = some 4 := by kernel_rfl
theorem tRan : (Tryd.prog.globals[4]?).map (·.type) = some 63 := by kernel_rfl
theorem syn_datum : ∃ nm d, (Rows.laid_strconv_ErrSyntax : DataW Unit) = .iface nm d := ⟨_, _, rfl⟩
theorem ran_datum : ∃ nm d, (Rows.laid_strconv_ErrRange : DataW Unit) = .iface nm d := ⟨_, _, rfl⟩
theorem err_of_vars {W : World} {l : List (String × DataW Unit)} {ps : List MemPlace} (h : DataW.LaidVars Tryd.prog W l ps) (h1 : ("strconv.ErrSyntax", Rows.laid_strconv_ErrSyntax) ∈ l) (h2 : ("strconv.ErrRange", Rows.laid_strconv_ErrRange) ∈ l) : ERR W := by
  constructor
  · obtain ⟨g0, t0, cs0, f0, p0, hg0, ht0, hv0, hd0⟩ := laid_mem h h1
    obtain rfl := Option.some.inj (gSyn.symm.trans hg0)
    obtain rfl := Option.some.inj (tSyn.symm.trans ht0)
    obtain ⟨nm, d, hd⟩ := syn_datum
    rw [hd] at hd0
    obtain ⟨_, u, v, hc, _, _⟩ := iface_of_trod Tryd.underlying63 hd0
    refine ⟨u, v, ?_⟩
    rw [World.var?_cell hg0 hv0 0]
    have : cs0[0]? = some (.iface u v) := by
      rw [← Array.getElem?_toList, hc]
      rfl
    rw [this]
  · obtain ⟨g0, t0, cs0, f0, p0, hg0, ht0, hv0, hd0⟩ := laid_mem h h2
    obtain rfl := Option.some.inj (gRan.symm.trans hg0)
    obtain rfl := Option.some.inj (tRan.symm.trans ht0)
    obtain ⟨nm, d, hd⟩ := ran_datum
    rw [hd] at hd0
    obtain ⟨_, u, v, hc, _, _⟩ := iface_of_trod Tryd.underlying63 hd0
    refine ⟨u, v, ?_⟩
    rw [World.var?_cell hg0 hv0 0]
    have : cs0[0]? = some (.iface u v) := by
      rw [← Array.getElem?_toList, hc]
      rfl
    rw [this]
theorem read_of_laid {W : World} {l : List (String × DataW Unit)} (h : laidMetH Tryd.prog l W) (hp : ∀ W, laidMetH Tryd.prog l W = laidMet Tryd.prog l W := by (intro W; exact MakeChecks.laidMetH_plain _ _ _ (by kernel_rfl))) (hm : ("loop.example/g00719/impl.alarmWords", Rows.laid_loop_example_g00719_impl_alarmWords) ∈ l := by simp) (h1 : ("strconv.ErrSyntax", Rows.laid_strconv_ErrSyntax) ∈ l := by simp) (h2 : ("strconv.ErrRange", Rows.laid_strconv_ErrRange) ∈ l := by simp) : ALW W ∧ ERR W := by
  rw [hp] at h
  obtain ⟨ps, hv, _⟩ := h
  exact ⟨alm_of_vars hv hm, err_of_vars hv h1 h2⟩
end Go.Proofs.YtghommnbnafmkaaDoor
