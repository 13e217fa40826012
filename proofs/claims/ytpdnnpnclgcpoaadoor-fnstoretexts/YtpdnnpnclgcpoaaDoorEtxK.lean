/- What the words' variable and the table of powers hold, out of the row's own condition; bounds opened, their ends in range. -/
import Derived.Test.YtpdnnpnclgcpoaaDoorEtxF
import Derived.Test.YtpdnnpnclgcpoaaDoorDoZ
import Derived.ProofKit
import Derived.LaidMore
import Derived.OpenShut
import Derived.ChangeVars
import Derived.ChangeOld
import Derived.Lib.SmallJoins
import Derived.Lib.LaidTab
namespace Go.Proofs.YtpdnnpnclgcpoaaDoor
open Go.ChangeShapes Go.WideShapes Go.ChangeAt Go.RowKit
set_option linter.unusedSimpArgs false
set_option linter.unusedVariables false

/-- Each laid variable's own facts. -/
theorem laid_mem {P : Program} {w : World} {n : String} {d : DataW Unit} : ∀ {l : List (String × DataW Unit)} {ps : List MemPlace}, DataW.LaidVars P w l ps → (n, d) ∈ l → ∃ g t cs fuel p, P.globalNamed n = some g ∧ (P.globals[g]?).map (·.type) = some t ∧ w.var? P n = some cs ∧ DataW.trod (fun _ => ()) P w 0 (fun _ => true) false fuel t cs.toList = some (d, p)
  | [], _, _, hm => by simp at hm
  | (n', d') :: r, ps, h, hm => by
    obtain ⟨g, t, cs, fuel, p, q, h1, h2, h3, h4, h5, _⟩ := h
    rcases List.mem_cons.1 hm with e | hm
    · obtain ⟨rfl, rfl⟩ := Prod.mk.inj e
      exact ⟨g, t, cs, fuel, p, h1, h2, h3, h4⟩
    · exact laid_mem h5 hm
theorem kw_of_vars {W : World} {l : List (String × DataW Unit)} {ps : List MemPlace} (h : DataW.LaidVars Tryd.prog W l ps) (hm : ("loop.example/g00719/impl.keywords", Rows.laid_loop_example_g00719_impl_keywords) ∈ l) : KW W := by
  obtain ⟨g0, t0, cs0, f0, p0, hg0, ht0, hv0, hd0⟩ := laid_mem h hm
  obtain rfl := Option.some.inj (gKw.symm.trans hg0)
  obtain rfl := Option.some.inj (tKw.symm.trans ht0)
  intro k hk
  obtain ⟨xs, m1, rfl, hx1, hlen, hn, hel⟩ := DataW.trod_array Tryd.underlying147 hd0
  have c1 : Tryd.prog.cellsOf 9 = 1 := by kernel_rfl
  have hk16 : k < 16 := by rw [← keysL_len]; exact hk
  have h0 := hel k hk16
  rw [c1] at h0
  have hk' : k < xs.length := by omega
  rw [List.getElem?_eq_getElem hk'] at h0
  obtain ⟨s, e1, e2, _⟩ := DataW.trod_string Tryd.underlying9 h0
  have hx2 : (xs.map (·.1))[k]? = (keysL.map fun s => (DataW.lit (.string s.data.toList) : DataW Unit))[k]? := by
    have := congrArg Prod.fst hx1
    rw [kw_datum] at this
    simp only [DataW.agg.injEq] at this
    rw [← this]
  rw [List.getElem?_map, List.getElem?_eq_getElem hk', List.getElem?_map, List.getElem?_eq_getElem hk] at hx2
  simp only [Option.map_some, Option.some.injEq] at hx2
  rw [e2] at hx2
  simp only [DataW.lit.injEq, Lit.string.injEq] at hx2
  have es : s = keysL[k] := bytes_inj hx2
  have hc := World.var?_cell hg0 hv0 k
  rw [hc]
  have e3 : cs0.toList[k]? = some (.string s) := by
    rw [Nat.mul_one] at e1
    have := congrArg List.head? e1
    rw [List.head?_take] at this
    simpa using this
  have e4 : cs0[k]? = some (.string s) := by simpa using e3
  rw [e4, es]
  rfl
theorem gTab : Tryd.prog.globalNamed "internal/strconv.uint64pow10" = some 1 := by kernel_rfl
theorem tTab : (Tryd.prog.globals[1]?).map (·.type) = some 166 := by kernel_rfl
theorem tab_datum : (Rows.laid_internal_strconv_uint64pow10 : DataW Unit) = Lib.tabData .u64 Lib.pow10Tab := rfl
theorem p10_of_vars {W : World} {l : List (String × DataW Unit)} {ps : List MemPlace} (h : DataW.LaidVars Tryd.prog W l ps) (hm : ("internal/strconv.uint64pow10", Rows.laid_internal_strconv_uint64pow10) ∈ l) : P10 W := by
  obtain ⟨g0, t0, cs0, f0, p0, hg0, ht0, hv0, hd0⟩ := laid_mem h hm
  obtain rfl := Option.some.inj (gTab.symm.trans hg0)
  obtain rfl := Option.some.inj (tTab.symm.trans ht0)
  rw [tab_datum] at hd0
  unfold P10 Lib.TabIs
  rw [hv0, ← Lib.cells_of_tab Tryd.underlying166 Tryd.underlying120 (by kernel_rfl) (by kernel_rfl) hd0]
theorem kt_of_laid {W : World} {l : List (String × DataW Unit)} (h : laidMetH Tryd.prog l W) (hp : ∀ W, laidMetH Tryd.prog l W = laidMet Tryd.prog l W := by (intro W; exact MakeChecks.laidMetH_plain _ _ _ (by kernel_rfl))) (hm : ("loop.example/g00719/impl.keywords", Rows.laid_loop_example_g00719_impl_keywords) ∈ l := by simp) (h1 : ("internal/strconv.uint64pow10", Rows.laid_internal_strconv_uint64pow10) ∈ l := by simp) : KW W ∧ P10 W := by
  rw [hp] at h
  obtain ⟨ps, hv, _⟩ := h
  exact ⟨kw_of_vars hv hm, p10_of_vars hv h1⟩
end Go.Proofs.YtpdnnpnclgcpoaaDoor
