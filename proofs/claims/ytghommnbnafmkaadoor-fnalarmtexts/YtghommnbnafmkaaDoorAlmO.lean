/- What the package's table of alarms' words holds, out of the row's own condition. -/
import Derived.Test.YtghommnbnafmkaaDoorAlmD
import Derived.ProofKit
import Derived.LaidMore
import Derived.OpenShut
import Derived.ChangeVars
import Derived.ChangeOld
import Derived.Lib.SmallJoins
namespace Go.Proofs.YtghommnbnafmkaaDoor
open Go.ChangeShapes Go.WideShapes Go.ChangeAt Go.RowKit
set_option linter.unusedSimpArgs false

theorem gAlm : Tryd.prog.globalNamed "loop.example/g00719/impl.alarmWords" = some 0 := by kernel_rfl
theorem tAlm : (Tryd.prog.globals[0]?).map (·.type) = some 42 := by kernel_rfl
def almL : List ByteArray := (List.range 9).map fun (k : Nat) => wordK k
theorem almL_at (k : Nat) (hk : k < 9) : almL[k]? = some (wordK k) := by
  unfold almL
  rw [List.getElem?_map, List.getElem?_range hk]
  rfl
theorem alm_datum : (Rows.laid_loop_example_g00719_impl_alarmWords : DataW Unit) = .agg (almL.map fun s => .lit (.string s.data.toList)) := rfl
theorem bytes_inj {a b : ByteArray} (h : a.data.toList = b.data.toList) : a = b := by
  cases a
  cases b
  simpa using h
/-- Each laid variable's own facts. -/
theorem laid_mem {P : Program} {w : World} {n : String} {d : DataW Unit} : ∀ {l : List (String × DataW Unit)} {ps : List MemPlace}, DataW.LaidVars P w l ps → (n, d) ∈ l → ∃ g t cs fuel p, P.globalNamed n = some g ∧ (P.globals[g]?).map (·.type) = some t ∧ w.var? P n = some cs ∧ DataW.trod (fun _ => ()) P w 0 (fun _ => true) false fuel t cs.toList = some (d, p)
  | [], _, _, hm => by simp at hm
  | (n', d') :: r, ps, h, hm => by
    obtain ⟨g, t, cs, fuel, p, q, h1, h2, h3, h4, h5, _⟩ := h
    rcases List.mem_cons.1 hm with e | hm
    · obtain ⟨rfl, rfl⟩ := Prod.mk.inj e
      exact ⟨g, t, cs, fuel, p, h1, h2, h3, h4⟩
    · exact laid_mem h5 hm
theorem alm_of_vars {W : World} {l : List (String × DataW Unit)} {ps : List MemPlace} (h : DataW.LaidVars Tryd.prog W l ps) (hm : ("loop.example/g00719/impl.alarmWords", Rows.laid_loop_example_g00719_impl_alarmWords) ∈ l) : ALW W := by
  obtain ⟨g0, t0, cs0, f0, p0, hg0, ht0, hv0, hd0⟩ := laid_mem h hm
  obtain rfl := Option.some.inj (gAlm.symm.trans hg0)
  obtain rfl := Option.some.inj (tAlm.symm.trans ht0)
  intro k hk
  obtain ⟨xs, m1, rfl, hx1, hlen, hn, hel⟩ := DataW.trod_array Tryd.underlying42 hd0
  have c1 : Tryd.prog.cellsOf 9 = 1 := by kernel_rfl
  have h0 := hel k hk
  rw [c1] at h0
  have hk' : k < xs.length := by omega
  rw [List.getElem?_eq_getElem hk'] at h0
  obtain ⟨s, e1, e2, _⟩ := DataW.trod_string Tryd.underlying9 h0
  have hx2 : (xs.map (·.1))[k]? = (almL.map fun s => (DataW.lit (.string s.data.toList) : DataW Unit))[k]? := by
    have := congrArg Prod.fst hx1
    rw [alm_datum] at this
    simp only [DataW.agg.injEq] at this
    rw [← this]
  rw [List.getElem?_map, List.getElem?_eq_getElem hk', List.getElem?_map, almL_at k hk] at hx2
  simp only [Option.map_some, Option.some.injEq] at hx2
  rw [e2] at hx2
  simp only [DataW.lit.injEq, Lit.string.injEq] at hx2
  have es : s = wordK k := bytes_inj hx2
  have hc := World.var?_cell hg0 hv0 k
  rw [hc]
  have e3 : cs0.toList[k]? = some (.string s) := by
    rw [Nat.mul_one] at e1
    have := congrArg List.head? e1
    rw [List.head?_take] at this
    simpa using this
  have e4 : cs0[k]? = some (.string s) := by simpa using e3
  rw [e4, es]
theorem alm_of_laid {W : World} {l : List (String × DataW Unit)} (h : laidMetH Tryd.prog l W) (hp : ∀ W, laidMetH Tryd.prog l W = laidMet Tryd.prog l W := by (intro W; exact MakeChecks.laidMetH_plain _ _ _ (by kernel_rfl))) (hm : ("loop.example/g00719/impl.alarmWords", Rows.laid_loop_example_g00719_impl_alarmWords) ∈ l := by simp) : ALW W := by
  rw [hp] at h
  obtain ⟨ps, hv, _⟩ := h
  exact alm_of_vars hv hm
end Go.Proofs.YtghommnbnafmkaaDoor
