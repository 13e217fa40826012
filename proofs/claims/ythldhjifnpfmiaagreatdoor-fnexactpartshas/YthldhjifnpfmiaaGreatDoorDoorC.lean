/- What the rows' conditions give the walks: rows of texts and of arrays that came in; the words in the package's variable. -/
import Derived.Test.YthldhjifnpfmiaaGreatDoorDeclF
import Derived.ProofKit
import Derived.LaidMore
import Derived.OpenShut
import Derived.ChangeVars
import Derived.ChangeOld
import Derived.Deep.Strs
import Derived.Deep.SlicePairs
import Derived.Lib.SmallJoins
namespace Go.Proofs.YthldhjifnpfmiaaGreatDoor
open Go.ChangeShapes Go.WideShapes Go.ChangeAt Go.RowKit
set_option linter.unusedSimpArgs false

theorem addr_none {w : World} {a : Addr} {v : Value} (h : w.cell? (a.add 0) = some v) : a = ⟨a.block, a.off, none⟩ := by
  have e : a.add 0 = a := by simp [Addr.add]
  rw [e] at h
  have := World.cell?_spot h
  cases a
  simp_all
theorem openS {H : Type} {enc : TypeId × Value → H} {W : World} {fuel : Nat} {v : Value} {y : DataW H × List MemPlace} (h : DataW.trod enc Tryz.prog W 0 (fun _ => true) true fuel 22 [v] = some y) : ∃ a cap xs, v = .slice a (List.length xs) cap ∧ StrsA W a xs := by
  rcases Deep.open_strs Tryz.underlying22 Tryz.underlying9 (by kernel_rfl) h with ⟨hcs, _⟩ | ⟨a, len, cap, m, Sx, hcs, _, hl, hm, hmm, _, hcell⟩
  · simp at hcs
    subst hcs
    exact ⟨none, 0, [], rfl, by simp, fun i hi => by simp at hi, .inl rfl⟩
  · simp at hcs hmm
    subst hcs hmm
    have ml : maxLen ≤ 9223372036854775807 := by decide
    refine ⟨some a, m, (List.range len).map Sx, by simp, by simp; omega, fun i hi => ?_, ?_⟩
    · simp at hi
      have := (hcell i (by omega)).2
      simp
      omega
    · by_cases h0 : len = 0
      · exact .inl (by simp [h0])
      · have c0 := (hcell 0 (by omega)).1
        have ea := addr_none c0
        refine .inr ⟨a.block, a.off, by rw [← ea], fun i hi => ?_⟩
        simp at hi
        have c := (hcell i (by omega)).1
        rw [ea, Addr.add_lit] at c
        simpa using c
theorem openA {H : Type} {enc : TypeId × Value → H} {W : World} {fuel : Nat} {v : Value} {y : DataW H × List MemPlace} (h : DataW.trod enc Tryz.prog W 0 (fun _ => true) true fuel 23 [v] = some y) : ∃ a cap xs, v = .slice a (List.length xs) cap ∧ ArrsA W a xs := by
  rcases Deep.open_slice_pairs Tryz.underlying23 Tryz.underlying100 (by kernel_rfl) rfl rfl (by kernel_rfl) (by kernel_rfl) h with ⟨hcs, _⟩ | ⟨a, len, cap, m, n, V0, V1, D0, D1, P0, P1, hcs, _, hl, hm, hmm, _, hcell⟩
  · simp at hcs
    subst hcs
    exact ⟨none, 0, [], rfl, by simp, fun i hi => by simp at hi, .inl rfl⟩
  · simp at hcs hmm
    subst hcs hmm
    have ml : maxLen ≤ 9223372036854775807 := by decide
    have each : ∀ i, i < len → ∃ q : ByteArray × Int, V0 i = .string q.1 ∧ V1 i = .int .i64 q.2 ∧ q.1.size ≤ maxLen := fun i hi => by
      obtain ⟨_, _, h0, h1⟩ := hcell i (by omega)
      obtain ⟨s, e1, _, hs⟩ := DataW.trod_string Tryz.underlying9 h0
      obtain ⟨k, e2, _⟩ := DataW.trod_int Tryz.underlying2 h1
      exact ⟨(s, k), by simpa using e1, by simpa using e2, hs⟩
    obtain ⟨Q, hQ⟩ := Deep.choose_lt each
    refine ⟨some a, m, (List.range len).map Q, by simp, by simp; omega, fun i hi => ?_, ?_⟩
    · simp at hi
      have := (hQ i (by omega)).2.2
      simp
      omega
    · by_cases h0 : len = 0
      · exact .inl (by simp [h0])
      · have c0 := (hcell 0 (by omega)).1
        have ea := addr_none c0
        refine .inr ⟨a.block, a.off, by rw [← ea], fun i hi => ?_⟩
        simp at hi
        obtain ⟨c1, c2, _, _⟩ := hcell i (by omega)
        rw [ea, Addr.add_lit, (hQ i (by omega)).1] at c1
        rw [ea, Addr.add_lit, (hQ i (by omega)).2.1] at c2
        exact ⟨by simpa using c1, by simpa [Nat.add_assoc] using c2⟩
theorem gKw : Tryz.prog.globalNamed "loop.example/g00719/impl.keywords" = some 0 := by kernel_rfl
theorem tKw : (Tryz.prog.globals[0]?).map (·.type) = some 146 := by kernel_rfl
theorem kw_datum : (Rows.laid_loop_example_g00719_impl_keywords : DataW Unit) = .agg (keysL.map fun s => .lit (.string s.data.toList)) := rfl
theorem kw_of_laid {W : World} (h : laidMetH Tryz.prog [("loop.example/g00719/impl.keywords", Rows.laid_loop_example_g00719_impl_keywords)] W) : KW W := by
  rw [MakeChecks.laidMetH_plain _ _ _ (by kernel_rfl)] at h
  obtain ⟨ps, ⟨g0, t0, cs0, f0, p0, q0, hg0, ht0, hv0, hd0, _, _⟩, _, _⟩ := h
  obtain rfl := Option.some.inj (gKw.symm.trans hg0)
  obtain rfl := Option.some.inj (tKw.symm.trans ht0)
  intro k hk
  obtain ⟨xs, m1, rfl, hx1, hlen, hn, hel⟩ := DataW.trod_array Tryz.underlying146 hd0
  have c1 : Tryz.prog.cellsOf 9 = 1 := by kernel_rfl
  have hk16 : k < 16 := by rw [← keysL_len]; exact hk
  have h0 := hel k hk16
  rw [c1] at h0
  have hk' : k < xs.length := by omega
  rw [List.getElem?_eq_getElem hk'] at h0
  obtain ⟨s, e1, e2, _⟩ := DataW.trod_string Tryz.underlying9 h0
  have hx2 : (xs.map (·.1))[k]? = (keysL.map fun s => (DataW.lit (.string s.data.toList) : DataW Unit))[k]? := by
    have := congrArg Prod.fst hx1
    rw [kw_datum] at this
    simp only [DataW.agg.injEq] at this
    rw [← this]
  rw [List.getElem?_map, List.getElem?_eq_getElem hk', List.getElem?_map, List.getElem?_eq_getElem hk] at hx2
  simp only [Option.map_some, Option.some.injEq] at hx2
  rw [e2] at hx2
  simp only [DataW.lit.injEq, Lit.string.injEq] at hx2
  have es : s = keysL[k] := bytes_inj hx2
  have hc := World.var?_cell hg0 hv0 k
  rw [hc]
  have e3 : cs0.toList[k]? = some (.string s) := by
    rw [Nat.mul_one] at e1
    have := congrArg List.head? e1
    rw [List.head?_take] at this
    simpa using this
  have e4 : cs0[k]? = some (.string s) := by simpa using e3
  rw [e4, es]
  rfl
end Go.Proofs.YthldhjifnpfmiaaGreatDoor
