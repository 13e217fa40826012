/- Texts that go together: DoorC, LawD, EnvH. -/
import Derived.Test.YtpdnnpnclgcpoaaDoorDcZ
import Derived.ProofKit
import Derived.LaidMore
import Derived.OpenShut
import Derived.ChangeVars
import Derived.ChangeOld
import Derived.Deep.Strs
import Derived.Deep.SlicePairs
import Derived.Lib.SmallJoins
import Derived.Test.YtpdnnpnclgcpoaaDoorEvZ
/- What the rows' conditions give the walks: rows of texts and of arrays that came in; the words in the package's variable. -/
namespace Go.Proofs.YtpdnnpnclgcpoaaDoor
open Go.ChangeShapes Go.WideShapes Go.ChangeAt Go.RowKit
set_option linter.unusedSimpArgs false

theorem addr_none {w : World} {a : Addr} {v : Value} (h : w.cell? (a.add 0) = some v) : a = ⟨a.block, a.off, none⟩ := by
  have e : a.add 0 = a := by simp [Addr.add]
  rw [e] at h
  have := World.cell?_spot h
  cases a
  simp_all
theorem openS {H : Type} {enc : TypeId × Value → H} {W : World} {fuel : Nat} {v : Value} {y : DataW H × List MemPlace} (h : DataW.trod enc Tryd.prog W 0 (fun _ => true) true fuel 24 [v] = some y) : ∃ a cap xs, v = .slice a (List.length xs) cap ∧ StrsA W a xs := by
  rcases Deep.open_strs Tryd.underlying24 Tryd.underlying9 (by kernel_rfl) h with ⟨hcs, _⟩ | ⟨a, len, cap, m, Sx, hcs, _, hl, hm, hmm, _, hcell⟩
  · simp at hcs
    subst hcs
    exact ⟨none, 0, [], rfl, by simp, fun i hi => by simp at hi, .inl rfl⟩
  · simp at hcs hmm
    subst hcs hmm
    have ml : maxLen ≤ 9223372036854775807 := by decide
    refine ⟨some a, m, (List.range len).map Sx, by simp, by simp; omega, fun i hi => ?_, ?_⟩
    · simp at hi
      have := (hcell i (by omega)).2
      simp
      omega
    · by_cases h0 : len = 0
      · exact .inl (by simp [h0])
      · have c0 := (hcell 0 (by omega)).1
        have ea := addr_none c0
        refine .inr ⟨a.block, a.off, by rw [← ea], fun i hi => ?_⟩
        simp at hi
        have c := (hcell i (by omega)).1
        rw [ea, Addr.add_lit] at c
        simpa using c
theorem gKw : Tryd.prog.globalNamed "loop.example/g00719/impl.keywords" = some 0 := by kernel_rfl
theorem tKw : (Tryd.prog.globals[0]?).map (·.type) = some 147 := by kernel_rfl
theorem kw_datum : (Rows.laid_loop_example_g00719_impl_keywords : DataW Unit) = .agg (keysL.map fun s => .lit (.string s.data.toList)) := rfl
theorem kw_of_laid {W : World} (h : laidMetH Tryd.prog [("loop.example/g00719/impl.keywords", Rows.laid_loop_example_g00719_impl_keywords)] W) : KW W := by
  rw [MakeChecks.laidMetH_plain _ _ _ (by kernel_rfl)] at h
  obtain ⟨ps, ⟨g0, t0, cs0, f0, p0, q0, hg0, ht0, hv0, hd0, _, _⟩, _, _⟩ := h
  obtain rfl := Option.some.inj (gKw.symm.trans hg0)
  obtain rfl := Option.some.inj (tKw.symm.trans ht0)
  intro k hk
  obtain ⟨xs, m1, rfl, hx1, hlen, hn, hel⟩ := DataW.trod_array Tryd.underlying147 hd0
  have c1 : Tryd.prog.cellsOf 9 = 1 := by kernel_rfl
  have hk16 : k < 16 := by rw [← keysL_len]; exact hk
  have h0 := hel k hk16
  rw [c1] at h0
  have hk' : k < xs.length := by omega
  rw [List.getElem?_eq_getElem hk'] at h0
  obtain ⟨s, e1, e2, _⟩ := DataW.trod_string Tryd.underlying9 h0
  have hx2 : (xs.map (·.1))[k]? = (keysL.map fun s => (DataW.lit (.string s.data.toList) : DataW Unit))[k]? := by
    have := congrArg Prod.fst hx1
    rw [kw_datum] at this
    simp only [DataW.agg.injEq] at this
    rw [← this]
  rw [List.getElem?_map, List.getElem?_eq_getElem hk', List.getElem?_map, List.getElem?_eq_getElem hk] at hx2
  simp only [Option.map_some, Option.some.injEq] at hx2
  rw [e2] at hx2
  simp only [DataW.lit.injEq, Lit.string.injEq] at hx2
  have es : s = keysL[k] := bytes_inj hx2
  have hc := World.var?_cell hg0 hv0 k
  rw [hc]
  have e3 : cs0.toList[k]? = some (.string s) := by
    rw [Nat.mul_one] at e1
    have := congrArg List.head? e1
    rw [List.head?_take] at this
    simpa using this
  have e4 : cs0[k]? = some (.string s) := by simpa using e3
  rw [e4, es]
  rfl
end Go.Proofs.YtpdnnpnclgcpoaaDoor

/- The law of DeclOk: its walk. -/
namespace Go.Proofs.YtpdnnpnclgcpoaaDoor
open Go.RowKit
set_option linter.unusedSimpArgs false

theorem szD_ok {vs fs : List ByteArray} {rs : List (ByteArray × Int)} {l : Int} (h0 : 0 ≤ l) (h1 : l ≤ 1048576) (h : 0 ≤ szD vs fs rs l) : ((vs.length : Int) ≤ 1048576 ∧ (fs.length : Int) ≤ 1048576 ∧ (rs.length : Int) ≤ 1048576) ∧ (∀ x ∈ namesOf vs fs rs, x.size ≤ 1048576) ∧ szD vs fs rs l ≤ l := by
  unfold szD at h ⊢
  split at h
  · omega
  · rename_i g1
    rw [if_neg g1]
    split at h
    · omega
    · rename_i g2
      rw [if_neg g2]
      have q1 := szS_le vs l h0
      have q2 := szS_le fs (szS vs l) (by omega)
      have q3 := szA_le rs (szS fs (szS vs l)) (by omega)
      have e1 := szS_len vs l (by omega)
      have e2 := szS_len fs (szS vs l) (by omega)
      have e3 := szS_len (rs.map (·.1)) (szS fs (szS vs l)) (by unfold szA at h; omega)
      rw [List.length_map] at e3
      refine ⟨⟨by omega, by omega, by omega⟩, fun x hx => ?_, by omega⟩
      unfold namesOf at hx
      rcases List.mem_append.1 hx with hx | hx
      · rcases List.mem_append.1 hx with hx | hx
        · have := e1.2 x hx; omega
        · have := e2.2 x hx; omega
      · have := e3.2 x hx; omega
end Go.Proofs.YtpdnnpnclgcpoaaDoor

/- Right bounds, as the program asks for them; rows of intervals that came in. -/
namespace Go.Proofs.YtpdnnpnclgcpoaaDoor
open Go.ChangeShapes Go.WideShapes Go.ChangeAt Go.RowKit
set_option linter.unusedSimpArgs false

set_option maxRecDepth 20000 in
set_option maxHeartbeats 4000000 in
theorem iEnvOk_c (a1 a2 a3 : Option Addr) (c1 c2 c3 : Nat) (vs fs : List ByteArray) (rs : List (ByteArray × Int)) (li : Bool) (e1 e2 : Option Addr) (d1 d2 : Nat) (xs ys : List (Int × Int)) (w : World) (hw : KW w) (hv : Strs w a1 vs) (hf : Strs w a2 fs) (hr : Arrs w a3 rs)
    (hz : ∀ x ∈ namesOf vs fs rs, x.size ≤ 1048576) (hx : Ivs w e1 xs) (hy : Ivs w e2 ys) :
    Calls Tryd.prog 65 #[.agg #[.slice a1 vs.length c1, .slice a2 fs.length c2, .slice a3 rs.length c3], .agg #[.bool li, .slice e1 xs.length d1, .slice e2 ys.length d2]] w
    fun e w' => e = .returned (.bool (envB vs fs rs li xs ys)) ∧ Below w.heap.size w w' := by
  have HW := hide hw
  have HV := hide hv
  have HF := hide hf
  have HR := hide hr
  have HZ := hide hz
  have HX := hide hx
  have HY := hide hy
  have T0 := (C3.new w (.slice a1 vs.length c1) (.slice a2 fs.length c2) (.slice a3 rs.length c3) 27).alloc (Obj.cells #[.bool li, .slice e1 xs.length d1, .slice e2 ys.length d2] 43)
  have T1 := C3.new (w.alloc (Obj.cells #[.slice a1 vs.length c1, .slice a2 fs.length c2, .slice a3 rs.length c3] 27)) (.bool li) (.slice e1 xs.length d1) (.slice e2 ys.length d2) 43
  have K0 : Below w.heap.size w ((w.alloc (Obj.cells #[.slice a1 vs.length c1, .slice a2 fs.length c2, .slice a3 rs.length c3] 27)).alloc (Obj.cells #[.bool li, .slice e1 xs.length d1, .slice e2 ys.length d2] 43)) := ((Below.refl _ _).alloc (Nat.le_refl _) _).alloc (by simp) _
  rw [show (w.alloc (Obj.cells #[.slice a1 vs.length c1, .slice a2 fs.length c2, .slice a3 rs.length c3] 27)).heap.size = w.heap.size + 1 by simp] at T1
  have HT0 := hide T0
  have HT1 := hide T1
  have HK := hide K0
  clear T0 T1 K0 hv hf hr hz hx hy hw
  go_enter Tryd.func65, Tryd.ntmps65
  go_wp2_with fail
  generalize (w.alloc (Obj.cells #[.slice a1 vs.length c1, .slice a2 fs.length c2, .slice a3 rs.length c3] 27)).alloc (Obj.cells #[.bool li, .slice e1 xs.length d1, .slice e2 ys.length d2] 43) = u at HT0 HT1 HK ⊢
  refine (iDeclOk_c a1 a2 a3 _ _ _ vs fs rs _ ((unhide HW).call (unhide HK)) ((unhide HV).call (unhide HK)) ((unhide HF).call (unhide HK)) ((unhide HR).call (unhide HK)) (unhide HZ)).mono ?_
  rintro e u1 ⟨rfl, kb⟩
  have HT0 := hide ((unhide HT0).call kb)
  have HT1 := hide ((unhide HT1).call kb)
  have HK := hide ((unhide HK).trans (kb.mono (unhide HK).size))
  clear kb
  have HE := hide (show envB vs fs rs li xs ys = (declB vs fs rs && fitB vs.length rs.length li xs ys) from rfl)
  cases hd : declB vs fs rs
  · rw [hd] at HE
    clear hd
    go_wp2
    go_ret
    exact ⟨by rw [unhide HE]; rfl, unhide HK⟩
  rw [hd, Bool.true_and] at HE
  obtain ⟨hl1, hl2, hl3⟩ := declB_len hd
  clear hd hl2
  go_wp2_with fail
  refine (fits_c (w.heap.size + 1) w.heap.size a1 a2 a3 c1 c2 c3 vs fs rs li e1 e2 d1 d2 xs ys _ (unhide HT0) (unhide HT1) hl1 hl3 ((unhide HX).call (unhide HK)) ((unhide HY).call (unhide HK))).mono ?_
  rintro e u2 ⟨rfl, kb⟩
  have HK := hide ((unhide HK).trans (kb.mono (unhide HK).size))
  clear kb
  go_wp2
  go_ret
  exact ⟨by rw [unhide HE]; rfl, unhide HK⟩
theorem openT {H : Type} {enc : TypeId × Value → H} {W : World} {fuel : Nat} {v : Value} {y : DataW H × List MemPlace} (h : DataW.trod enc Tryd.prog W 0 (fun _ => true) true fuel 4 [v] = some y) : ∃ b, v = .bool b := by
  cases fuel with
  | zero => simp [DataW.trod] at h
  | succ n =>
    cases v <;> simp [DataW.trod, Tryd.underlying4] at h
    exact ⟨_, rfl⟩
end Go.Proofs.YtpdnnpnclgcpoaaDoor

