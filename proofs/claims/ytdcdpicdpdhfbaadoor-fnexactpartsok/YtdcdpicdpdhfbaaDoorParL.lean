/- Rows of bounds that came in; the walks of the laws of tables. -/
import Derived.Test.YtdcdpicdpdhfbaaDoorTabO
import Derived.Test.YtdcdpicdpdhfbaaDoorParF
import Derived.Test.YtdcdpicdpdhfbaaDoorParG
namespace Go.Proofs.YtdcdpicdpdhfbaaDoor
open Go.ChangeShapes Go.WideShapes Go.ChangeAt Go.RowKit
set_option linter.unusedSimpArgs false
set_option linter.unusedVariables false

theorem openQ {H : Type} {enc : TypeId × Value → H} {W : World} {fuel : Nat} {v : Value} {y : DataW H × List MemPlace} (h : DataW.trod enc Tryd.prog W 0 (fun _ => true) true fuel 44 [v] = some y) : ∃ a cap xs, v = .slice a (List.length xs) cap ∧ IvsA W a xs := by
  rcases Deep.open_slice_pairs Tryd.underlying44 Tryd.underlying112 (by kernel_rfl) rfl rfl (by kernel_rfl) (by kernel_rfl) h with ⟨hcs, _⟩ | ⟨a, len, cap, m, n, V0, V1, D0, D1, P0, P1, hcs, _, hl, hm, hmm, _, hcell⟩
  · simp at hcs
    subst hcs
    exact ⟨none, 0, [], rfl, by simp, .inl rfl⟩
  · simp at hcs hmm
    subst hcs hmm
    have ml : maxLen ≤ 9223372036854775807 := by decide
    have each : ∀ i, i < len → ∃ q : Int × Int, V0 i = .int .i64 q.1 ∧ V1 i = .int .i64 q.2 := fun i hi => by
      obtain ⟨_, _, h0, h1⟩ := hcell i (by omega)
      obtain ⟨s, e1, _⟩ := DataW.trod_int Tryd.underlying2 h0
      obtain ⟨k, e2, _⟩ := DataW.trod_int Tryd.underlying2 h1
      exact ⟨(s, k), by simpa using e1, by simpa using e2⟩
    obtain ⟨Q, hQ⟩ := Deep.choose_lt each
    refine ⟨some a, m, (List.range len).map Q, by simp, by simp; omega, ?_⟩
    by_cases h0 : len = 0
    · exact .inl (by simp [h0])
    · have c0 := (hcell 0 (by omega)).1
      have ea := addr_none c0
      refine .inr ⟨a.block, a.off, by rw [← ea], fun i hi => ?_⟩
      simp at hi
      obtain ⟨c1, c2, _, _⟩ := hcell i (by omega)
      rw [ea, Addr.add_lit, (hQ i (by omega)).1] at c1
      rw [ea, Addr.add_lit, (hQ i (by omega)).2] at c2
      exact ⟨by simpa using c1, by simpa [Nat.add_assoc] using c2⟩
theorem two_list {α : Type} {l : List α} (h : l.length = 2) : ∃ a b, l = [a, b] := by
  match l, h with
  | [a, b], _ => exact ⟨a, b, rfl⟩
theorem openP3 {H : Type} {enc : TypeId × Value → H} {W : World} {fuel : Nat} {v : Value} {y : DataW H × List MemPlace} (h : DataW.trod enc Tryd.prog W 0 (fun _ => true) true fuel 26 [v] = some y) : ∃ a cap es, v = .slice a (List.length es) cap ∧ PartsA W a es := by
  rcases Deep.open_slice Tryd.underlying26 h with ⟨hcs, _⟩ | ⟨a, len, cap, m, n, D, Pl, hcs, hb, hl, hm, hmm, _, hx⟩
  · simp at hcs
    subst hcs
    exact ⟨none, 0, [], rfl, by simp, .inl rfl⟩
  · simp at hcs hmm
    subst hcs hmm
    have ml : maxLen ≤ 9223372036854775807 := by decide
    have ce : Tryd.prog.cellsOf 47 = 2 := by kernel_rfl
    have cb : Tryd.prog.cellsOf 44 = 1 := by kernel_rfl
    have cv : Tryd.prog.cellsOf 45 = 1 := by kernel_rfl
    have each : ∀ i, i < len → ∃ q : PR × (Option Addr × Nat) × (Option Addr × Nat), W.cell? (a.add (i * 2)) = some (.slice q.2.1.1 q.1.1.length q.2.1.2) ∧ W.cell? (a.add (i * 2 + 1)) = some (.slice q.2.2.1 q.1.2.length q.2.2.2) ∧ IvsA W q.2.1.1 q.1.1 ∧ EnvsA W q.2.2.1 q.1.2 := fun i hi => by
      obtain ⟨cs', h1, h2⟩ := hx i (by omega)
      rw [ce] at h1
      obtain ⟨_, hlen, hcell⟩ := World.cells?_some h1
      obtain ⟨xs, k, hk, hxy, _, hxl, hf⟩ := DataW.trod_struct Tryd.underlying47 h2
      obtain ⟨y0, y1, rfl⟩ := two_list (by simpa using hxl)
      obtain ⟨v0, v1, rfl⟩ := two_list hlen
      · have g0 : DataW.trod enc Tryd.prog W 0 (fun _ => true) true k 44 [v0] = some y0 := by
          have g : DataW.trod enc Tryd.prog W 0 (fun _ => true) true k 44 (([v0, v1].drop 0).take (Tryd.prog.cellsOf 44)) = some y0 := hf 0 _ rfl
          rw [cb] at g
          exact g
        have g1 : DataW.trod enc Tryd.prog W 0 (fun _ => true) true k 45 [v1] = some y1 := by
          have g : DataW.trod enc Tryd.prog W 0 (fun _ => true) true k 45 (([v0, v1].drop 1).take (Tryd.prog.cellsOf 45)) = some y1 := hf 1 _ rfl
          rw [cv] at g
          exact g
        have e0 := hcell 0 (by omega)
        have e1 := hcell 1 (by omega)
        rw [Deep.add_add] at e0 e1
        obtain ⟨xa, xc, x1, rfl, f1⟩ := openQ g0
        obtain ⟨ya, yc, x2, rfl, f2⟩ := openE3 g1
        exact ⟨((x1, x2), (xa, xc), (ya, yc)), by simpa using e0, by simpa using e1, f1, f2⟩
    obtain ⟨Q, hQ⟩ := Deep.choose_lt each
    refine ⟨some a, m, (List.range len).map fun i => (Q i).1, by simp, by simp; omega, ?_⟩
    by_cases h0 : len = 0
    · exact .inl (by simp [h0])
    · have c0 := (hQ 0 (by omega)).1
      have ea := addr_none (by simpa using c0)
      refine .inr ⟨a.block, a.off, by rw [← ea], fun i hi => ?_⟩
      simp at hi
      obtain ⟨c1, c2, f1, f2⟩ := hQ i (by omega)
      rw [ea, Addr.add_lit] at c1 c2
      exact ⟨(Q i).2.1.1, (Q i).2.1.2, (Q i).2.2.1, (Q i).2.2.2, by simpa using c1, by simpa [Nat.add_assoc] using c2, by simpa using f1, by simpa using f2⟩
set_option maxRecDepth 20000 in
set_option maxHeartbeats 8000000 in
theorem lawPartsOk (va fa ra : Option Addr) (vc fc rc : Nat) (vs fs : List ByteArray) (rs : List (ByteArray × Int)) (ta1 : Option Addr) (tc1 : Nat) (es1 : List PR) (w : World) (hw : KW w) (hv : StrsA w va vs) (hf : StrsA w fa fs) (hr : ArrsA w ra rs) (he1 : PartsA w ta1 es1) :
    Calls Tryd.prog 3 #[.agg #[.slice va vs.length vc, .slice fa fs.length fc, .slice ra rs.length rc], .slice ta1 es1.length tc1] w fun e w' => e = .returned (.bool true) ∧ Below w.heap.size w w' := by
  have HW := hide hw
  have HV := hide hv
  have HF := hide hf
  have HR := hide hr
  have HE1 := hide he1
  have HT := hide (C3.new w (.slice va vs.length vc) (.slice fa fs.length fc) (.slice ra rs.length rc) 25)
  have HK := hide ((Below.refl _ w).alloc (Nat.le_refl _) (Obj.cells #[.slice va vs.length vc, .slice fa fs.length fc, .slice ra rs.length rc] 25))
  clear hw hv hf hr he1
  go_enter Tryd.func3, Tryd.ntmps3
  go_wp2_with fail
  generalize w.alloc (Obj.cells #[.slice va vs.length vc, .slice fa fs.length fc, .slice ra rs.length rc] 25) = u0 at HT HK ⊢
  refine (szDecl_c va fa ra vc fc rc vs fs rs 1048576 (by decide) (by decide) _ ((unhide HV).call (unhide HK)) ((unhide HF).call (unhide HK)) ((unhide HR).call (unhide HK))).mono ?_
  rintro e v0 ⟨rfl, kb⟩
  have HT := hide ((unhide HT).call kb)
  have HK := hide ((unhide HK).trans (kb.mono (unhide HK).size))
  clear kb
  have hok := @szD_ok vs fs rs 1048576 (by decide) (by decide)
  generalize szD vs fs rs 1048576 = left0 at hok ⊢
  by_cases hn : left0 < 0
  · clear hok
    go_wp2
    go_ret
    exact ⟨rfl, unhide HK⟩
  obtain ⟨⟨l1, l2, l3⟩, hz, l4_0⟩ := hok (by omega)
  have SV := hide (Strs.ofA (unhide HV) l1)
  have SF := hide (Strs.ofA (unhide HF) l2)
  have SR := hide (Arrs.ofA (unhide HR) l3)
  have HZ := hide hz
  have ln_0 : 0 ≤ left0 := by omega
  clear hok hz HV HF HR hn l1 l2 l3
  go_wp2_with fail
  refine (szPartS_c ta1 tc1 es1 left0 ln_0 l4_0 _ ((unhide HE1).call (unhide HK))).mono ?_
  rintro e v1 ⟨rfl, kb⟩
  have HT := hide ((unhide HT).call kb)
  have HK := hide ((unhide HK).trans (kb.mono (unhide HK).size))
  clear kb
  have hok := szPS_le es1 left0 ln_0
  generalize szPS es1 left0 = left1 at hok ⊢
  by_cases hn : left1 < 0
  · clear hok
    go_wp2
    go_ret
    exact ⟨rfl, unhide HK⟩
  have SE1 := hide (Parts.ofA (unhide HE1) (by have := (hok.2.2 (by omega)).1; omega) (fun i hi => ((hok.2.2 (by omega)).2 i hi).mono (by omega)))
  have ln_1 : 0 ≤ left1 := by omega
  have l4_1 : left1 ≤ 1048576 := by have := hok.1; omega
  clear hok HE1 hn
  have t0 := (unhide HT).1
  have t1 := (unhide HT).2.1
  have t2 := (unhide HT).2.2.1
  go_wp2_with fail
  refine (toDecl_c va fa ra vc fc rc vs fs rs _ ((unhide SV).call (unhide HK)) ((unhide SF).call (unhide HK)) ((unhide SR).call (unhide HK))).mono ?_
  rintro e y0 ⟨b1, b2, b3, rfl, Q1, Q2, Q3, _, kb⟩
  clear t0 t1 t2
  have HT := hide ((unhide HT).call kb)
  have HK := hide ((unhide HK).trans (kb.mono (unhide HK).size))
  clear kb
  have HQ1 := hide Q1
  have HQ2 := hide Q2
  have HQ3 := hide Q3
  clear Q1 Q2 Q3
  go_wp2_with fail
  refine (toPartS_c ta1 tc1 es1 _ ((unhide SE1).call (unhide HK))).mono ?_
  rintro e y1 ⟨rfl, O1, kb⟩
  have HT := hide ((unhide HT).call kb)
  have HQ1 := hide ((unhide HQ1).call kb)
  have HQ2 := hide ((unhide HQ2).call kb)
  have HQ3 := hide ((unhide HQ3).call kb)
  have HK := hide ((unhide HK).trans (kb.mono (unhide HK).size))
  clear kb
  have HO1 := hide O1
  clear O1
  go_wp2_with fail
  refine (sPartsOk_c b1 b2 b3 _ _ _ vs fs rs _ _ es1 _ (unhide HQ1).1 (unhide HQ2).1 (unhide HQ3).1 (unhide HZ) (unhide HO1)).mono ?_
  rintro e y9 ⟨rfl, kb⟩
  have HT := hide ((unhide HT).call kb)
  have HK := hide ((unhide HK).trans (kb.mono (unhide HK).size))
  clear kb
  clear HQ1 HQ2 HQ3 HO1
  generalize hres : partsB vs fs rs es1 = ok
  have HOK := hide hres
  clear hres
  have t0 := (unhide HT).1
  have t1 := (unhide HT).2.1
  have t2 := (unhide HT).2.2.1
  go_wp2_with fail
  refine (toDecl_c va fa ra vc fc rc vs fs rs _ ((unhide SV).call (unhide HK)) ((unhide SF).call (unhide HK)) ((unhide SR).call (unhide HK))).mono ?_
  rintro e x0 ⟨c1, c2, c3, rfl, R1, R2, R3, _, kb⟩
  clear t0 t1 t2
  have HT := hide ((unhide HT).call kb)
  have HK := hide ((unhide HK).trans (kb.mono (unhide HK).size))
  clear kb
  have HR1 := hide R1
  have HR2 := hide R2
  have HR3 := hide R3
  clear R1 R2 R3
  have ka := (Below.refl _ x0).alloc (Nat.le_refl _) (Obj.cells #[.slice (some ⟨c1, 0, none⟩) vs.length vs.length, .slice (some ⟨c2, 0, none⟩) fs.length fs.length, .slice (some ⟨c3, 0, none⟩) rs.length rs.length] 32)
  have HA := hide (C3.new x0 (.slice (some ⟨c1, 0, none⟩) vs.length vs.length) (.slice (some ⟨c2, 0, none⟩) fs.length fs.length) (.slice (some ⟨c3, 0, none⟩) rs.length rs.length) 32)
  have HT := hide ((unhide HT).call ka)
  have HR1 := hide ((unhide HR1).call ka)
  have HR2 := hide ((unhide HR2).call ka)
  have HR3 := hide ((unhide HR3).call ka)
  have HK := hide ((unhide HK).trans (ka.mono (unhide HK).size))
  clear ka
  obtain ⟨X0, hX⟩ : ∃ X, X = x0.heap.size := ⟨_, rfl⟩
  obtain ⟨z0, hz⟩ : ∃ z, z = x0.alloc (Obj.cells #[.slice (some ⟨c1, 0, none⟩) vs.length vs.length, .slice (some ⟨c2, 0, none⟩) fs.length fs.length, .slice (some ⟨c3, 0, none⟩) rs.length rs.length] 32) := ⟨_, rfl⟩
  rw [← hX, ← hz] at HA
  rw [← hz] at HT HK HR1 HR2 HR3
  have hXZ := hide (And.intro hX hz)
  clear hX hz
  go_upto_region 10 with fail
  rw [← (unhide hXZ).1, ← (unhide hXZ).2]
  clear hXZ
  go_wp2_with fail
  refine (toPartS_c ta1 tc1 es1 _ ((unhide SE1).call (unhide HK))).mono ?_
  rintro e x1 ⟨rfl, O1, kb⟩
  have HT := hide ((unhide HT).call kb)
  have HR1 := hide ((unhide HR1).call kb)
  have HR2 := hide ((unhide HR2).call kb)
  have HR3 := hide ((unhide HR3).call kb)
  have HA := hide ((unhide HA).call kb)
  have HK := hide ((unhide HK).trans (kb.mono (unhide HK).size))
  clear kb
  have HO1 := hide O1
  clear O1
  generalize z0.heap.size = T1 at HO1 ⊢
  have a0 := (unhide HA).1
  have a1 := (unhide HA).2.1
  have a2 := (unhide HA).2.2.1
  go_wp2_with fail
  refine (iPartsOk_c c1 c2 c3 _ _ _ vs fs rs _ _ es1 _ ((unhide HW).call (unhide HK)) (unhide HR1).1 (unhide HR2).1 (unhide HR3).1 (unhide HZ) (unhide HO1)).mono ?_
  rintro e s0 ⟨rfl, kb⟩
  clear a0 a1 a2
  have HT := hide ((unhide HT).call kb)
  have HR1 := hide ((unhide HR1).call kb)
  have HR2 := hide ((unhide HR2).call kb)
  have HR3 := hide ((unhide HR3).call kb)
  have HA := hide ((unhide HA).call kb)
  have HO1 := hide ((unhide HO1).call kb)
  have HK := hide ((unhide HK).trans (kb.mono (unhide HK).size))
  clear kb
  rw [unhide HOK]
  have hh := H6.of (unhide HA) (unhide HT) (Below.refl _ s0)
  go_wp2
  go_region_held3 (H6 s0 X0 w.heap.size (.slice (some ⟨c1, 0, none⟩) vs.length vs.length) (.slice (some ⟨c2, 0, none⟩) fs.length fs.length) (.slice (some ⟨c3, 0, none⟩) rs.length rs.length) (.slice va vs.length vc) (.slice fa fs.length fc) (.slice ra rs.length rc))
    (first | exact H6.drew (by assumption) | exact hq | exact hq2)
    (first
      | (go_at_call 8; refine (toDecl_c va fa ra vc fc rc vs fs rs _ (((unhide SV).call (unhide HK)).call hh.drew.below) (((unhide SF).call (unhide HK)).call hh.drew.below) (((unhide SR).call (unhide HK)).call hh.drew.below)).mono ?_; rintro e w1 ⟨d1, d2, d3, rfl, Q1, Q2, Q3, _, hb⟩; have hq := H6.call hb hh.drew)
      | (go_at_call 11; refine (eqDecl_c _ _ _ _ _ _ _ _ _ _ _ _ vs fs rs _ ((unhide HR1).call hq.below).1 ((unhide HR2).call hq.below).1 ((unhide HR3).call hq.below).1 Q1.1 Q2.1 Q3.1).mono ?_; rintro e s1 ⟨rfl, hb2⟩; have hq2 := H6.call hb2 hq))
  have kb := hq2.below
  clear hq hq2 hh hb hb2 Q1 Q2 Q3
  rename_i hHeld
  clear hHeld
  have HT := hide ((unhide HT).call kb)
  have HR1 := hide ((unhide HR1).call kb)
  have HR2 := hide ((unhide HR2).call kb)
  have HR3 := hide ((unhide HR3).call kb)
  have HA := hide ((unhide HA).call kb)
  have HO1 := hide ((unhide HO1).call kb)
  have HK := hide ((unhide HK).trans (kb.mono (unhide HK).size))
  clear kb
  go_wp2_with fail
  refine (toPartS_c ta1 tc1 es1 _ ((unhide SE1).call (unhide HK))).mono ?_
  rintro e q1 ⟨rfl, O, kb⟩
  have HT := hide ((unhide HT).call kb)
  have HR1 := hide ((unhide HR1).call kb)
  have HR2 := hide ((unhide HR2).call kb)
  have HR3 := hide ((unhide HR3).call kb)
  have HA := hide ((unhide HA).call kb)
  have HO1 := hide ((unhide HO1).call kb)
  have HK := hide ((unhide HK).trans (kb.mono (unhide HK).size))
  clear kb
  have HP := hide O
  clear O
  go_wp2_with fail
  refine (eqPartS_c _ _ _ _ es1 _ (unhide HO1).parts (unhide HP).parts).mono ?_
  rintro e r1 ⟨rfl, kb⟩
  have HT := hide ((unhide HT).call kb)
  have HR1 := hide ((unhide HR1).call kb)
  have HR2 := hide ((unhide HR2).call kb)
  have HR3 := hide ((unhide HR3).call kb)
  have HA := hide ((unhide HA).call kb)
  have HO1 := hide ((unhide HO1).call kb)
  have HK := hide ((unhide HK).trans (kb.mono (unhide HK).size))
  clear kb
  clear HP
  go_wp2
  go_ret
  exact ⟨rfl, unhide HK⟩
end Go.Proofs.YtdcdpicdpdhfbaaDoor
