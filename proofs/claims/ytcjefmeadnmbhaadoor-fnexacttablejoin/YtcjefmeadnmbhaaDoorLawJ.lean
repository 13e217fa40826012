/- The law on TableJoin: its walk. -/
import Derived.Test.YtcjefmeadnmbhaaDoorTabZ
import Derived.Test.YtcjefmeadnmbhaaDoorTjM
import Derived.Test.YtcjefmeadnmbhaaDoorTjV
namespace Go.Proofs.YtcjefmeadnmbhaaDoor
open Go.RowKit
set_option linter.unusedSimpArgs false
set_option linter.unusedVariables false

/-- A copy of a table that may be marked, below H. -/
def CPy (w : World) (g H : Nat) (es : List ER) : Prop := ∀ k : Int, ∃ ds : List MD, ds.length = es.length ∧ TM w g k ds 0 ∧ (∀ i, (h : i < ds.length) → (h2 : i < es.length) → ds[i].na = es[i].2.1.length ∧ ds[i].nb = es[i].2.2.length) ∧ ∀ i, (h : i < ds.length) → g ≤ ds[i].lo ∧ ds[i].hi ≤ H
theorem CPy.of {w : World} {g : Nat} {es : List ER} (h : OwnE w g es) (hs : SepE g es.length w) : CPy w g w.heap.size es := fun k => copy_tm k h hs
theorem CPy.mid {w w' : World} {g H lo hi : Nat} {es : List ER} (h : CPy w g H es) (m : Mid lo hi w w') (ho : hi ≤ g ∨ H ≤ lo ∧ g < lo) : CPy w' g H es := fun k => by
  obtain ⟨ds, e, t, na, hin⟩ := h k
  exact ⟨ds, e, t.mid m (by omega) (fun i h => by have := hin i h; omega), na, hin⟩
theorem CPy.call {w w' : World} {g H : Nat} {es : List ER} (h : CPy w g H es) (hb : Below w.heap.size w w') : CPy w' g H es := h.mid (Mid.of (lo := 0) (hi := 0) hb) (.inl (Nat.zero_le _))
theorem env_lenA {w : World} {a : Option Addr} {es : List ER} (h : Envs w a es) (i : Nat) (hi : i < es.length) : es[i].2.1.length ≤ 1048576 ∧ es[i].2.2.length ≤ 1048576 := by
  rcases h.2 with h0 | ⟨cb, co, _, hc⟩
  · omega
  · obtain ⟨_, _, _, _, _, _, _, q1, q2⟩ := hc i hi
    exact ⟨q1.1, q2.1⟩
set_option maxRecDepth 20000 in
set_option maxHeartbeats 16000000 in
theorem lawTableJoin (va fa ra : Option Addr) (vc fc rc : Nat) (vs fs : List ByteArray) (rs : List (ByteArray × Int)) (ta1 : Option Addr) (tc1 : Nat) (es1 : List ER) (ta2 : Option Addr) (tc2 : Nat) (es2 : List ER) (w : World) (hw : KW w) (hv : StrsA w va vs) (hf : StrsA w fa fs) (hr : ArrsA w ra rs) (he1 : EnvsA w ta1 es1) (he2 : EnvsA w ta2 es2) :
    Calls Tryd.prog 4 #[.agg #[.slice va vs.length vc, .slice fa fs.length fc, .slice ra rs.length rc], .slice ta1 es1.length tc1, .slice ta2 es2.length tc2] w fun e w' => e = .returned (.bool true) ∧ Below w.heap.size w w' := by
  have HW := hide hw
  have HV := hide hv
  have HF := hide hf
  have HR := hide hr
  have HE1 := hide he1
  have HE2 := hide he2
  have HT := hide (C3.new w (.slice va vs.length vc) (.slice fa fs.length fc) (.slice ra rs.length rc) 25)
  have HK := hide ((Below.refl _ w).alloc (Nat.le_refl _) (Obj.cells #[.slice va vs.length vc, .slice fa fs.length fc, .slice ra rs.length rc] 25))
  clear hw hv hf hr he1 he2
  go_enter Tryd.func4, Tryd.ntmps4
  go_wp2_with fail
  generalize w.alloc (Obj.cells #[.slice va vs.length vc, .slice fa fs.length fc, .slice ra rs.length rc] 25) = u0 at HT HK ⊢
  refine (szDecl_c va fa ra vc fc rc vs fs rs 1048576 (by decide) (by decide) _ ((unhide HV).call (unhide HK)) ((unhide HF).call (unhide HK)) ((unhide HR).call (unhide HK))).mono ?_
  rintro e v0 ⟨rfl, kb⟩
  have HT := hide ((unhide HT).call kb)
  have HK := hide ((unhide HK).trans (kb.mono (unhide HK).size))
  clear kb
  have hok := @szD_ok vs fs rs 1048576 (by decide) (by decide)
  generalize szD vs fs rs 1048576 = left0 at hok ⊢
  by_cases hn : left0 < 0
  · clear hok
    go_wp2
    go_ret
    exact ⟨rfl, unhide HK⟩
  obtain ⟨⟨l1, l2, l3⟩, hz, l4_0⟩ := hok (by omega)
  have SV := hide (Strs.ofA (unhide HV) l1)
  have SF := hide (Strs.ofA (unhide HF) l2)
  have SR := hide (Arrs.ofA (unhide HR) l3)
  have HZ := hide hz
  have ln_0 : 0 ≤ left0 := by omega
  clear hok hz HV HF HR hn l1 l2 l3
  go_wp2_with fail
  refine (szEnvS_c ta1 tc1 es1 left0 ln_0 l4_0 _ ((unhide HE1).call (unhide HK))).mono ?_
  rintro e v1 ⟨rfl, kb⟩
  have HT := hide ((unhide HT).call kb)
  have HK := hide ((unhide HK).trans (kb.mono (unhide HK).size))
  clear kb
  have hok := szES_le es1 left0 ln_0
  obtain ⟨left1, HSE1⟩ : ∃ l, Hid (l = szES es1 left0) := ⟨_, rfl⟩
  rw [← HSE1.out] at hok ⊢
  by_cases hn : left1 < 0
  · clear hok
    go_wp2
    go_ret
    exact ⟨rfl, unhide HK⟩
  have SE1 := hide (Envs.ofA (unhide HE1) (by have := (hok.2.2 (by omega)).1; omega) (fun i hi => by have := (hok.2.2 (by omega)).2 i hi; omega))
  have ln_1 : 0 ≤ left1 := by omega
  have l4_1 : left1 ≤ 1048576 := by have := hok.1; omega
  have tot1 : es1.length + totE es1 ≤ 1048576 := by have := szES_sum es1 left0 ln_0 (by rw [← HSE1.out]; omega); omega
  clear hok HE1 hn
  go_wp2_with fail
  refine (szEnvS_c ta2 tc2 es2 left1 ln_1 l4_1 _ ((unhide HE2).call (unhide HK))).mono ?_
  rintro e v2 ⟨rfl, kb⟩
  have HT := hide ((unhide HT).call kb)
  have HK := hide ((unhide HK).trans (kb.mono (unhide HK).size))
  clear kb
  have hok := szES_le es2 left1 ln_1
  obtain ⟨left2, HSE2⟩ : ∃ l, Hid (l = szES es2 left1) := ⟨_, rfl⟩
  rw [← HSE2.out] at hok ⊢
  by_cases hn : left2 < 0
  · clear hok
    go_wp2
    go_ret
    exact ⟨rfl, unhide HK⟩
  have SE2 := hide (Envs.ofA (unhide HE2) (by have := (hok.2.2 (by omega)).1; omega) (fun i hi => by have := (hok.2.2 (by omega)).2 i hi; omega))
  have ln_2 : 0 ≤ left2 := by omega
  have l4_2 : left2 ≤ 1048576 := by have := hok.1; omega
  have tot2 : es2.length + totE es2 ≤ 1048576 := by have := szES_sum es2 left1 ln_1 (by rw [← HSE2.out]; omega); omega
  clear hok HE2 hn
  have mv : vs.length ≤ 1048576 := (unhide SV).1
  have mf : fs.length ≤ 1048576 := (unhide SF).1
  have mr : rs.length ≤ 1048576 := (unhide SR).1
  have HM1 := hide (fun i (h : i < es1.length) => env_lenA (unhide SE1) i h)
  have HM2 := hide (fun i (h : i < es2.length) => env_lenA (unhide SE2) i h)
  obtain ⟨J, HJ⟩ : ∃ J, Hid (J = tjV vs fs rs es1 es2) := ⟨_, rfl⟩
  have HJS : Hid (J.length ≤ 8 ∧ ∀ i, (h : i < J.length) → J[i].2.1.length ≤ 5 ∧ J[i].2.2.length ≤ 5) := by rw [unhide HJ]; exact tjV_small vs fs rs es1 es2
  have HJB : Hid (J.length ≤ 1048576 ∧ ∀ i, (h : i < J.length) → J[i].2.1.length ≤ 1048576 ∧ J[i].2.2.length ≤ 1048576) := ⟨by have := (unhide HJS).1; omega, fun i h => by have := (unhide HJS).2 i h; omega⟩
  have t0 := (unhide HT).1
  have t1 := (unhide HT).2.1
  have t2 := (unhide HT).2.2.1
  go_wp2_with fail
  refine (toDecl_c va fa ra vc fc rc vs fs rs _ ((unhide SV).call (unhide HK)) ((unhide SF).call (unhide HK)) ((unhide SR).call (unhide HK))).mono ?_
  rintro e y0 ⟨b1, b2, b3, rfl, Q1, Q2, Q3, _, kb⟩
  clear t0 t1 t2
  have HT := hide ((unhide HT).call kb)
  have HK := hide ((unhide HK).trans (kb.mono (unhide HK).size))
  clear kb
  have HQ1 := hide Q1
  have HQ2 := hide Q2
  have HQ3 := hide Q3
  clear Q1 Q2 Q3
  go_wp2_with fail
  refine (toEnvS_c ta1 tc1 es1 _ ((unhide SE1).call (unhide HK))).mono ?_
  rintro e y1 ⟨rfl, O1, kb⟩
  have HT := hide ((unhide HT).call kb)
  have HQ1 := hide ((unhide HQ1).call kb)
  have HQ2 := hide ((unhide HQ2).call kb)
  have HQ3 := hide ((unhide HQ3).call kb)
  have HK := hide ((unhide HK).trans (kb.mono (unhide HK).size))
  clear kb
  have HO1 := hide O1
  clear O1
  go_wp2_with fail
  refine (toEnvS_c ta2 tc2 es2 _ ((unhide SE2).call (unhide HK))).mono ?_
  rintro e y2 ⟨rfl, O2, kb⟩
  have HT := hide ((unhide HT).call kb)
  have HQ1 := hide ((unhide HQ1).call kb)
  have HQ2 := hide ((unhide HQ2).call kb)
  have HQ3 := hide ((unhide HQ3).call kb)
  have HO1 := hide ((unhide HO1).call kb)
  have HK := hide ((unhide HK).trans (kb.mono (unhide HK).size))
  clear kb
  have HO2 := hide O2
  clear O2
  go_wp2_with fail
  refine (sTableJoin_c b1 b2 b3 _ _ _ vs fs rs _ _ es1 _ _ es2 _ (unhide HQ1).1 (unhide HQ2).1 (unhide HQ3).1 (unhide HZ) (unhide HO1) (unhide HO2)).mono ?_
  rw [← unhide HJ]
  rintro e y3 ⟨oc1, cc1, ps1, T1, rfl, A, kb⟩
  clear HQ1 HQ2 HQ3 HO1 HO2
  have HT := hide ((unhide HT).call kb)
  have HK := hide ((unhide HK).trans (kb.mono (unhide HK).size))
  clear kb
  have A1 := hide A
  clear A
  obtain ⟨lo, hlo⟩ : ∃ lo, lo = y3.heap.size := ⟨_, rfl⟩
  have HLO : Hid (w.heap.size < lo ∧ T1 ≤ lo) := by rw [hlo]; exact ⟨(unhide HT).lt, (unhide A1).2.2.2.2.2⟩
  have t0 := (unhide HT).1
  have t1 := (unhide HT).2.1
  have t2 := (unhide HT).2.2.1
  go_wp2_with fail
  refine (toDecl_c va fa ra vc fc rc vs fs rs _ ((unhide SV).call (unhide HK)) ((unhide SF).call (unhide HK)) ((unhide SR).call (unhide HK))).mono ?_
  rintro e x0 ⟨c1, c2, c3, rfl, Q1, Q2, Q3, hcl, kb⟩
  clear t0 t1 t2
  rw [← hlo] at hcl
  clear hlo
  have HT := hide ((unhide HT).call kb)
  have A1 := hide ((unhide A1).call kb)
  have HK := hide ((unhide HK).trans (kb.mono (unhide HK).size))
  clear kb
  have HR1 := hide Q1
  have HR2 := hide Q2
  have HR3 := hide Q3
  clear Q1 Q2 Q3
  have lc3 : c3 < x0.heap.size := (unhide HR3).2.2
  have ka := (Below.refl _ x0).alloc (Nat.le_refl _) (Obj.cells #[.slice (some ⟨c1, 0, none⟩) vs.length vs.length, .slice (some ⟨c2, 0, none⟩) fs.length fs.length, .slice (some ⟨c3, 0, none⟩) rs.length rs.length] 40)
  have HA := hide (C3.new x0 (.slice (some ⟨c1, 0, none⟩) vs.length vs.length) (.slice (some ⟨c2, 0, none⟩) fs.length fs.length) (.slice (some ⟨c3, 0, none⟩) rs.length rs.length) 40)
  have HT := hide ((unhide HT).call ka)
  have A1 := hide ((unhide A1).call ka)
  have HR1 := hide ((unhide HR1).call ka)
  have HR2 := hide ((unhide HR2).call ka)
  have HR3 := hide ((unhide HR3).call ka)
  have HK := hide ((unhide HK).trans (ka.mono (unhide HK).size))
  clear ka
  obtain ⟨X0, hX⟩ : ∃ X, X = x0.heap.size := ⟨_, rfl⟩
  obtain ⟨z0, hz⟩ : ∃ z, z = x0.alloc (Obj.cells #[.slice (some ⟨c1, 0, none⟩) vs.length vs.length, .slice (some ⟨c2, 0, none⟩) fs.length fs.length, .slice (some ⟨c3, 0, none⟩) rs.length rs.length] 40) := ⟨_, rfl⟩
  have hsz : z0.heap.size = X0 + 1 := by rw [hz, hX]; simp
  rw [← hX, ← hz] at HA
  rw [← hz] at HK HT A1 HR1 HR2 HR3
  rw [← hX] at lc3
  obtain ⟨mid, hmid⟩ : ∃ m, m = z0.heap.size := ⟨_, rfl⟩
  have HMID : Hid (lo ≤ c1 ∧ c1 < c2 ∧ c2 < c3 ∧ c3 < mid ∧ X0 < mid) := ⟨hcl.1, hcl.2.1, hcl.2.2, by omega, by omega⟩
  clear hcl lc3 hsz
  have hXZ := hide (And.intro hX hz)
  clear hX hz
  go_upto_region 13 with fail
  rw [← (unhide hXZ).1, ← (unhide hXZ).2]
  clear hXZ
  go_wp2_with fail
  refine (toEnvSP_c ta1 tc1 es1 _ ((unhide SE1).call (unhide HK))).mono ?_
  rintro e x1 ⟨rfl, O1, sp, kb⟩
  rw [← hmid] at O1 sp ⊢
  clear hmid
  have le1 : mid < x1.heap.size := O1.2.2.2
  have CP1 := CPy.of O1 sp
  clear sp
  have HT := hide ((unhide HT).call kb)
  have A1 := hide ((unhide A1).call kb)
  have HR1 := hide ((unhide HR1).call kb)
  have HR2 := hide ((unhide HR2).call kb)
  have HR3 := hide ((unhide HR3).call kb)
  have HA := hide ((unhide HA).call kb)
  have HK := hide ((unhide HK).trans (kb.mono (unhide HK).size))
  clear kb
  obtain ⟨h1, hh1⟩ : ∃ h, h = x1.heap.size := ⟨_, rfl⟩
  rw [← hh1] at le1 CP1
  have HH1 := hide hh1
  clear hh1
  have HO1 := hide O1
  have CP1 := hide CP1
  clear O1
  go_wp2_with fail
  refine (toEnvSP_c ta2 tc2 es2 _ ((unhide SE2).call (unhide HK))).mono ?_
  rintro e x2 ⟨rfl, O2, sp, kb⟩
  rw [← unhide HH1] at O2 sp ⊢
  clear HH1
  have le2 : h1 < x2.heap.size := O2.2.2.2
  have CP2 := CPy.of O2 sp
  clear sp
  have HT := hide ((unhide HT).call kb)
  have A1 := hide ((unhide A1).call kb)
  have HR1 := hide ((unhide HR1).call kb)
  have HR2 := hide ((unhide HR2).call kb)
  have HR3 := hide ((unhide HR3).call kb)
  have HA := hide ((unhide HA).call kb)
  have HO1 := hide ((unhide HO1).call kb)
  have CP1 := hide ((unhide CP1).call kb)
  have HK := hide ((unhide HK).trans (kb.mono (unhide HK).size))
  clear kb
  obtain ⟨h2, hh2⟩ : ∃ h, h = x2.heap.size := ⟨_, rfl⟩
  rw [← hh2] at le2 CP2
  have HH2 := hide hh2
  clear hh2
  have HO2 := hide O2
  have CP2 := hide CP2
  clear O2
  have a0 := (unhide HA).1
  have a1 := (unhide HA).2.1
  have a2 := (unhide HA).2.2.1
  go_wp2_with fail
  refine (iTableJoin_c c1 c2 c3 _ _ _ vs fs rs _ _ es1 _ _ es2 _ ((unhide HW).call (unhide HK)) (unhide HR1).1 (unhide HR2).1 (unhide HR3).1 (unhide HZ) (unhide HO1) (unhide HO2)).mono ?_
  rw [← unhide HJ]
  rintro e s0 ⟨oc2, cc2, ps2, T2, rfl, A, kb⟩
  have HSZ : Hid (h2 ≤ s0.heap.size) := by rw [unhide HH2]; exact kb.size
  rw [← unhide HH2] at A
  clear a0 a1 a2 HH2
  have HT := hide ((unhide HT).call kb)
  have A1 := hide ((unhide A1).call kb)
  have HR1 := hide ((unhide HR1).call kb)
  have HR2 := hide ((unhide HR2).call kb)
  have HR3 := hide ((unhide HR3).call kb)
  have HA := hide ((unhide HA).call kb)
  have HO1 := hide ((unhide HO1).call kb)
  have CP1 := hide ((unhide CP1).call kb)
  have HO2 := hide ((unhide HO2).call kb)
  have CP2 := hide ((unhide CP2).call kb)
  have HK := hide ((unhide HK).trans (kb.mono (unhide HK).size))
  clear kb
  have A2 := hide A
  clear A
  have HLL : Hid (mid < h1 ∧ h1 < h2) := ⟨le1, le2⟩
  clear le1 le2
  go_wp2_with fail
  refine (eqEnvS_c oc2 oc1 _ _ J _ ((unhide A2).envs (unhide HJB).1 (unhide HJB).2) ((unhide A1).envs (unhide HJB).1 (unhide HJB).2)).mono ?_
  rintro e s1 ⟨rfl, kb⟩
  have HSZ := hide (Nat.le_trans (unhide HSZ) kb.size)
  have HT := hide ((unhide HT).call kb)
  have A1 := hide ((unhide A1).call kb)
  have HR1 := hide ((unhide HR1).call kb)
  have HR2 := hide ((unhide HR2).call kb)
  have HR3 := hide ((unhide HR3).call kb)
  have HA := hide ((unhide HA).call kb)
  have HO1 := hide ((unhide HO1).call kb)
  have CP1 := hide ((unhide CP1).call kb)
  have HO2 := hide ((unhide HO2).call kb)
  have CP2 := hide ((unhide CP2).call kb)
  have A2 := hide ((unhide A2).call kb)
  have HK := hide ((unhide HK).trans (kb.mono (unhide HK).size))
  clear kb
  have hh := H6.of (unhide HA) (unhide HT) (Below.refl _ s1)
  go_wp2
  go_region_held3 (H6 s1 X0 w.heap.size (.slice (some ⟨c1, 0, none⟩) vs.length vs.length) (.slice (some ⟨c2, 0, none⟩) fs.length fs.length) (.slice (some ⟨c3, 0, none⟩) rs.length rs.length) (.slice va vs.length vc) (.slice fa fs.length fc) (.slice ra rs.length rc))
    (first | exact H6.drew (by assumption) | exact hq | exact hq2)
    (first
      | (go_at_call 10; refine (toDecl_c va fa ra vc fc rc vs fs rs _ (((unhide SV).call (unhide HK)).call hh.drew.below) (((unhide SF).call (unhide HK)).call hh.drew.below) (((unhide SR).call (unhide HK)).call hh.drew.below)).mono ?_; rintro e w1 ⟨q1, q2, q3, rfl, Q1, Q2, Q3, _, hb⟩; have hq := H6.call hb hh.drew)
      | (go_at_call 14; refine (eqDecl_c _ _ _ _ _ _ _ _ _ _ _ _ vs fs rs _ ((unhide HR1).call hq.below).1 ((unhide HR2).call hq.below).1 ((unhide HR3).call hq.below).1 Q1.1 Q2.1 Q3.1).mono ?_; rintro e s2 ⟨rfl, hb2⟩; have hq2 := H6.call hb2 hq))
  have kb := hq2.below
  clear hq hq2 hh hb hb2 Q1 Q2 Q3
  rename_i hHeld
  clear hHeld
  have HSZ := hide (Nat.le_trans (unhide HSZ) kb.size)
  have HT := hide ((unhide HT).call kb)
  have A1 := hide ((unhide A1).call kb)
  have HR1 := hide ((unhide HR1).call kb)
  have HR2 := hide ((unhide HR2).call kb)
  have HR3 := hide ((unhide HR3).call kb)
  have HA := hide ((unhide HA).call kb)
  have HO1 := hide ((unhide HO1).call kb)
  have CP1 := hide ((unhide CP1).call kb)
  have HO2 := hide ((unhide HO2).call kb)
  have CP2 := hide ((unhide CP2).call kb)
  have A2 := hide ((unhide A2).call kb)
  have HK := hide ((unhide HK).trans (kb.mono (unhide HK).size))
  clear kb
  go_wp2_with fail
  refine (toEnvS_c ta1 tc1 es1 _ ((unhide SE1).call (unhide HK))).mono ?_
  rintro e s3 ⟨rfl, O, kb⟩
  have HSZ := hide (Nat.le_trans (unhide HSZ) kb.size)
  have HT := hide ((unhide HT).call kb)
  have A1 := hide ((unhide A1).call kb)
  have HR1 := hide ((unhide HR1).call kb)
  have HR2 := hide ((unhide HR2).call kb)
  have HR3 := hide ((unhide HR3).call kb)
  have HA := hide ((unhide HA).call kb)
  have HO1 := hide ((unhide HO1).call kb)
  have CP1 := hide ((unhide CP1).call kb)
  have HO2 := hide ((unhide HO2).call kb)
  have CP2 := hide ((unhide CP2).call kb)
  have A2 := hide ((unhide A2).call kb)
  have HK := hide ((unhide HK).trans (kb.mono (unhide HK).size))
  clear kb
  have HOX := hide O
  clear O
  go_wp2_with fail
  refine (eqEnvS_c _ _ _ _ es1 _ (unhide HO1).envs (unhide HOX).envs).mono ?_
  rintro e s4 ⟨rfl, kb⟩
  clear HOX
  have HSZ := hide (Nat.le_trans (unhide HSZ) kb.size)
  have HT := hide ((unhide HT).call kb)
  have A1 := hide ((unhide A1).call kb)
  have HR1 := hide ((unhide HR1).call kb)
  have HR2 := hide ((unhide HR2).call kb)
  have HR3 := hide ((unhide HR3).call kb)
  have HA := hide ((unhide HA).call kb)
  have HO1 := hide ((unhide HO1).call kb)
  have CP1 := hide ((unhide CP1).call kb)
  have HO2 := hide ((unhide HO2).call kb)
  have CP2 := hide ((unhide CP2).call kb)
  have A2 := hide ((unhide A2).call kb)
  have HK := hide ((unhide HK).trans (kb.mono (unhide HK).size))
  clear kb
  go_wp2_with fail
  refine (toEnvS_c ta2 tc2 es2 _ ((unhide SE2).call (unhide HK))).mono ?_
  rintro e s5 ⟨rfl, O, kb⟩
  have HSZ := hide (Nat.le_trans (unhide HSZ) kb.size)
  have HT := hide ((unhide HT).call kb)
  have A1 := hide ((unhide A1).call kb)
  have HR1 := hide ((unhide HR1).call kb)
  have HR2 := hide ((unhide HR2).call kb)
  have HR3 := hide ((unhide HR3).call kb)
  have HA := hide ((unhide HA).call kb)
  have HO1 := hide ((unhide HO1).call kb)
  have CP1 := hide ((unhide CP1).call kb)
  have HO2 := hide ((unhide HO2).call kb)
  have CP2 := hide ((unhide CP2).call kb)
  have A2 := hide ((unhide A2).call kb)
  have HK := hide ((unhide HK).trans (kb.mono (unhide HK).size))
  clear kb
  have HOX := hide O
  clear O
  go_wp2_with fail
  refine (eqEnvS_c _ _ _ _ es2 _ (unhide HO2).envs (unhide HOX).envs).mono ?_
  rintro e s6 ⟨rfl, kb⟩
  clear HOX
  have HSZ := hide (Nat.le_trans (unhide HSZ) kb.size)
  have HT := hide ((unhide HT).call kb)
  have A1 := hide ((unhide A1).call kb)
  have HR1 := hide ((unhide HR1).call kb)
  have HR2 := hide ((unhide HR2).call kb)
  have HR3 := hide ((unhide HR3).call kb)
  have HA := hide ((unhide HA).call kb)
  have HO1 := hide ((unhide HO1).call kb)
  have CP1 := hide ((unhide CP1).call kb)
  have HO2 := hide ((unhide HO2).call kb)
  have CP2 := hide ((unhide CP2).call kb)
  have A2 := hide ((unhide A2).call kb)
  have HK := hide ((unhide HK).trans (kb.mono (unhide HK).size))
  clear kb
  have a0 := (unhide HA).1
  have a1 := (unhide HA).2.1
  have a2 := (unhide HA).2.2.1
  go_wp2_with fail
  refine (markDecl_c c1 c2 c3 _ _ _ _ _ _ lo mid 1 (by omega) mv mf mr _ (by have := unhide HLO; have := unhide HMID; have := unhide HLL; have := unhide HSZ; omega) ⟨(unhide HMID).1, (unhide HMID).2.1, (unhide HMID).2.2.1, (unhide HMID).2.2.2.1⟩ (unhide HR1).wr (unhide HR2).wr (unhide HR3).wr).mono ?_
  rintro e s7 ⟨rfl, m4⟩
  clear a0 a1 a2
  have HT := hide ((unhide HT).mid m4 (.inl (by have := unhide HLO; have := unhide HMID; have := unhide HLL; have := unhide HSZ; omega)))
  have HK := hide ((unhide HK).trans ((m4.below (by have := unhide HLO; have := unhide HMID; have := unhide HLL; have := unhide HSZ; omega)).mono (by have := unhide HLO; have := unhide HMID; have := unhide HLL; have := unhide HSZ; omega)))
  have A1 := hide ((unhide A1).mid m4 (.inr (by have := unhide HLO; have := unhide HMID; have := unhide HLL; have := unhide HSZ; omega)))
  have A2 := hide ((unhide A2).mid m4 (.inl (by have := unhide HLO; have := unhide HMID; have := unhide HLL; have := unhide HSZ; omega)))
  have CP1 := hide ((unhide CP1).mid m4 (.inl (by have := unhide HLO; have := unhide HMID; have := unhide HLL; have := unhide HSZ; omega)))
  have CP2 := hide ((unhide CP2).mid m4 (.inl (by have := unhide HLO; have := unhide HMID; have := unhide HLL; have := unhide HSZ; omega)))
  have HSZ := hide (Nat.le_trans (unhide HSZ) m4.size)
  clear m4
  clear HR1 HR2 HR3 HA HO1 HO2
  have hk1 : 0 ≤ (1 : Int) + vs.length + fs.length + 2 * rs.length ∧ (1 : Int) + vs.length + fs.length + 2 * rs.length ≤ 10485760 := by omega
  generalize (1 : Int) + vs.length + fs.length + 2 * rs.length = k1 at hk1 ⊢
  go_wp2_with fail
  refine (markCopy_c mid _ h1 es1 k1 (by omega) tot1 _ ((unhide CP1) k1) (unhide HLL).1 (unhide HM1)).mono ?_
  rintro e s8 ⟨rfl, m5⟩
  have HT := hide ((unhide HT).mid m5 (.inl (by have := unhide HLO; have := unhide HMID; have := unhide HLL; have := unhide HSZ; omega)))
  have HK := hide ((unhide HK).trans ((m5.below (by have := unhide HLO; have := unhide HMID; have := unhide HLL; have := unhide HSZ; omega)).mono (by have := unhide HLO; have := unhide HMID; have := unhide HLL; have := unhide HSZ; omega)))
  have A1 := hide ((unhide A1).mid m5 (.inr (by have := unhide HLO; have := unhide HMID; have := unhide HLL; have := unhide HSZ; omega)))
  have A2 := hide ((unhide A2).mid m5 (.inl (by have := unhide HLO; have := unhide HMID; have := unhide HLL; have := unhide HSZ; omega)))
  have CP2 := hide ((unhide CP2).mid m5 (.inl (by have := unhide HLO; have := unhide HMID; have := unhide HLL; have := unhide HSZ; omega)))
  have HSZ := hide (Nat.le_trans (unhide HSZ) m5.size)
  clear m5
  clear CP1
  have hk2 : 0 ≤ k1 + ((es1.length + 2 * totE es1 : Nat) : Int) ∧ k1 + ((es1.length + 2 * totE es1 : Nat) : Int) ≤ 20971520 := by omega
  generalize k1 + ((es1.length + 2 * totE es1 : Nat) : Int) = k2 at hk2 ⊢
  clear hk1
  go_wp2_with fail
  refine (markCopy_c h1 _ h2 es2 k2 (by omega) tot2 _ ((unhide CP2) k2) (unhide HLL).2 (unhide HM2)).mono ?_
  rintro e s9 ⟨rfl, m6⟩
  have HT := hide ((unhide HT).mid m6 (.inl (by have := unhide HLO; have := unhide HMID; have := unhide HLL; have := unhide HSZ; omega)))
  have HK := hide ((unhide HK).trans ((m6.below (by have := unhide HLO; have := unhide HMID; have := unhide HLL; have := unhide HSZ; omega)).mono (by have := unhide HLO; have := unhide HMID; have := unhide HLL; have := unhide HSZ; omega)))
  have A1 := hide ((unhide A1).mid m6 (.inr (by have := unhide HLO; have := unhide HMID; have := unhide HLL; have := unhide HSZ; omega)))
  have A2 := hide ((unhide A2).mid m6 (.inl (by have := unhide HLO; have := unhide HMID; have := unhide HLL; have := unhide HSZ; omega)))
  have HSZ := hide (Nat.le_trans (unhide HSZ) m6.size)
  clear m6
  clear CP2
  have hk5 : 0 ≤ k2 + ((es2.length + 2 * totE es2 : Nat) : Int) := by omega
  generalize k2 + ((es2.length + 2 * totE es2 : Nat) : Int) = k5 at hk5 ⊢
  clear hk2
  go_wp2_with fail
  refine (eqEnvS_c oc2 oc1 _ _ J _ ((unhide A2).envs (unhide HJB).1 (unhide HJB).2) ((unhide A1).envs (unhide HJB).1 (unhide HJB).2)).mono ?_
  rintro e r0 ⟨rfl, kb⟩
  have HSZ := hide (Nat.le_trans (unhide HSZ) kb.size)
  have HT := hide ((unhide HT).call kb)
  have A1 := hide ((unhide A1).call kb)
  have A2 := hide ((unhide A2).call kb)
  have HK := hide ((unhide HK).trans (kb.mono (unhide HK).size))
  clear kb
  go_wp2_with fail
  refine (markRowT_c oc2 _ h2 T2 ps2 J 1 (by omega) (unhide HJS) _ (unhide A2)).mono ?_
  rintro e r1 ⟨rfl, hd, m7⟩
  have HP2 := hide (unhide A2).1
  have HT := hide ((unhide HT).mid m7 (.inl (by have := unhide HLO; have := unhide HMID; have := unhide HLL; have := unhide HSZ; omega)))
  have HK := hide ((unhide HK).trans ((m7.below (by have := unhide HLO; have := unhide HMID; have := unhide HLL; have := unhide HSZ; omega)).mono (by have := unhide HLO; have := unhide HMID; have := unhide HLL; have := unhide HSZ; omega)))
  have A1 := hide ((unhide A1).mid m7 (.inr (by have := unhide HLO; have := unhide HMID; have := unhide HLL; have := unhide HSZ; omega)))
  have MK := hide hd
  clear m7 hd A2 HSZ
  have hk3 : 0 ≤ (1 : Int) + ((J.length + 2 * totE J : Nat) : Int) := by omega
  obtain ⟨k3, HK3⟩ : ∃ k, Hid ((1 : Int) + ((J.length + 2 * totE J : Nat) : Int) = k) := ⟨_, rfl⟩
  rw [HK3.out] at hk3 ⊢
  have hk4 : (k3 != k3) = false := by simp
  go_wp2_with fail
  refine (heldRowT_c oc2 _ ps2 J 1 (by omega) (unhide HP2) (unhide HJS) _ (unhide MK)).mono ?_
  rw [HK3.out]
  rintro e r9 ⟨rfl, rfl⟩
  have t0 := (unhide HT).1
  have t1 := (unhide HT).2.1
  have t2 := (unhide HT).2.2.1
  go_wp2_with fail
  refine (toDecl_c va fa ra vc fc rc vs fs rs _ ((unhide SV).call (unhide HK)) ((unhide SF).call (unhide HK)) ((unhide SR).call (unhide HK))).mono ?_
  rintro e p0 ⟨b1, b2, b3, rfl, Q1, Q2, Q3, _, kb⟩
  clear t0 t1 t2
  have HT := hide ((unhide HT).call kb)
  have A1 := hide ((unhide A1).call kb)
  have MK := hide ((unhide MK).call kb)
  have HK := hide ((unhide HK).trans (kb.mono (unhide HK).size))
  clear kb
  have HQ1 := hide Q1
  have HQ2 := hide Q2
  have HQ3 := hide Q3
  clear Q1 Q2 Q3
  go_wp2_with fail
  refine (toEnvS_c ta1 tc1 es1 _ ((unhide SE1).call (unhide HK))).mono ?_
  rintro e p1 ⟨rfl, O1, kb⟩
  have HT := hide ((unhide HT).call kb)
  have A1 := hide ((unhide A1).call kb)
  have MK := hide ((unhide MK).call kb)
  have HQ1 := hide ((unhide HQ1).call kb)
  have HQ2 := hide ((unhide HQ2).call kb)
  have HQ3 := hide ((unhide HQ3).call kb)
  have HK := hide ((unhide HK).trans (kb.mono (unhide HK).size))
  clear kb
  have HO1 := hide O1
  clear O1
  go_wp2_with fail
  refine (toEnvS_c ta2 tc2 es2 _ ((unhide SE2).call (unhide HK))).mono ?_
  rintro e p2 ⟨rfl, O2, kb⟩
  have HT := hide ((unhide HT).call kb)
  have A1 := hide ((unhide A1).call kb)
  have MK := hide ((unhide MK).call kb)
  have HQ1 := hide ((unhide HQ1).call kb)
  have HQ2 := hide ((unhide HQ2).call kb)
  have HQ3 := hide ((unhide HQ3).call kb)
  have HO1 := hide ((unhide HO1).call kb)
  have HK := hide ((unhide HK).trans (kb.mono (unhide HK).size))
  clear kb
  have HO2 := hide O2
  clear O2
  go_wp2_with fail
  refine (iTableJoin_c b1 b2 b3 _ _ _ vs fs rs _ _ es1 _ _ es2 _ ((unhide HW).call (unhide HK)) (unhide HQ1).1 (unhide HQ2).1 (unhide HQ3).1 (unhide HZ) (unhide HO1) (unhide HO2)).mono ?_
  rw [← unhide HJ]
  rintro e p3 ⟨oc3, cc3, ps3, T3, rfl, A, kb⟩
  clear HQ1 HQ2 HQ3 HO1 HO2
  have HT := hide ((unhide HT).call kb)
  have A1 := hide ((unhide A1).call kb)
  have MK := hide ((unhide MK).call kb)
  have HK := hide ((unhide HK).trans (kb.mono (unhide HK).size))
  clear kb
  have A3 := hide A
  clear A
  go_wp2_with fail
  refine (eqEnvS_c oc3 oc1 _ _ J _ ((unhide A3).envs (unhide HJB).1 (unhide HJB).2) ((unhide A1).envs (unhide HJB).1 (unhide HJB).2)).mono ?_
  rintro e p4 ⟨rfl, kb⟩
  clear A3
  have HT := hide ((unhide HT).call kb)
  have A1 := hide ((unhide A1).call kb)
  have MK := hide ((unhide MK).call kb)
  have HK := hide ((unhide HK).trans (kb.mono (unhide HK).size))
  clear kb
  go_wp2_with fail
  refine (heldRowT_c oc2 _ ps2 J 1 (by omega) (unhide HP2) (unhide HJS) _ (unhide MK)).mono ?_
  rw [HK3.out]
  rintro e r9 ⟨rfl, rfl⟩
  go_wp2
  go_ret
  exact ⟨rfl, unhide HK⟩
end Go.Proofs.YtcjefmeadnmbhaaDoor
