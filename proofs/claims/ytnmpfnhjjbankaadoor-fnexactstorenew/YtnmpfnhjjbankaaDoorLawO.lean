/- The law on StoreNew: its walk. -/
import Derived.Test.YtnmpfnhjjbankaaDoorSnZ
namespace Go.Proofs.YtnmpfnhjjbankaaDoor
open Go.RowKit
set_option linter.unusedSimpArgs false
set_option linter.unusedVariables false

theorem sn_small (vs fs : List ByteArray) (rs : List (ByteArray × Int)) : (snI vs fs rs).length ≤ 1000 ∧ (snB vs fs rs).length ≤ 1000 ∧ (snJ vs fs rs).length ≤ 1000 ∧ ∀ j ∈ snJ vs fs rs, j.length ≤ 1000 := by
  cases h : declB vs fs rs
  · obtain ⟨h1, h2, h3⟩ := sn_no h
    rw [h1, h2, h3]
    simp
  · obtain ⟨h1, h2, h3⟩ := sn_yes h
    have hl := declB_len h
    rw [h1, h2, h3, zI_len, zB_len, rowsZ_len]
    refine ⟨by omega, by omega, by omega, fun j hj => ?_⟩
    unfold rowsZ at hj
    obtain ⟨r, hr, rfl⟩ := List.mem_map.1 hj
    obtain ⟨i, hi, rfl⟩ := List.getElem_of_mem hr
    have := (of_decide_eq_true h).2.2.2.1 i hi
    rw [zI_len]
    omega
/-- The law's own argument in its block. -/
def BD (w0 : World) (x y z : Value) (u : World) : Prop := C3 u w0.heap.size x y z ∧ Below w0.heap.size w0 u
theorem BD.call {w0 u v : World} {x y z : Value} (h : BD w0 x y z u) (hb : Below u.heap.size u v) : BD w0 x y z v := ⟨h.1.call hb, h.2.trans (hb.mono h.2.size)⟩
theorem BD.mid {w0 u v : World} {x y z : Value} {lo hi : Nat} (h : BD w0 x y z u) (m : Mid lo hi u v) (hl : w0.heap.size < lo) : BD w0 x y z v := ⟨h.1.mid m (.inl hl), Below.mid h.2 m (by omega)⟩
/-- An answer in its block, its rows between B and T. -/
def AnS (g B T : Nat) (oa : Option Addr) (ca : Nat) (ob : Option Addr) (cb : Nat) (oc : Option Addr) (cc : Nat) (I : List Int) (Fl : List Bool) (J : List (List Int)) (u : World) : Prop := C3 u g (.slice oa I.length ca) (.slice ob Fl.length cb) (.slice oc J.length cc) ∧ StoR u B T oa ob oc cc I Fl J ∧ T ≤ g
theorem AnS.call {u v : World} {g B T ca cb cc : Nat} {oa ob oc : Option Addr} {I : List Int} {Fl : List Bool} {J : List (List Int)} (h : AnS g B T oa ca ob cb oc cc I Fl J u) (hb : Below u.heap.size u v) : AnS g B T oa ca ob cb oc cc I Fl J v := ⟨h.1.call hb, h.2.1.call hb, h.2.2⟩
theorem AnS.mid {u v : World} {g B T ca cb cc lo hi : Nat} {oa ob oc : Option Addr} {I : List Int} {Fl : List Bool} {J : List (List Int)} (h : AnS g B T oa ca ob cb oc cc I Fl J u) (m : Mid lo hi u v) (hg : g < lo ∨ hi ≤ g) (ho : hi ≤ B ∨ T ≤ lo) : AnS g B T oa ca ob cb oc cc I Fl J v := ⟨h.1.mid m hg, h.2.1.mid m ho, h.2.2⟩
set_option maxRecDepth 20000 in
set_option maxHeartbeats 32000000 in
theorem lawStoreNew (va fa ra : Option Addr) (vc fc rc : Nat) (vs fs : List ByteArray) (rs : List (ByteArray × Int)) (w : World) (hw : KW w) (hv : StrsA w va vs) (hf : StrsA w fa fs) (hr : ArrsA w ra rs) :
    Calls Tryd.prog 3 #[.agg #[.slice va vs.length vc, .slice fa fs.length fc, .slice ra rs.length rc]] w fun e w' => e = .returned (.bool true) ∧ Below w.heap.size w w' := by
  have HW := hide hw
  have HV := hide hv
  have HF := hide hf
  have HR := hide hr
  have HB : Hid (BD w (.slice va vs.length vc) (.slice fa fs.length fc) (.slice ra rs.length rc) (w.alloc (Obj.cells #[.slice va vs.length vc, .slice fa fs.length fc, .slice ra rs.length rc] 25))) := ⟨C3.new w _ _ _ _, (Below.refl _ _).alloc (Nat.le_refl _) _⟩
  clear hw hv hf hr
  go_enter Tryd.func3, Tryd.ntmps3
  go_wp2_with fail
  generalize w.alloc (Obj.cells #[.slice va vs.length vc, .slice fa fs.length fc, .slice ra rs.length rc] 25) = k0 at HB ⊢
  refine (szDecl_c va fa ra vc fc rc vs fs rs 1048576 (by decide) (by decide) _ ((unhide HV).call (unhide HB).2) ((unhide HF).call (unhide HB).2) ((unhide HR).call (unhide HB).2)).mono ?_
  rintro e v0 ⟨rfl, kb⟩
  have HB := hide ((unhide HB).call kb)
  have hok := @szD_ok vs fs rs 1048576 (by decide) (by decide)
  clear kb
  generalize szD vs fs rs 1048576 = left0 at hok ⊢
  by_cases hn : left0 < 0
  · clear hok
    go_wp2
    go_ret
    exact ⟨rfl, (unhide HB).2⟩
  obtain ⟨⟨l1, l2, l3⟩, hz, l4_0⟩ := hok (by omega)
  have SV := hide (Strs.ofA (unhide HV) l1)
  have SF := hide (Strs.ofA (unhide HF) l2)
  have SR := hide (Arrs.ofA (unhide HR) l3)
  have HZ := hide hz
  have ln_0 : 0 ≤ left0 := by omega
  have mv : vs.length ≤ 1048576 := (unhide SV).1
  have mf : fs.length ≤ 1048576 := (unhide SF).1
  have mr : rs.length ≤ 1048576 := (unhide SR).1
  clear hok hz HV HF HR hn l1 l2 l3 l4_0
  have hsm := sn_small vs fs rs
  obtain ⟨I, HIE⟩ : ∃ I, Hid (I = snI vs fs rs) := ⟨_, rfl⟩
  obtain ⟨Fl, HFE⟩ : ∃ I, Hid (I = snB vs fs rs) := ⟨_, rfl⟩
  obtain ⟨J, HJE⟩ : ∃ I, Hid (I = snJ vs fs rs) := ⟨_, rfl⟩
  rw [← unhide HIE, ← unhide HFE, ← unhide HJE] at hsm
  have HSM := hide hsm.2.2.2
  have mI : I.length ≤ 1000 := hsm.1
  have mF : Fl.length ≤ 1000 := hsm.2.1
  have mJ : J.length ≤ 1000 := hsm.2.2.1
  clear hsm
  have p0 := (unhide HB).1.1
  have p1 := (unhide HB).1.2.1
  have p2 := (unhide HB).1.2.2.1
  go_wp2_with fail
  refine (toDecl_c va fa ra vc fc rc vs fs rs _ ((unhide SV).call (unhide HB).2) ((unhide SF).call (unhide HB).2) ((unhide SR).call (unhide HB).2)).mono ?_
  rintro e v1 ⟨b1, b2, b3, rfl, Q1, Q2, Q3, _, kb⟩
  clear p0 p1 p2
  have HB := hide ((unhide HB).call kb)
  clear kb
  have HQ := hide (And.intro Q1.1 (And.intro Q2.1 Q3.1))
  clear Q1 Q2 Q3
  go_wp2_with fail
  refine (sStoreNew_c b1 b2 b3 _ _ _ vs fs rs _ (unhide HQ).1 (unhide HQ).2.1 (unhide HQ).2.2 (unhide HZ)).mono ?_
  rintro e v2 ⟨oa, ca, ob, cb, oc, cc, rfl, RE, kb⟩
  rw [← unhide HIE, ← unhide HFE, ← unhide HJE]
  rw [← unhide HIE, ← unhide HFE, ← unhide HJE] at RE
  have lbz : v1.heap.size ≤ v2.heap.size := kb.size
  have HB := hide ((unhide HB).call kb)
  clear kb
  have ka := (Below.refl _ v2).alloc (Nat.le_refl _) (Obj.cells #[.slice oa I.length ca, .slice ob Fl.length cb, .slice oc J.length cc] 31)
  have AN1 := hide (show AnS v2.heap.size v1.heap.size v2.heap.size oa ca ob cb oc cc I Fl J (v2.alloc (Obj.cells #[.slice oa I.length ca, .slice ob Fl.length cb, .slice oc J.length cc] 31)) from ⟨C3.new v2 _ _ _ _, RE.call ka, Nat.le_refl _⟩)
  clear RE
  have HB := hide ((unhide HB).call ka)
  clear ka
  obtain ⟨g1, hX⟩ : ∃ X, X = v2.heap.size := ⟨_, rfl⟩
  obtain ⟨g1w, hz⟩ : ∃ z, z = v2.alloc (Obj.cells #[.slice oa I.length ca, .slice ob Fl.length cb, .slice oc J.length cc] 31) := ⟨_, rfl⟩
  have hsz : g1w.heap.size = g1 + 1 := by rw [hz, hX]; simp
  rw [← hX, ← hz] at AN1
  rw [← hX] at lbz
  rw [← hz] at HB
  have hXZ := hide (And.intro hX hz)
  clear hX hz
  go_upto_region 6 with fail
  rw [← (unhide hXZ).1, ← (unhide hXZ).2]
  clear hXZ
  clear HQ
  generalize v1.heap.size = B1 at AN1 lbz
  obtain ⟨lo, hlo⟩ : ∃ lo, lo = g1w.heap.size := ⟨_, rfl⟩
  have HLO : Hid (w.heap.size < lo ∧ g1 < lo) := by rw [hlo]; exact ⟨(unhide HB).1.lt, (unhide AN1).1.lt⟩
  clear lbz hsz
  have p0 := (unhide HB).1.1
  have p1 := (unhide HB).1.2.1
  have p2 := (unhide HB).1.2.2.1
  go_wp2_with fail
  refine (toDecl_c va fa ra vc fc rc vs fs rs _ ((unhide SV).call (unhide HB).2) ((unhide SF).call (unhide HB).2) ((unhide SR).call (unhide HB).2)).mono ?_
  rintro e x0 ⟨c1, c2, c3, rfl, R1, R2, R3, hcl, kb⟩
  rw [← hlo] at hcl
  clear hlo p0 p1 p2
  have HB := hide ((unhide HB).call kb)
  have AN1 := hide ((unhide AN1).call kb)
  clear kb
  have HR1 := hide R1
  have HR2 := hide R2
  have HR3 := hide R3
  clear R1 R2 R3
  have lc3 : c3 < x0.heap.size := (unhide HR3).2.2
  have ka := (Below.refl _ x0).alloc (Nat.le_refl _) (Obj.cells #[.slice (some ⟨c1, 0, none⟩) vs.length vs.length, .slice (some ⟨c2, 0, none⟩) fs.length fs.length, .slice (some ⟨c3, 0, none⟩) rs.length rs.length] 35)
  have HA0 := hide (C3.new x0 (.slice (some ⟨c1, 0, none⟩) vs.length vs.length) (.slice (some ⟨c2, 0, none⟩) fs.length fs.length) (.slice (some ⟨c3, 0, none⟩) rs.length rs.length) 35)
  have HB := hide ((unhide HB).call ka)
  have AN1 := hide ((unhide AN1).call ka)
  have HR1 := hide ((unhide HR1).call ka)
  have HR2 := hide ((unhide HR2).call ka)
  have HR3 := hide ((unhide HR3).call ka)
  clear ka
  obtain ⟨X0, hX⟩ : ∃ X, X = x0.heap.size := ⟨_, rfl⟩
  obtain ⟨z0, hz⟩ : ∃ z, z = x0.alloc (Obj.cells #[.slice (some ⟨c1, 0, none⟩) vs.length vs.length, .slice (some ⟨c2, 0, none⟩) fs.length fs.length, .slice (some ⟨c3, 0, none⟩) rs.length rs.length] 35) := ⟨_, rfl⟩
  have hsz : z0.heap.size = X0 + 1 := by rw [hz, hX]; simp
  rw [← hX, ← hz] at HA0
  rw [← hz] at HB AN1 HR1 HR2 HR3
  rw [← hX] at lc3
  have HMID : Hid (lo ≤ c1 ∧ c1 < c2 ∧ c2 < c3 ∧ c3 < z0.heap.size ∧ X0 < z0.heap.size) := ⟨hcl.1, hcl.2.1, hcl.2.2, by omega, by omega⟩
  clear hcl lc3 hsz
  have hXZ := hide (And.intro hX hz)
  clear hX hz
  go_upto_region 7 with fail
  rw [← (unhide hXZ).1, ← (unhide hXZ).2]
  clear hXZ
  have p0 := (unhide HA0).1
  have p1 := (unhide HA0).2.1
  have p2 := (unhide HA0).2.2.1
  go_wp2_with fail
  refine (iStoreNew_c c1 c2 c3 _ _ _ vs fs rs _ ((unhide HW).call (unhide HB).2) (unhide HR1).1 (unhide HR2).1 (unhide HR3).1 (unhide HZ)).mono ?_
  rintro e x1 ⟨pa, pc, pb, pd, pe, pf, rfl, RE, kb⟩
  rw [← unhide HIE, ← unhide HFE, ← unhide HJE]
  rw [← unhide HIE, ← unhide HFE, ← unhide HJE] at RE
  have lbz : z0.heap.size ≤ x1.heap.size := kb.size
  have HB := hide ((unhide HB).call kb)
  have AN1 := hide ((unhide AN1).call kb)
  have HR1 := hide ((unhide HR1).call kb)
  have HR2 := hide ((unhide HR2).call kb)
  have HR3 := hide ((unhide HR3).call kb)
  have HA0 := hide ((unhide HA0).call kb)
  clear kb
  have ka := (Below.refl _ x1).alloc (Nat.le_refl _) (Obj.cells #[.slice pa I.length pc, .slice pb Fl.length pd, .slice pe J.length pf] 31)
  have AN2 := hide (show AnS x1.heap.size z0.heap.size x1.heap.size pa pc pb pd pe pf I Fl J (x1.alloc (Obj.cells #[.slice pa I.length pc, .slice pb Fl.length pd, .slice pe J.length pf] 31)) from ⟨C3.new x1 _ _ _ _, RE.call ka, Nat.le_refl _⟩)
  clear RE
  have HB := hide ((unhide HB).call ka)
  have AN1 := hide ((unhide AN1).call ka)
  have HR1 := hide ((unhide HR1).call ka)
  have HR2 := hide ((unhide HR2).call ka)
  have HR3 := hide ((unhide HR3).call ka)
  have HA0 := hide ((unhide HA0).call ka)
  clear ka
  obtain ⟨g2, hX⟩ : ∃ X, X = x1.heap.size := ⟨_, rfl⟩
  obtain ⟨g2w, hz⟩ : ∃ z, z = x1.alloc (Obj.cells #[.slice pa I.length pc, .slice pb Fl.length pd, .slice pe J.length pf] 31) := ⟨_, rfl⟩
  have hsz : g2w.heap.size = g2 + 1 := by rw [hz, hX]; simp
  rw [← hX, ← hz] at AN2
  rw [← hX] at lbz
  rw [← hz] at HB AN1 HR1 HR2 HR3 HA0
  have hXZ := hide (And.intro hX hz)
  clear hX hz
  go_upto_region 8 with fail
  rw [← (unhide hXZ).1, ← (unhide hXZ).2]
  clear hXZ
  clear p0 p1 p2
  have HSZ0 : g2 < g2w.heap.size := by omega
  generalize z0.heap.size = mid at HMID AN2 lbz
  have HI2 : Hid (mid ≤ g2) := lbz
  have HSZ := hide HSZ0
  clear lbz hsz HSZ0
  have a0 := (unhide AN2).1.1
  have a1 := (unhide AN2).1.2.1
  have a2 := (unhide AN2).1.2.2.1
  have b0 := (unhide AN1).1.1
  have b1 := (unhide AN1).1.2.1
  have b2 := (unhide AN1).1.2.2.1
  go_wp2_with fail
  have e1 := (unhide AN2).2.1.rows mJ
  have e2 := (unhide AN1).2.1.rows mJ
  refine (eqStore_c _ _ _ _ _ _ _ _ _ _ _ _ I Fl J _ e1.1 e1.2.1 e1.2.2 e2.1 e2.2.1 e2.2.2).mono ?_
  rintro e s1 ⟨rfl, kb⟩
  clear a0 a1 a2 b0 b1 b2 e1 e2
  have HSZ := hide (Nat.lt_of_lt_of_le (unhide HSZ) kb.size)
  have HB := hide ((unhide HB).call kb)
  have AN1 := hide ((unhide AN1).call kb)
  have HR1 := hide ((unhide HR1).call kb)
  have HR2 := hide ((unhide HR2).call kb)
  have HR3 := hide ((unhide HR3).call kb)
  have HA0 := hide ((unhide HA0).call kb)
  have AN2 := hide ((unhide AN2).call kb)
  clear kb
  have hh := H6.of (unhide HA0) (unhide HB).1 (Below.refl _ s1)
  go_wp2
  go_region_held3 (H6 s1 X0 w.heap.size (.slice (some ⟨c1, 0, none⟩) vs.length vs.length) (.slice (some ⟨c2, 0, none⟩) fs.length fs.length) (.slice (some ⟨c3, 0, none⟩) rs.length rs.length) (.slice va vs.length vc) (.slice fa fs.length fc) (.slice ra rs.length rc))
    (first | exact H6.drew (by assumption) | exact hq | exact hq2)
    (first
      | (go_at_call 8; refine (toDecl_c va fa ra vc fc rc vs fs rs _ (((unhide SV).call (unhide HB).2).call hh.drew.below) (((unhide SF).call (unhide HB).2).call hh.drew.below) (((unhide SR).call (unhide HB).2).call hh.drew.below)).mono ?_; rintro e w1 ⟨q1, q2, q3, rfl, Q1, Q2, Q3, _, hb⟩; have hq := H6.call hb hh.drew)
      | (go_at_call 11; refine (eqDecl_c _ _ _ _ _ _ _ _ _ _ _ _ vs fs rs _ ((unhide HR1).call hq.below).1 ((unhide HR2).call hq.below).1 ((unhide HR3).call hq.below).1 Q1.1 Q2.1 Q3.1).mono ?_; rintro e s2 ⟨rfl, hb2⟩; have hq2 := H6.call hb2 hq))
  have kb := hq2.below
  clear hq hq2 hh hb hb2 Q1 Q2 Q3
  rename_i hHeld
  clear hHeld
  have HSZ := hide (Nat.lt_of_lt_of_le (unhide HSZ) kb.size)
  have HB := hide ((unhide HB).call kb)
  have AN1 := hide ((unhide AN1).call kb)
  have HR1 := hide ((unhide HR1).call kb)
  have HR2 := hide ((unhide HR2).call kb)
  have HR3 := hide ((unhide HR3).call kb)
  have HA0 := hide ((unhide HA0).call kb)
  have AN2 := hide ((unhide AN2).call kb)
  clear kb
  have a0 := (unhide HA0).1
  have a1 := (unhide HA0).2.1
  have a2 := (unhide HA0).2.2.1
  go_wp2_with fail
  refine (markDecl_c c1 c2 c3 _ _ _ _ _ _ lo mid 1 (by omega) mv mf mr _ (show mid ≤ s2.heap.size by have := unhide HI2; have := unhide HSZ; omega) ⟨(unhide HMID).1, (unhide HMID).2.1, (unhide HMID).2.2.1, (unhide HMID).2.2.2.1⟩ (unhide HR1).wr (unhide HR2).wr (unhide HR3).wr).mono ?_
  rintro e s3 ⟨rfl, m4⟩
  clear a0 a1 a2
  have HB := hide ((unhide HB).mid m4 (unhide HLO).1)
  have AN1 := hide ((unhide AN1).mid m4 (.inl (unhide HLO).2) (.inr (by have := unhide HLO; have := unhide HMID; have := unhide HI2; have := (unhide AN1).2.2; have := (unhide AN2).2.2; omega)))
  have AN2 := hide ((unhide AN2).mid m4 (.inr (by have := unhide HLO; have := unhide HMID; have := unhide HI2; have := (unhide AN1).2.2; have := (unhide AN2).2.2; omega)) (.inl (Nat.le_refl _)))
  have HSZ := hide (Nat.lt_of_lt_of_le (unhide HSZ) m4.size)
  clear m4 HR1 HR2 HR3 HA0
  have hk1 : ¬ ((1 : Int) + vs.length + fs.length + 2 * rs.length < 0) := by omega
  generalize (1 : Int) + vs.length + fs.length + 2 * rs.length = k1 at hk1 ⊢
  have a0 := (unhide AN2).1.1
  have a1 := (unhide AN2).1.2.1
  have a2 := (unhide AN2).1.2.2.1
  have b0 := (unhide AN1).1.1
  have b1 := (unhide AN1).1.2.1
  have b2 := (unhide AN1).1.2.2.1
  go_wp2_with fail
  have e1 := (unhide AN2).2.1.rows mJ
  have e2 := (unhide AN1).2.1.rows mJ
  refine (eqStore_c _ _ _ _ _ _ _ _ _ _ _ _ I Fl J _ e1.1 e1.2.1 e1.2.2 e2.1 e2.2.1 e2.2.2).mono ?_
  rintro e s4 ⟨rfl, kb⟩
  clear a0 a1 a2 b0 b1 b2 e1 e2
  have HSZ := hide (Nat.lt_of_lt_of_le (unhide HSZ) kb.size)
  have HB := hide ((unhide HB).call kb)
  have AN1 := hide ((unhide AN1).call kb)
  have AN2 := hide ((unhide AN2).call kb)
  clear kb
  have a0 := (unhide AN2).1.1
  have a1 := (unhide AN2).1.2.1
  have a2 := (unhide AN2).1.2.2.1
  go_wp2_with fail
  refine (mkSt_c _ _ _ _ _ _ _ _ I Fl J 1 (by omega) ⟨mI, mF, mJ⟩ (unhide HSM) _ (unhide AN2).2.1 (by have := (unhide AN2).2.2; have := unhide HSZ; omega)).mono ?_
  rintro e s5 ⟨rfl, mk, md⟩
  clear a0 a1 a2
  have HB := hide ((unhide HB).mid md (by have := unhide HLO; have := unhide HMID; have := unhide HI2; have := (unhide AN1).2.2; have := (unhide AN2).2.2; omega))
  have AN1 := hide ((unhide AN1).mid md (.inl (by have := unhide HLO; have := unhide HMID; have := unhide HI2; have := (unhide AN1).2.2; have := (unhide AN2).2.2; omega)) (.inr (by have := unhide HLO; have := unhide HMID; have := unhide HI2; have := (unhide AN1).2.2; have := (unhide AN2).2.2; omega)))
  have C2 := hide ((unhide AN2).1.mid md (.inr (unhide AN2).2.2))
  have MK := hide mk
  clear md mk AN2 HSZ
  have a0 := (unhide C2).1
  have a1 := (unhide C2).2.1
  have a2 := (unhide C2).2.2.1
  go_wp2_with fail
  refine (hdSt_c _ _ _ _ _ _ I Fl J 1 (by omega) ⟨mI, mF, mJ⟩ (unhide HSM) _ (unhide MK)).mono ?_
  rintro e s6 ⟨rfl, kb⟩
  clear a0 a1 a2
  have HB := hide ((unhide HB).call kb)
  have AN1 := hide ((unhide AN1).call kb)
  have C2 := hide ((unhide C2).call kb)
  have MK := hide ((unhide MK).call kb)
  clear kb
  have hk3 := (kAt_le J ((1 : Int) + I.length + Fl.length) (unhide HSM) J.length (Nat.le_refl _)).1
  obtain ⟨k3, HK3⟩ : ∃ k, Hid (kAt J ((1 : Int) + I.length + Fl.length) J.length = k) := ⟨_, rfl⟩
  rw [HK3.out] at hk3 ⊢
  have hk5 : ¬ (k3 < 0) := by omega
  have hk4 : (k3 != k3) = false := by simp
  clear hk3
  have p0 := (unhide HB).1.1
  have p1 := (unhide HB).1.2.1
  have p2 := (unhide HB).1.2.2.1
  go_wp2_with fail
  refine (toDecl_c va fa ra vc fc rc vs fs rs _ ((unhide SV).call (unhide HB).2) ((unhide SF).call (unhide HB).2) ((unhide SR).call (unhide HB).2)).mono ?_
  rintro e s7 ⟨b1, b2, b3, rfl, Q1, Q2, Q3, _, kb⟩
  clear p0 p1 p2
  have HB := hide ((unhide HB).call kb)
  have AN1 := hide ((unhide AN1).call kb)
  have C2 := hide ((unhide C2).call kb)
  have MK := hide ((unhide MK).call kb)
  clear kb
  have HQ := hide (And.intro Q1.1 (And.intro Q2.1 Q3.1))
  clear Q1 Q2 Q3
  go_wp2_with fail
  refine (iStoreNew_c b1 b2 b3 _ _ _ vs fs rs _ ((unhide HW).call (unhide HB).2) (unhide HQ).1 (unhide HQ).2.1 (unhide HQ).2.2 (unhide HZ)).mono ?_
  rintro e s8 ⟨ra_, rc_, rb_, rd_, re_, rf_, rfl, RE, kb⟩
  rw [← unhide HIE, ← unhide HFE, ← unhide HJE]
  rw [← unhide HIE, ← unhide HFE, ← unhide HJE] at RE
  have lbz : s7.heap.size ≤ s8.heap.size := kb.size
  have HB := hide ((unhide HB).call kb)
  have AN1 := hide ((unhide AN1).call kb)
  have C2 := hide ((unhide C2).call kb)
  have MK := hide ((unhide MK).call kb)
  clear kb
  have ka := (Below.refl _ s8).alloc (Nat.le_refl _) (Obj.cells #[.slice ra_ I.length rc_, .slice rb_ Fl.length rd_, .slice re_ J.length rf_] 31)
  have AN3 := hide (show AnS s8.heap.size s7.heap.size s8.heap.size ra_ rc_ rb_ rd_ re_ rf_ I Fl J (s8.alloc (Obj.cells #[.slice ra_ I.length rc_, .slice rb_ Fl.length rd_, .slice re_ J.length rf_] 31)) from ⟨C3.new s8 _ _ _ _, RE.call ka, Nat.le_refl _⟩)
  clear RE
  have HB := hide ((unhide HB).call ka)
  have AN1 := hide ((unhide AN1).call ka)
  have C2 := hide ((unhide C2).call ka)
  have MK := hide ((unhide MK).call ka)
  clear ka
  obtain ⟨g3, hX⟩ : ∃ X, X = s8.heap.size := ⟨_, rfl⟩
  obtain ⟨g3w, hz⟩ : ∃ z, z = s8.alloc (Obj.cells #[.slice ra_ I.length rc_, .slice rb_ Fl.length rd_, .slice re_ J.length rf_] 31) := ⟨_, rfl⟩
  have hsz : g3w.heap.size = g3 + 1 := by rw [hz, hX]; simp
  rw [← hX, ← hz] at AN3
  rw [← hX] at lbz
  rw [← hz] at HB AN1 C2 MK
  have hXZ := hide (And.intro hX hz)
  clear hX hz
  go_upto_region 25 with fail
  rw [← (unhide hXZ).1, ← (unhide hXZ).2]
  clear hXZ
  clear HQ lbz hsz
  have a0 := (unhide AN3).1.1
  have a1 := (unhide AN3).1.2.1
  have a2 := (unhide AN3).1.2.2.1
  have b0 := (unhide AN1).1.1
  have b1 := (unhide AN1).1.2.1
  have b2 := (unhide AN1).1.2.2.1
  go_wp2_with fail
  have e1 := (unhide AN3).2.1.rows mJ
  have e2 := (unhide AN1).2.1.rows mJ
  refine (eqStore_c _ _ _ _ _ _ _ _ _ _ _ _ I Fl J _ e1.1 e1.2.1 e1.2.2 e2.1 e2.2.1 e2.2.2).mono ?_
  rintro e t1 ⟨rfl, kb⟩
  clear a0 a1 a2 b0 b1 b2 e1 e2
  have HB := hide ((unhide HB).call kb)
  have AN1 := hide ((unhide AN1).call kb)
  have C2 := hide ((unhide C2).call kb)
  have MK := hide ((unhide MK).call kb)
  have AN3 := hide ((unhide AN3).call kb)
  clear kb
  have a0 := (unhide C2).1
  have a1 := (unhide C2).2.1
  have a2 := (unhide C2).2.2.1
  go_wp2_with fail
  refine (hdSt_c _ _ _ _ _ _ I Fl J 1 (by omega) ⟨mI, mF, mJ⟩ (unhide HSM) _ (unhide MK)).mono ?_
  rintro e t2 ⟨rfl, kb⟩
  clear a0 a1 a2
  have HB := hide ((unhide HB).call kb)
  have AN1 := hide ((unhide AN1).call kb)
  have C2 := hide ((unhide C2).call kb)
  have MK := hide ((unhide MK).call kb)
  have AN3 := hide ((unhide AN3).call kb)
  clear kb
  rw [HK3.out]
  go_wp2
  go_ret
  exact ⟨rfl, (unhide HB).2⟩
end Go.Proofs.YtnmpfnhjjbankaaDoor
