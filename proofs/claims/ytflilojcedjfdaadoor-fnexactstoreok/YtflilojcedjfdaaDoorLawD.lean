/- The law of DeclOk: its walk. -/
import Derived.Test.YtflilojcedjfdaaDoorDoorC
namespace Go.Proofs.YtflilojcedjfdaaDoor
open Go.RowKit
set_option linter.unusedSimpArgs false

theorem szD_ok {vs fs : List ByteArray} {rs : List (ByteArray × Int)} {l : Int} (h0 : 0 ≤ l) (h1 : l ≤ 1048576) (h : 0 ≤ szD vs fs rs l) : ((vs.length : Int) ≤ 1048576 ∧ (fs.length : Int) ≤ 1048576 ∧ (rs.length : Int) ≤ 1048576) ∧ (∀ x ∈ namesOf vs fs rs, x.size ≤ 1048576) ∧ szD vs fs rs l ≤ l := by
  unfold szD at h ⊢
  split at h
  · omega
  · rename_i g1
    rw [if_neg g1]
    split at h
    · omega
    · rename_i g2
      rw [if_neg g2]
      have q1 := szS_le vs l h0
      have q2 := szS_le fs (szS vs l) (by omega)
      have q3 := szA_le rs (szS fs (szS vs l)) (by omega)
      have e1 := szS_len vs l (by omega)
      have e2 := szS_len fs (szS vs l) (by omega)
      have e3 := szS_len (rs.map (·.1)) (szS fs (szS vs l)) (by unfold szA at h; omega)
      rw [List.length_map] at e3
      refine ⟨⟨by omega, by omega, by omega⟩, fun x hx => ?_, by omega⟩
      unfold namesOf at hx
      rcases List.mem_append.1 hx with hx | hx
      · rcases List.mem_append.1 hx with hx | hx
        · have := e1.2 x hx; omega
        · have := e2.2 x hx; omega
      · have := e3.2 x hx; omega
set_option maxRecDepth 20000 in
set_option maxHeartbeats 4000000 in
theorem lawDeclOk (va fa ra : Option Addr) (vc fc rc : Nat) (vs fs : List ByteArray) (rs : List (ByteArray × Int)) (w : World) (hw : KW w) (hv : StrsA w va vs) (hf : StrsA w fa fs) (hr : ArrsA w ra rs) :
    Calls Tryd.prog 3 #[.agg #[.slice va vs.length vc, .slice fa fs.length fc, .slice ra rs.length rc]] w fun e w' => e = .returned (.bool true) ∧ Below w.heap.size w w' := by
  have HW := hide hw
  have HV := hide hv
  have HF := hide hf
  have HR := hide hr
  have HT := hide (C3.new w (.slice va vs.length vc) (.slice fa fs.length fc) (.slice ra rs.length rc) 25)
  have HK := hide ((Below.refl _ w).alloc (Nat.le_refl _) (Obj.cells #[.slice va vs.length vc, .slice fa fs.length fc, .slice ra rs.length rc] 25))
  clear hv hf hr hw
  go_enter Tryd.func3, Tryd.ntmps3
  go_wp2_with fail
  generalize w.alloc (Obj.cells #[.slice va vs.length vc, .slice fa fs.length fc, .slice ra rs.length rc] 25) = u at HT HK ⊢
  refine (szDecl_c va fa ra vc fc rc vs fs rs _ (by decide) (by decide) _ ((unhide HV).call (unhide HK)) ((unhide HF).call (unhide HK)) ((unhide HR).call (unhide HK))).mono ?_
  rintro e u1 ⟨rfl, kb⟩
  have HT := hide ((unhide HT).call kb)
  have HK := hide ((unhide HK).trans (kb.mono (unhide HK).size))
  have hok := @szD_ok vs fs rs 1048576 (by decide) (by decide)
  clear kb
  generalize szD vs fs rs 1048576 = left at hok ⊢
  by_cases hn : left < 0
  · clear hok
    go_wp2
    go_ret
    exact ⟨rfl, unhide HK⟩
  obtain ⟨⟨l1, l2, l3⟩, hz, _⟩ := hok (by omega)
  have SV := hide (Strs.ofA (unhide HV) l1)
  have SF := hide (Strs.ofA (unhide HF) l2)
  have SR := hide (Arrs.ofA (unhide HR) l3)
  have HZ := hide hz
  clear hok hz HV HF HR
  have t0 := (unhide HT).1
  have t1 := (unhide HT).2.1
  have t2 := (unhide HT).2.2.1
  go_wp2_with fail
  refine (toDecl_c va fa ra vc fc rc vs fs rs _ ((unhide SV).call (unhide HK)) ((unhide SF).call (unhide HK)) ((unhide SR).call (unhide HK))).mono ?_
  rintro e u2 ⟨b1, b2, b3, rfl, R1, R2, R3, _, kb⟩
  have HT := hide ((unhide HT).call kb)
  have HK := hide ((unhide HK).trans (kb.mono (unhide HK).size))
  have HR1 := hide R1
  have HR2 := hide R2
  have HR3 := hide R3
  clear kb R1 R2 R3 t0 t1 t2
  go_wp2_with fail
  refine (sDeclOk_c b1 b2 b3 _ _ _ vs fs rs _ (unhide HR1).1 (unhide HR2).1 (unhide HR3).1 (unhide HZ)).mono ?_
  rintro e u3 ⟨rfl, kb⟩
  have HT := hide ((unhide HT).call kb)
  have HK := hide ((unhide HK).trans (kb.mono (unhide HK).size))
  clear kb HR1 HR2 HR3
  have t0 := (unhide HT).1
  have t1 := (unhide HT).2.1
  have t2 := (unhide HT).2.2.1
  go_wp2_with fail
  refine (toDecl_c va fa ra vc fc rc vs fs rs _ ((unhide SV).call (unhide HK)) ((unhide SF).call (unhide HK)) ((unhide SR).call (unhide HK))).mono ?_
  rintro e u4 ⟨b1, b2, b3, rfl, R1, R2, R3, _, kb⟩
  have HT := hide ((unhide HT).call kb)
  have HK := hide ((unhide HK).trans (kb.mono (unhide HK).size))
  have HR1 := hide R1
  have HR2 := hide R2
  have HR3 := hide R3
  clear kb R1 R2 R3 t0 t1 t2
  go_wp2_with fail
  have HX := hide (C3.new u4 (.slice (some ⟨b1, 0, none⟩) vs.length vs.length) (.slice (some ⟨b2, 0, none⟩) fs.length fs.length) (.slice (some ⟨b3, 0, none⟩) rs.length rs.length) 30)
  have ka := (Below.refl _ u4).alloc (Nat.le_refl _) (Obj.cells #[.slice (some ⟨b1, 0, none⟩) vs.length vs.length, .slice (some ⟨b2, 0, none⟩) fs.length fs.length, .slice (some ⟨b3, 0, none⟩) rs.length rs.length] 30)
  have HT := hide ((unhide HT).call ka)
  have HK := hide ((unhide HK).trans (ka.mono (unhide HK).size))
  have HR1 := hide ((unhide HR1).call ka)
  have HR2 := hide ((unhide HR2).call ka)
  have HR3 := hide ((unhide HR3).call ka)
  clear ka
  generalize u4.alloc (Obj.cells #[.slice (some ⟨b1, 0, none⟩) vs.length vs.length, .slice (some ⟨b2, 0, none⟩) fs.length fs.length, .slice (some ⟨b3, 0, none⟩) rs.length rs.length] 30) = u5 at HX HT HK HR1 HR2 HR3 ⊢
  obtain ⟨X, hX⟩ : ∃ X, X = u4.heap.size := ⟨_, rfl⟩
  rw [← hX] at HX ⊢
  clear hX
  refine (iDeclOk_c b1 b2 b3 _ _ _ vs fs rs _ ((unhide HW).call (unhide HK)) (unhide HR1).1 (unhide HR2).1 (unhide HR3).1 (unhide HZ)).mono ?_
  rintro e u6 ⟨rfl, kb⟩
  have HT := hide ((unhide HT).call kb)
  have HX := hide ((unhide HX).call kb)
  have HK := hide ((unhide HK).trans (kb.mono (unhide HK).size))
  have HR1 := hide ((unhide HR1).call kb)
  have HR2 := hide ((unhide HR2).call kb)
  have HR3 := hide ((unhide HR3).call kb)
  clear kb
  generalize declB vs fs rs = ok
  have hh := H6.of (unhide HX) (unhide HT) (Below.refl _ u6)
  go_wp2
  go_region_held3 (H6 u6 X w.heap.size (.slice (some ⟨b1, 0, none⟩) vs.length vs.length) (.slice (some ⟨b2, 0, none⟩) fs.length fs.length) (.slice (some ⟨b3, 0, none⟩) rs.length rs.length) (.slice va vs.length vc) (.slice fa fs.length fc) (.slice ra rs.length rc))
    (first | exact H6.drew (by assumption) | exact hq | exact hq2)
    (first
      | (go_at_call 8; refine (toDecl_c va fa ra vc fc rc vs fs rs _ (((unhide SV).call (unhide HK)).call hh.drew.below) (((unhide SF).call (unhide HK)).call hh.drew.below) (((unhide SR).call (unhide HK)).call hh.drew.below)).mono ?_; rintro e w1 ⟨d1, d2, d3, rfl, R1, R2, R3, _, hb⟩; have hq := H6.call hb hh.drew)
      | (go_at_call 10; refine (eqDecl_c _ _ _ _ _ _ _ _ _ _ _ _ vs fs rs _ ((unhide HR1).call hq.below).1 ((unhide HR2).call hq.below).1 ((unhide HR3).call hq.below).1 R1.1 R2.1 R3.1).mono ?_; rintro e w2 ⟨rfl, hb2⟩; have hq2 := H6.call hb2 hq))
  have HK := hide ((unhide HK).trans (hq2.below.mono (unhide HK).size))
  clear hq hq2 hh hb hb2 R1 R2 R3
  rename_i hHeld
  clear hHeld
  go_wp2
  go_ret
  exact ⟨rfl, unhide HK⟩
end Go.Proofs.YtflilojcedjfdaaDoor
