/- The text of a store: the program's. -/
import Derived.Test.YtpdnnpnclgcpoaaDoorNaZ
import Derived.Test.YtpdnnpnclgcpoaaDoorSttE
import Derived.Test.YtpdnnpnclgcpoaaDoorEtxF
import Derived.Test.YtpdnnpnclgcpoaaDoorStZ
import Derived.Laws.ByValue
namespace Go.Proofs.YtpdnnpnclgcpoaaDoor
open Go.RowKit
set_option linter.unusedSimpArgs false
set_option linter.unusedVariables false

set_option maxRecDepth 20000 in
set_option maxHeartbeats 16000000 in
theorem iStoreText_c (a1 a2 a3 : Option Addr) (c1 c2 c3 : Nat) (vs fs : List ByteArray) (rs : List (ByteArray × Int)) (e1 e2 e3 : Option Addr) (d1 d2 d3 : Nat) (is : List Int) (bs : List Bool) (js : List (List Int)) (w : World) (hw : KW w) (hp : P10 w) (hv : Strs w a1 vs) (hf : Strs w a2 fs) (hr : Arrs w a3 rs)
  (hz : ∀ x ∈ namesOf vs fs rs, x.size ≤ 1048576) (hi : Ints w e1 is) (hb : Bools w e2 bs) (hj : Mats w e3 js) (ii : InI is) (ij : InJ js) :
  Calls Tryd.prog 27 #[.agg #[.slice a1 vs.length c1, .slice a2 fs.length c2, .slice a3 rs.length c3], .agg #[.slice e1 is.length d1, .slice e2 bs.length d2, .slice e3 js.length d3]] w
  fun e w' => e = .returned (.string (if storeB vs fs rs is bs js = true then jnS (stW vs fs rs is bs js) else ⟨#[]⟩)) ∧ Below w.heap.size w w' := by
 have HW := hide hw
 have HPP := hide hp
 have HV := hide hv
 have HF := hide hf
 have HR := hide hr
 have HI := hide hi
 have HBB := hide hb
 have HJ := hide hj
 have HZ := hide hz
 have HII := hide ii
 have HIJ := hide ij
 have HPS := hide (stW_sizes (bs := bs) hz ii ij)
 have T0 := (C3.new w (.slice a1 vs.length c1) (.slice a2 fs.length c2) (.slice a3 rs.length c3) 27).alloc (Obj.cells #[.slice e1 is.length d1, .slice e2 bs.length d2, .slice e3 js.length d3] 35)
 have T1 := C3.new (w.alloc (Obj.cells #[.slice a1 vs.length c1, .slice a2 fs.length c2, .slice a3 rs.length c3] 27)) (.slice e1 is.length d1) (.slice e2 bs.length d2) (.slice e3 js.length d3) 35
 have K0 : Below w.heap.size w ((w.alloc (Obj.cells #[.slice a1 vs.length c1, .slice a2 fs.length c2, .slice a3 rs.length c3] 27)).alloc (Obj.cells #[.slice e1 is.length d1, .slice e2 bs.length d2, .slice e3 js.length d3] 35)) := ((Below.refl _ _).alloc (Nat.le_refl _) _).alloc (by simp) _
 rw [show (w.alloc (Obj.cells #[.slice a1 vs.length c1, .slice a2 fs.length c2, .slice a3 rs.length c3] 27)).heap.size = w.heap.size + 1 by simp] at T1
 have HT0 := hide T0
 have HT1 := hide T1
 have HK := hide K0
 clear T0 T1 K0 hv hf hr hi hb hj ii ij hz hw hp
 obtain ⟨D, hD⟩ : ∃ D, D = w.heap.size := ⟨_, rfl⟩
 obtain ⟨V, hV⟩ : ∃ V, V = (if storeB vs fs rs is bs js = true then jnS (stW vs fs rs is bs js) else ⟨#[]⟩) := ⟨_, rfl⟩
 rw [← hV]
 have HVV := hide hV
 clear hV
 obtain ⟨inf, hi, hz0, hz1, hz2⟩ := info_parts strInfo
 go_enter Tryd.func27, Tryd.ntmps27
 go_upto_region 1 with fail
 generalize (w.alloc (Obj.cells #[.slice a1 vs.length c1, .slice a2 fs.length c2, .slice a3 rs.length c3] 27)).alloc (Obj.cells #[.slice e1 is.length d1, .slice e2 bs.length d2, .slice e3 js.length d3] 35) = u0 at HT0 HT1 HK ⊢
 have HDE := hide hD
 rw [← hD] at HT0 HT1 ⊢
 clear hD
 have b0 := (unhide HT0).1
 have b1 := (unhide HT0).2.1
 have b2 := (unhide HT0).2.2.1
 have t0 := (unhide HT1).1
 have t1 := (unhide HT1).2.1
 have t2 := (unhide HT1).2.2.1
 go_wp2_with fail
 refine (iStoreOk_c a1 a2 a3 c1 c2 c3 vs fs rs e1 e2 e3 d1 d2 d3 is bs js _ ((unhide HW).call (unhide HK)) ((unhide HV).call (unhide HK)) ((unhide HF).call (unhide HK)) ((unhide HR).call (unhide HK)) (unhide HZ) ((unhide HJ).call (unhide HK))).mono ?_
 rintro e u1 ⟨rfl, kb⟩
 have HT0 := hide ((unhide HT0).call kb)
 have HT1 := hide ((unhide HT1).call kb)
 have HK := hide ((unhide HK).trans (kb.mono (unhide HK).size))
 clear kb b0 b1 b2 t0 t1 t2
 cases hok : storeB vs fs rs is bs js
 ·have HN := hide (show V = ⟨#[]⟩ by rw [unhide HVV, hok]; rfl)
  clear hok HVV
  go_wp2
  go_ret
  exact ⟨by rw [unhide HN]; rfl, unhide HK⟩
 have HN := hide (show V = jnS (stW vs fs rs is bs js) by rw [unhide HVV, hok]; rfl)
 have HL := hide (sto_lens hok)
 clear hok HVV
 have HDL := hide (show D + 1 < u1.heap.size from (unhide HT1).lt)
 have HWC := hide (show (u1.alloc (Obj.cells #[.slice none 0 0] 24)).cell? ⟨u1.heap.size, 0, none⟩ = some (.slice none 0 0) ∧ (u1.alloc (Obj.cells #[.slice none 0 0] 24)).frozen? ⟨u1.heap.size, 0, none⟩ = false from ⟨by simp [go_sem], by first | (simp [go_sem]; done) | rfl⟩)
 have HKA := hide ((Below.refl u1.heap.size u1).alloc (Nat.le_refl _) (Obj.cells #[.slice none 0 0] 24))
 have HPT := hide (PT.of ((unhide HPP).call (unhide HK)) (Nat.le_refl u1.heap.size))
 have hmf : ∀ (fn : Fn) (first cap : Array Value) (w : World), (Instr.makeFunc fn first cap).run Tryd.prog w = .ok (.func fn first cap) w := fun _ _ _ _ => rfl
 go_upto_region 5 with fail
 generalize u1.alloc (Obj.cells #[.slice none 0 0] 24) = u2 at HWC HKA ⊢
 obtain ⟨wb, hwb⟩ : ∃ x, x = u1.heap.size := ⟨_, rfl⟩
 rw [← hwb] at HWC HKA HPT HDL ⊢
 have HWE := hide hwb
 clear hwb
 have t1 := ((unhide HKA).cell (show D + 1 < wb from unhide HDL)).trans (unhide HT1).1
 go_wp2
 go_loopw [21] (fun i wr => ∃ (k n : Nat) (oc : Option Addr) (cc : Nat), k ≤ is.length ∧ i = .int .i64 k ∧ n ≤ 2 * k ∧ wr.cell? ⟨wb, 0, none⟩ = some (.slice oc n cc) ∧ wr.frozen? ⟨wb, 0, none⟩ = false ∧ wr.ownsRow (wb + 1) 9 1 (.slice oc n cc) n (cellsS (flat ((prI vs is).take k))) ∧ Below wb u1 wr) (fun i _ => is.length - (intOf i).toNat)
 case atStart => exact ⟨0, 0, _, _, Nat.zero_le _, rfl, Nat.zero_le _, (unhide HWC).1, (unhide HWC).2, World.ownsRow_nil _ _ _ _, unhide HKA⟩
 case round =>
  clear HWC HKA t1
  obtain ⟨k, n, oc, cc, hk, rfl, hn, hc, hf, ho, hb⟩ := hrel
  have HN9 := hide hn
  have HC := hide hc
  have HFZ := hide hf
  have HO := hide ho
  have HB := hide hb
  clear hc hf ho
  by_cases hlt : k < is.length
  ·have hkv : k < vs.length := by have := unhide HL; omega
   have HI1 := hide ((unhide HII) k hlt)
   rcases (unhide HI).2 with h9 | ⟨xb, xo, e9, hc⟩
   ·omega
   subst e9
   have y0 := hc k hlt
   clear hc
   rcases (unhide HV).2 with h9 | ⟨nb, no, e9, hc⟩
   ·omega
   subst e9
   have y2 := hc k hkv
   clear hc
   have lw1 : xb < w.heap.size := World.block_lt_of_cell? _ _ y0
   have lw2 : nb < w.heap.size := World.block_lt_of_cell? _ _ y2
   have y0 := cell_on hb (show xb < wb by have := unhide HDE; have := unhide HDL; omega) (cell_on (unhide HK) lw1 y0)
   have y2 := cell_on hb (show nb < wb by have := unhide HDE; have := unhide HDL; omega) (cell_on (unhide HK) lw2 y2)
   have s1 := cell_on hb (show D < wb by have := unhide HDL; omega) (unhide HT0).1
   have HT2 := hide (prI_take k hkv hlt)
   have k1 := @tellS_c vs[k]
   have HI2 := hide (show InI [is[k]] from fun i h => by simp at h; subst h; exact unhide HI1)
   have HMP := hide (show [is[k]].map itB = [itB is[k]] from rfl)
   generalize itB is[k] = Y at HT2 HMP
   generalize is[k] = p at y0 HI1 HI2 HMP
   generalize vs[k] = N at y2 HT2 k1
   have KI := hide k1
   have lwb : wb < wr.heap.size := World.block_lt_of_cell? _ _ (unhide HC)
   have kq := (Below.refl wr.heap.size wr).alloc (Nat.le_refl _) (Obj.cells #[.int .i64 p] 2)
   have z0 : (wr.alloc (Obj.cells #[.int .i64 p] 2)).cell? ⟨wr.heap.size, 0, none⟩ = some (.int .i64 p) := by simp [go_sem]
   have HRI := hide (show Ints (wr.alloc (Obj.cells #[.int .i64 p] 2)) (some ⟨wr.heap.size, 0, none⟩) [p] from ⟨by simp, .inr ⟨_, 0, rfl, fun i h => by simp at h; subst h; exact z0⟩⟩)
   have HKQ := hide kq
   have HO2 := hide (own_on (unhide HO) kq)
   have HC2 := hide (cell_on kq lwb (unhide HC))
   have HF2 := hide ((kq.frozen (p := ⟨wb, 0, none⟩) lwb).trans (unhide HFZ))
   have HB2 := hide ((unhide HB).trans (kq.mono (Nat.le_of_lt lwb)))
   have HFR := hide (show 0 < [p].length → ∀ c d, some (⟨wr.heap.size, 0, none⟩ : Addr) = some ⟨c, d, none⟩ → (Value.slice oc n cc).ownBlock ≠ some c ∧ c ≠ wb from fun _ c d h => by cases h; exact ⟨fun e => by have := (unhide HO).lt _ e; omega, by omega⟩)
   have hl5 : (is.length : Int) ≤ 5 := by have := unhide HL; omega
   have hlt' : (k : Int) < (is.length : Int) := by omega
   have hkv' : (k : Int) < (vs.length : Int) := by omega
   have hn60 := hide (show n ≤ 60 by have := unhide HL; omega)
   clear k1 lw1 lw2 hb hn kq z0 lwb HO HC HFZ
   go_wp2_with fail
   refine ((unhide KI) (some ⟨wr.heap.size, 0, none⟩) 1 [p] wb oc n cc _ _ (unhide HI2) (unhide HRI) (by simp) (.inl (by simp)) (unhide HFR) ((unhide HPT).on (unhide HB2)) (unhide HC2) (unhide HF2) (unhide HO2) (unhide hn60)).mono ?_
   rintro e w5 ⟨oc', n', cc', rfl, hn5, hc5, hf5, ho5, hb5⟩
   have HN5 := hide (show n' ≤ 2 * (k + 1) by have := unhide HN9; simp at hn5; omega)
   have HC5 := hide hc5
   have HF5 := hide hf5
   have HB5 := hide ((unhide HB2).trans hb5)
   have HO5 : Hid (w5.ownsRow (wb + 1) 9 1 (.slice oc' n' cc') n' (cellsS (flat ((prI vs is).take (k + 1))))) := hide (by
    rw [unhide HT2, show ∀ a b, cellsS (a ++ b) = cellsS a ++ cellsS b from fun a b => by simp [cellsS]]
    rw [unhide HMP, List.append_assoc] at ho5
    exact ho5)
   clear hn5 hc5 hf5 ho5 hb5 HO2 HC2 HF2 HB2 HRI HFR KI y0 y2 s1 HKQ
   go_wp2
   go_roundw
   case rel => exact ⟨k + 1, n', oc', cc', by omega, by go_num, unhide HN5, unhide HC5, unhide HF5, unhide HO5, unhide HB5⟩
   case measure => simp [intOf]; omega
  ·have ek : k = is.length := by omega
   subst ek
   have hlt' : ¬ ((is.length : Int) < (is.length : Int)) := by omega
   have HO : Hid (wr.ownsRow (wb + 1) 9 1 (.slice oc n cc) n (cellsS (flat (prI vs is)))) := hide (by have q := unhide HO; rw [prI_all _ (Nat.le_refl _)] at q; exact q)
   have HNB := hide (show n ≤ 10 by have := unhide HL; omega)
   have t1 := cell_on hb (show D + 1 < wb from unhide HDL) (unhide HT1).2.1
   clear hb hn HN9
   go_wp2
   go_loopw [39] (fun i wr => ∃ (k n : Nat) (oc : Option Addr) (cc : Nat), k ≤ bs.length ∧ i = .int .i64 k ∧ n ≤ 10 + 2 * k ∧ wr.cell? ⟨wb, 0, none⟩ = some (.slice oc n cc) ∧ wr.frozen? ⟨wb, 0, none⟩ = false ∧ wr.ownsRow (wb + 1) 9 1 (.slice oc n cc) n (cellsS (flat (prI vs is) ++ flat ((prO fs bs).take k))) ∧ Below wb u1 wr) (fun i _ => bs.length - (intOf i).toNat)
   case atStart => exact ⟨0, n, oc, cc, Nat.zero_le _, rfl, unhide HNB, unhide HC, unhide HFZ, by simpa [flat] using unhide HO, unhide HB⟩
   case round =>
    clear HNB HC HFZ HO HB t1
    obtain ⟨k, n, oc, cc, hk, rfl, hn, hc, hf, ho, hb⟩ := hrel
    have HN9 := hide hn
    have HC := hide hc
    have HFZ := hide hf
    have HO := hide ho
    have HB := hide hb
    clear hc hf ho
    by_cases hlt : k < bs.length
    ·have hkv : k < fs.length := by have := unhide HL; omega
     rcases (unhide HBB).2 with h9 | ⟨xb, xo, e9, hc⟩
     ·omega
     subst e9
     have y0 := hc k hlt
     clear hc
     rcases (unhide HF).2 with h9 | ⟨nb, no, e9, hc⟩
     ·omega
     subst e9
     have y2 := hc k hkv
     clear hc
     have lw1 : xb < w.heap.size := World.block_lt_of_cell? _ _ y0
     have lw2 : nb < w.heap.size := World.block_lt_of_cell? _ _ y2
     have lA := hide (show nb < wb by have := unhide HDE; have := unhide HDL; omega)
     have lD := hide (show D < wb by have := unhide HDL; omega)
     have y0 := cell_on hb (show xb < wb by have := unhide HDE; have := unhide HDL; omega) (cell_on (unhide HK) lw1 y0)
     have y2 := cell_on hb (unhide lA) (cell_on (unhide HK) lw2 y2)
     have s1 := cell_on hb (unhide lD) (unhide HT0).2.1
     have HT2 := hide (prO_take k hkv hlt)
     generalize bs[k] = p at y0 HT2
     have k1 := fmtBool_c p
     generalize boT p = Y at HT2 k1
     generalize fs[k] = N at y2 HT2
     have KI := hide k1
     have HS1 := hide s1
     have HY2 := hide y2
     have HP : Hid (W3 wr wb (.slice oc n cc) wr) := hide ⟨unhide HC, unhide HFZ, hide ⟨Below.refl _ _, World.block_lt_of_cell? _ _ (unhide HC)⟩⟩
     have hl5 : (bs.length : Int) ≤ 3 := by have := unhide HL; omega
     have hlt' : (k : Int) < (bs.length : Int) := by omega
     have hkv' : (k : Int) < (fs.length : Int) := by omega
     have hsm := hide (show n ≤ 100 by have := unhide HL; omega)
     clear k1 lw1 lw2 hb hn s1 y2 HC HFZ
     go_upto_region 13 with fail
     clear y0
     have HP := hide (W3.drew (unhide HP))
     have HO := hide (own_on (unhide HO) ((Below.refl _ wr).drew))
     refine wp_region_held_drew (S := fun u => u.cell? ⟨D, 1, none⟩ = some ((.slice (some ⟨nb, no, none⟩) fs.length c2)) ∧ u.cell? ⟨nb, no + k, none⟩ = some (.string N)) (by kernel_rfl) ⟨cell_on (unhide HP).low (unhide lD) (unhide HS1), cell_on (unhide HP).low (unhide lA) (unhide HY2)⟩ (fun hHeld => ?_)
     generalize wr.drew = wz at HP HO hHeld ⊢
     refine tk 1 (v := ?_) rfl ?_ ?_
     rotate_left
     ·(intro w9 hSw; (try dsimp only at hSw); go_simp; try with_reducible rfl)
     try simp only [Act.put, sa, sb, sc]
     refine tk 2 (v := ?_) rfl ?_ ?_
     rotate_left
     ·(intro w9 hSw; (try dsimp only at hSw); go_simp; try with_reducible rfl)
     try simp only [Act.put, sa, sb, sc]
     refine tk 3 (v := ?_) rfl ?_ ?_
     rotate_left
     ·(intro w9 hSw; (try dsimp only at hSw); go_simp; try with_reducible rfl)
     try simp only [Act.put, sa, sb, sc]
     refine tk 4 (v := ?_) rfl ?_ ?_
     rotate_left
     ·(intro w9 hSw; (try dsimp only at hSw); go_simp; try with_reducible rfl)
     try simp only [Act.put, sa, sb, sc]
     refine tk 5 (v := ?_) rfl ?_ ?_
     rotate_left
     ·(intro w9 hSw; (try dsimp only at hSw); go_simp; try with_reducible rfl)
     try simp only [Act.put, sa, sb, sc]
     refine tk 6 (v := ?_) rfl ?_ ?_
     rotate_left
     ·(intro w9 hSw; (try dsimp only at hSw); go_simp; try with_reducible rfl)
     try simp only [Act.put, sa, sb, sc]
     refine wpAnyH_ready (rs := [0, 7]) (by kernel_rfl) (by simp) ?_
     refine AllReadyH.cons (i := 0) rfl (fun K hK => ?_) (AllReadyH.cons (i := 7) rfl (fun K hK => ?_) AllReadyH.nil)
     ·have q1 := (unhide HP).1
      go_simp
      refine hK.out _ _ hHeld (fun hHeld => ?_)
      clear hK K q1
      try simp only [Act.put, sa, sb, sc]
      refine wpAnyH_ready (rs := [7]) (by kernel_rfl) (by simp) ?_
      refine AllReadyH.cons (i := 7) rfl (fun K hK => ?_) AllReadyH.nil
      go_simp
      refine ((unhide KI) _).mono ?_
      rintro e u9 ⟨rfl, kb⟩
      have HP := hide (W3.call kb (unhide HP))
      have HO := hide (own_on (unhide HO) kb)
      clear kb
      refine hK.out _ _ ⟨cell_on (unhide HP).low (unhide lD) (unhide HS1), cell_on (unhide HP).low (unhide lA) (unhide HY2)⟩ (fun hHeld => ?_)
      clear hK K
      try simp only [Act.put, sa, sb, sc]
      refine wpAnyH_ready (rs := [8]) (by kernel_rfl) (by simp) ?_
      refine AllReadyH.cons (i := 8) rfl (fun K hK => ?_) AllReadyH.nil
      go_simp
      refine hK.out _ _ ⟨cell_on (W3.alloc (unhide HP) _).low (unhide lD) (unhide HS1), cell_on (W3.alloc (unhide HP) _).low (unhide lA) (unhide HY2)⟩ (fun hHeld => ?_)
      clear hK K
      try simp only [Act.put, sa, sb, sc]
      refine wpAnyH_ready (rs := [9]) (by kernel_rfl) (by simp) ?_
      refine AllReadyH.cons (i := 9) rfl (fun K hK => ?_) AllReadyH.nil
      refine step_app _ (by rfl) _ _ _ (by rfl) (wb + 1) 9 inf (.string ⟨#[]⟩) 1 16 Tryd.underlying24 hi hz0 hz1 hz2 rfl (by decide) _ _ _ (by rfl) ((unhide HO).alloc _) ⟨_, 0, none⟩ 2 2 [.string N, .string Y] (by rfl) rfl (World.news_of_block (heap_alloc_new _ _)) (by intro u hu; simp at hu; rcases hu with rfl | rfl <;> rfl) (by unfold maxLen; have := unhide hsm; omega) (by have := unhide hsm; omega) (by have := (unhide HP).lt; simp; omega) ?_
      intro oc' cc' w5 hown hgrow
      have HP := hide (W3.grown (W3.alloc (unhide HP) _) hgrow (fun j hj => ((unhide HO).lt j hj).1))
      have HO := hide hown
      clear hown hgrow
      refine hK.out _ _ ⟨cell_on (unhide HP).low (unhide lD) (unhide HS1), cell_on (unhide HP).low (unhide lA) (unhide HY2)⟩ (fun hHeld => ?_)
      clear hK K
      try simp only [Act.put, sa, sb, sc]
      refine wpAnyH_ready (rs := [10]) (by kernel_rfl) (by simp) ?_
      refine AllReadyH.cons (i := 10) rfl (fun K hK => ?_) AllReadyH.nil
      have q0 := (unhide HP).1
      have f0 := (unhide HP).2.1
      go_simp
      refine hK.out _ _ ⟨cell_on ((unhide HP).low.setCell (Nat.le_refl _) _) (unhide lD) (unhide HS1), cell_on ((unhide HP).low.setCell (Nat.le_refl _) _) (unhide lA) (unhide HY2)⟩ (fun hHeld => ?_)
      clear hK K q0 f0
      try simp only [Act.put, sa, sb, sc]
      refine wpAnyH_done (by kernel_rfl) ?_ _
      have HC5 := hide (World.cell?_setCell_same _ _ (.slice oc' (n + 2) cc') (unhide HP).1)
      have HF5 := hide (show (w5.setCell ⟨wb, 0, none⟩ (.slice oc' (n + 2) cc')).frozen? ⟨wb, 0, none⟩ = false from (World.frozen?_setCell _ _ _ _).trans (unhide HP).2.1)
      have HO5 := hide (own_setE (b := wb) (o := 0) (x := .slice oc' (n + 2) cc') (unhide HO) (fun e => by have := ((unhide HO).lt wb e).1; omega))
      have HB5 := hide ((unhide HB).trans ((unhide HP).low.setCell (p := ⟨wb, 0, none⟩) (Nat.le_refl _) (.slice oc' (n + 2) cc')))
      clear HP HO hHeld
      generalize w5.setCell ⟨wb, 0, none⟩ (.slice oc' (n + 2) cc') = w6 at HC5 HF5 HO5 HB5 ⊢
      go_wp2
      go_roundw
      case rel => exact ⟨k + 1, n + 2, oc', cc', by omega, by go_num, by have := unhide HN9; omega, unhide HC5, unhide HF5, (by rw [unhide HT2, ← List.append_assoc, show ∀ a b, cellsS (a ++ b) = cellsS a ++ cellsS b from fun a b => by simp [cellsS]]; exact unhide HO5), unhide HB5⟩
      case measure => simp [intOf]; omega
     ·go_simp
      refine ((unhide KI) _).mono ?_
      rintro e u9 ⟨rfl, kb⟩
      have HP := hide (W3.call kb (unhide HP))
      have HO := hide (own_on (unhide HO) kb)
      clear kb
      refine hK.out _ _ ⟨cell_on (unhide HP).low (unhide lD) (unhide HS1), cell_on (unhide HP).low (unhide lA) (unhide HY2)⟩ (fun hHeld => ?_)
      clear hK K
      try simp only [Act.put, sa, sb, sc]
      refine wpAnyH_ready (rs := [0, 8]) (by kernel_rfl) (by simp) ?_
      refine AllReadyH.cons (i := 0) rfl (fun K hK => ?_) (AllReadyH.cons (i := 8) rfl (fun K hK => ?_) AllReadyH.nil)
      ·have q1 := (unhide HP).1
       go_simp
       refine hK.out _ _ hHeld (fun hHeld => ?_)
       clear hK K q1
       try simp only [Act.put, sa, sb, sc]
       refine wpAnyH_ready (rs := [8]) (by kernel_rfl) (by simp) ?_
       refine AllReadyH.cons (i := 8) rfl (fun K hK => ?_) AllReadyH.nil
       go_simp
       refine hK.out _ _ ⟨cell_on (W3.alloc (unhide HP) _).low (unhide lD) (unhide HS1), cell_on (W3.alloc (unhide HP) _).low (unhide lA) (unhide HY2)⟩ (fun hHeld => ?_)
       clear hK K
       try simp only [Act.put, sa, sb, sc]
       refine wpAnyH_ready (rs := [9]) (by kernel_rfl) (by simp) ?_
       refine AllReadyH.cons (i := 9) rfl (fun K hK => ?_) AllReadyH.nil
       refine step_app _ (by rfl) _ _ _ (by rfl) (wb + 1) 9 inf (.string ⟨#[]⟩) 1 16 Tryd.underlying24 hi hz0 hz1 hz2 rfl (by decide) _ _ _ (by rfl) ((unhide HO).alloc _) ⟨_, 0, none⟩ 2 2 [.string N, .string Y] (by rfl) rfl (World.news_of_block (heap_alloc_new _ _)) (by intro u hu; simp at hu; rcases hu with rfl | rfl <;> rfl) (by unfold maxLen; have := unhide hsm; omega) (by have := unhide hsm; omega) (by have := (unhide HP).lt; simp; omega) ?_
       intro oc' cc' w5 hown hgrow
       have HP := hide (W3.grown (W3.alloc (unhide HP) _) hgrow (fun j hj => ((unhide HO).lt j hj).1))
       have HO := hide hown
       clear hown hgrow
       refine hK.out _ _ ⟨cell_on (unhide HP).low (unhide lD) (unhide HS1), cell_on (unhide HP).low (unhide lA) (unhide HY2)⟩ (fun hHeld => ?_)
       clear hK K
       try simp only [Act.put, sa, sb, sc]
       refine wpAnyH_ready (rs := [10]) (by kernel_rfl) (by simp) ?_
       refine AllReadyH.cons (i := 10) rfl (fun K hK => ?_) AllReadyH.nil
       have q0 := (unhide HP).1
       have f0 := (unhide HP).2.1
       go_simp
       refine hK.out _ _ ⟨cell_on ((unhide HP).low.setCell (Nat.le_refl _) _) (unhide lD) (unhide HS1), cell_on ((unhide HP).low.setCell (Nat.le_refl _) _) (unhide lA) (unhide HY2)⟩ (fun hHeld => ?_)
       clear hK K q0 f0
       try simp only [Act.put, sa, sb, sc]
       refine wpAnyH_done (by kernel_rfl) ?_ _
       have HC5 := hide (World.cell?_setCell_same _ _ (.slice oc' (n + 2) cc') (unhide HP).1)
       have HF5 := hide (show (w5.setCell ⟨wb, 0, none⟩ (.slice oc' (n + 2) cc')).frozen? ⟨wb, 0, none⟩ = false from (World.frozen?_setCell _ _ _ _).trans (unhide HP).2.1)
       have HO5 := hide (own_setE (b := wb) (o := 0) (x := .slice oc' (n + 2) cc') (unhide HO) (fun e => by have := ((unhide HO).lt wb e).1; omega))
       have HB5 := hide ((unhide HB).trans ((unhide HP).low.setCell (p := ⟨wb, 0, none⟩) (Nat.le_refl _) (.slice oc' (n + 2) cc')))
       clear HP HO hHeld
       generalize w5.setCell ⟨wb, 0, none⟩ (.slice oc' (n + 2) cc') = w6 at HC5 HF5 HO5 HB5 ⊢
       go_wp2
       go_roundw
       case rel => exact ⟨k + 1, n + 2, oc', cc', by omega, by go_num, by have := unhide HN9; omega, unhide HC5, unhide HF5, (by rw [unhide HT2, ← List.append_assoc, show ∀ a b, cellsS (a ++ b) = cellsS a ++ cellsS b from fun a b => by simp [cellsS]]; exact unhide HO5), unhide HB5⟩
       case measure => simp [intOf]; omega
      ·go_simp
       refine hK.out _ _ ⟨cell_on (W3.alloc (unhide HP) _).low (unhide lD) (unhide HS1), cell_on (W3.alloc (unhide HP) _).low (unhide lA) (unhide HY2)⟩ (fun hHeld => ?_)
       clear hK K
       try simp only [Act.put, sa, sb, sc]
       refine wpAnyH_ready (rs := [0]) (by kernel_rfl) (by simp) ?_
       refine AllReadyH.cons (i := 0) rfl (fun K hK => ?_) AllReadyH.nil
       have q1 := (unhide HP).1
       have q2 := (W3.alloc (unhide HP) (Obj.cells #[.string N, .string Y] 9)).1
       go_simp
       refine hK.out _ _ hHeld (fun hHeld => ?_)
       clear hK K q1 q2
       try simp only [Act.put, sa, sb, sc]
       refine wpAnyH_ready (rs := [9]) (by kernel_rfl) (by simp) ?_
       refine AllReadyH.cons (i := 9) rfl (fun K hK => ?_) AllReadyH.nil
       refine step_app _ (by rfl) _ _ _ (by rfl) (wb + 1) 9 inf (.string ⟨#[]⟩) 1 16 Tryd.underlying24 hi hz0 hz1 hz2 rfl (by decide) _ _ _ (by rfl) ((unhide HO).alloc _) ⟨_, 0, none⟩ 2 2 [.string N, .string Y] (by rfl) rfl (World.news_of_block (heap_alloc_new _ _)) (by intro u hu; simp at hu; rcases hu with rfl | rfl <;> rfl) (by unfold maxLen; have := unhide hsm; omega) (by have := unhide hsm; omega) (by have := (unhide HP).lt; simp; omega) ?_
       intro oc' cc' w5 hown hgrow
       have HP := hide (W3.grown (W3.alloc (unhide HP) _) hgrow (fun j hj => ((unhide HO).lt j hj).1))
       have HO := hide hown
       clear hown hgrow
       refine hK.out _ _ ⟨cell_on (unhide HP).low (unhide lD) (unhide HS1), cell_on (unhide HP).low (unhide lA) (unhide HY2)⟩ (fun hHeld => ?_)
       clear hK K
       try simp only [Act.put, sa, sb, sc]
       refine wpAnyH_ready (rs := [10]) (by kernel_rfl) (by simp) ?_
       refine AllReadyH.cons (i := 10) rfl (fun K hK => ?_) AllReadyH.nil
       have q0 := (unhide HP).1
       have f0 := (unhide HP).2.1
       go_simp
       refine hK.out _ _ ⟨cell_on ((unhide HP).low.setCell (Nat.le_refl _) _) (unhide lD) (unhide HS1), cell_on ((unhide HP).low.setCell (Nat.le_refl _) _) (unhide lA) (unhide HY2)⟩ (fun hHeld => ?_)
       clear hK K q0 f0
       try simp only [Act.put, sa, sb, sc]
       refine wpAnyH_done (by kernel_rfl) ?_ _
       have HC5 := hide (World.cell?_setCell_same _ _ (.slice oc' (n + 2) cc') (unhide HP).1)
       have HF5 := hide (show (w5.setCell ⟨wb, 0, none⟩ (.slice oc' (n + 2) cc')).frozen? ⟨wb, 0, none⟩ = false from (World.frozen?_setCell _ _ _ _).trans (unhide HP).2.1)
       have HO5 := hide (own_setE (b := wb) (o := 0) (x := .slice oc' (n + 2) cc') (unhide HO) (fun e => by have := ((unhide HO).lt wb e).1; omega))
       have HB5 := hide ((unhide HB).trans ((unhide HP).low.setCell (p := ⟨wb, 0, none⟩) (Nat.le_refl _) (.slice oc' (n + 2) cc')))
       clear HP HO hHeld
       generalize w5.setCell ⟨wb, 0, none⟩ (.slice oc' (n + 2) cc') = w6 at HC5 HF5 HO5 HB5 ⊢
       go_wp2
       go_roundw
       case rel => exact ⟨k + 1, n + 2, oc', cc', by omega, by go_num, by have := unhide HN9; omega, unhide HC5, unhide HF5, (by rw [unhide HT2, ← List.append_assoc, show ∀ a b, cellsS (a ++ b) = cellsS a ++ cellsS b from fun a b => by simp [cellsS]]; exact unhide HO5), unhide HB5⟩
       case measure => simp [intOf]; omega
    ·have ek : k = bs.length := by omega
     subst ek
     have hlt' : ¬ ((bs.length : Int) < (bs.length : Int)) := by omega
     have HO : Hid (wr.ownsRow (wb + 1) 9 1 (.slice oc n cc) n (cellsS (flat (prI vs is) ++ flat (prO fs bs)))) := hide (by have q := unhide HO; rw [prO_all _ (Nat.le_refl _)] at q; exact q)
     have HNB := hide (show n ≤ 16 by have := unhide HL; omega)
     have t1 := cell_on hb (show D + 1 < wb from unhide HDL) (unhide HT1).2.2.1
     clear hb hn HN9
     go_wp2
     go_loopw [58] (fun i wr => ∃ (k n : Nat) (oc : Option Addr) (cc : Nat), k ≤ js.length ∧ i = .int .i64 k ∧ n ≤ 16 + 17 * k ∧ wr.cell? ⟨wb, 0, none⟩ = some (.slice oc n cc) ∧ wr.frozen? ⟨wb, 0, none⟩ = false ∧ wr.ownsRow (wb + 1) 9 1 (.slice oc n cc) n (cellsS (flat (prI vs is) ++ flat (prO fs bs) ++ ((wsJ rs js).take k).flatten)) ∧ Below wb u1 wr) (fun i _ => js.length - (intOf i).toNat)
     case atStart => exact ⟨0, n, oc, cc, Nat.zero_le _, rfl, unhide HNB, unhide HC, unhide HFZ, by simpa using unhide HO, unhide HB⟩
     case round =>
      clear HNB HC HFZ HO HB t1
      obtain ⟨k, n, oc, cc, hk, rfl, hn, hc, hf, ho, hb⟩ := hrel
      have HN9 := hide hn
      have HC := hide hc
      have HFZ := hide hf
      have HO := hide ho
      have HB := hide hb
      clear hc hf ho
      by_cases hlt : k < js.length
      ·have hkv : k < rs.length := by have := unhide HL; omega
       rcases (unhide HJ).2 with h9 | ⟨xb, xo, e9, hc⟩
       ·omega
       subst e9
       obtain ⟨rb, rc, y0, hri⟩ := hc k hlt
       clear hc
       rcases (unhide HR).2 with h9 | ⟨nb, no, e9, hc⟩
       ·omega
       subst e9
       have y2 := (hc k hkv).1
       clear hc
       have lw1 : xb < w.heap.size := World.block_lt_of_cell? _ _ y0
       have lw2 : nb < w.heap.size := World.block_lt_of_cell? _ _ y2
       have y0 := cell_on hb (show xb < wb by have := unhide HDE; have := unhide HDL; omega) (cell_on (unhide HK) lw1 y0)
       have y2 := cell_on hb (show nb < wb by have := unhide HDE; have := unhide HDL; omega) (cell_on (unhide HK) lw2 y2)
       have s1 := cell_on hb (show D < wb by have := unhide HDL; omega) (unhide HT0).2.2.1
       have HI2 := hide ((unhide HIJ) k hlt)
       have HRL := hide (show js[k].length ≤ 16 from (unhide HL).2.2.2.2.2.2 k hlt)
       have HT2 := hide (wsJ_take k hkv hlt)
       generalize js[k] = R at y0 hri HI2 HRL HT2
       have k1 := @tellS_c rs[k].1
       generalize rs[k].1 = N at y2 HT2 k1
       have KI := hide k1
       have hkw : Below w.heap.size w wr := (unhide HK).trans (hb.mono (by have := unhide HDE; have := unhide HDL; have := (unhide HK).size; have := unhide HWE; omega))
       have HRI := hide (hri.call hkw)
       have HRD := hide (show 0 < R.length → ∀ c d, rb = some ⟨c, d, none⟩ → c < wb from fun h0 c d h => by
        rcases hri.2 with h9 | ⟨c', d', e9, hc9⟩
        ·omega
        ·rw [h] at e9
         cases e9
         have lc : c < w.heap.size := World.block_lt_of_cell? _ _ (hc9 0 h0)
         have := unhide HDE
         have := unhide HDL
         omega)
       have HFR := hide (show 0 < R.length → ∀ c d, rb = some ⟨c, d, none⟩ → (Value.slice oc n cc).ownBlock ≠ some c ∧ c ≠ wb from fun h0 c d h => ⟨fun e => by have := (unhide HO).lt _ e; have := unhide HRD h0 c d h; omega, by have := unhide HRD h0 c d h; omega⟩)
       have HOR := hide (show R.length ≤ 1 ∨ ∀ c d, rb = some ⟨c, d, none⟩ → c < wb by
        rcases Nat.lt_or_ge 1 R.length with h | h
        ·exact .inr (unhide HRD (by omega))
        ·exact .inl h)
       have hl5 : (js.length : Int) ≤ 2 := by have := unhide HL; omega
       have hlt' : (k : Int) < (js.length : Int) := by omega
       have hkv' : (k : Int) < (rs.length : Int) := by omega
       have hn60 := hide (show n ≤ 60 by have := unhide HL; omega)
       clear k1 lw1 lw2 hb hn hri hkw
       go_wp2_with fail
       refine ((unhide KI) rb rc R wb oc n cc _ _ (unhide HI2) (unhide HRI) (unhide HRL) (unhide HOR) (unhide HFR) ((unhide HPT).on (unhide HB)) (unhide HC) (unhide HFZ) (unhide HO) (unhide hn60)).mono ?_
       rintro e w5 ⟨oc', n', cc', rfl, hn5, hc5, hf5, ho5, hb5⟩
       have HN5 := hide (show n' ≤ 16 + 17 * (k + 1) by have := unhide HN9; have := unhide HRL; omega)
       have HC5 := hide hc5
       have HF5 := hide hf5
       have HB5 := hide ((unhide HB).trans hb5)
       have HO5 : Hid (w5.ownsRow (wb + 1) 9 1 (.slice oc' n' cc') n' (cellsS (flat (prI vs is) ++ flat (prO fs bs) ++ ((wsJ rs js).take (k + 1)).flatten))) := hide (by
        rw [unhide HT2, ← List.append_assoc, show ∀ a b, cellsS (a ++ b) = cellsS a ++ cellsS b from fun a b => by simp [cellsS]]
        rw [List.append_assoc] at ho5
        exact ho5)
       clear hn5 hc5 hf5 ho5 hb5 HO HC HFZ HB HRI HFR KI y0 y2 s1 HOR HRD
       go_wp2
       go_roundw
       case rel => exact ⟨k + 1, n', oc', cc', by omega, by go_num, unhide HN5, unhide HC5, unhide HF5, unhide HO5, unhide HB5⟩
       case measure => simp [intOf]; omega
      ·have ek : k = js.length := by omega
       subst ek
       have hlt' : ¬ ((js.length : Int) < (js.length : Int)) := by omega
       have HO : Hid (wr.ownsRow (wb + 1) 9 1 (.slice oc n cc) n (cellsS (stW vs fs rs is bs js))) := hide (by have q := unhide HO; rw [wsJ_all _ (Nat.le_refl _)] at q; exact q)
       have hc := unhide HC
       have hn2 : n = (stW vs fs rs is bs js).length := by have q := (unhide HO).1; simp [cellsS] at q; omega
       have HN50 := hide (show n ≤ 50 by have := unhide HL; omega)
       have HFS := hide (unhide HPS)
       clear hb hn HPS HN9
       generalize stW vs fs rs is bs js = L at hn2 HN HO HFS
       have HKF := hide ((unhide HK).trans ((unhide HB).mono (by have := (unhide HK).size; have := unhide HWE; omega)))
       by_cases h0 : n = 0
       ·have HV0 := hide (show V = ⟨#[]⟩ by
         have e : L = [] := List.eq_nil_of_length_eq_zero (by omega)
         rw [unhide HN, e]
         rfl)
        subst h0
        clear hn2
        go_wp2_with fail
        refine (Tryd.strings_Join_none _ _ _ _).mono ?_
        rintro e w9 ⟨rfl, rfl⟩
        go_wp2
        go_ret
        exact ⟨by rw [unhide HV0]; rfl, unhide HKF⟩
       ·obtain ⟨bk, rfl, hbk, hcap⟩ := own_some (unhide HO) (by omega)
        have HCL := hide (show ∀ (j : Nat) x, L[j]? = some x → wr.cell? ⟨bk, 0 + j, none⟩ = some (.string x) from fun j x hj => by
         have hlj := (List.getElem?_eq_some_iff.1 hj).1
         rw [Nat.zero_add, (unhide HO).cellAt j (by omega)]
         unfold cellsS
         rw [List.getElem?_map, hj]
         rfl)
        have HJL := hide (show (Lib.join (L.map (·.data.toList)) (⟨#[32]⟩ : ByteArray).data.toList).length ≤ 140737488355328 by
         rw [join_jn, Array.length_toList]
         have q1 := jnS_size L 1048700 (unhide HFS)
         have q2 : (jnS L).data.size = (jnS L).size := rfl
         have q3 : L.length * (1048700 + 1) ≤ 50 * (1048700 + 1) := Nat.mul_le_mul_right _ (by have := unhide HN50; omega)
         omega)
        have HBK := hide (And.intro hbk hcap)
        have HHN := hide hn2
        clear h0 hn2 hbk hcap HO
        go_wp2_with fail
        have hjn := Tryd.strings_Join bk 0 cc L (⟨#[32]⟩ : ByteArray) wr (unhide HCL) (unhide HBK).1 (by have := unhide HHN; have := unhide HN50; omega) (by have := (unhide HBK).2; have := unhide HHN; omega) (unhide HJL)
        rw [← unhide HHN, join_ba, ← unhide HN] at hjn
        refine hjn.mono ?_
        rintro e w9 ⟨rfl, kb⟩
        have HF9 := hide ((unhide HKF).trans (kb.mono (unhide HKF).size))
        clear kb hjn
        go_wp2
        go_ret
        exact ⟨rfl, unhide HF9⟩
end Go.Proofs.YtpdnnpnclgcpoaaDoor
