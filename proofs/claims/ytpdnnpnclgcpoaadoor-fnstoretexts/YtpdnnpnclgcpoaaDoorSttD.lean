/- The text of a store: the specification's. -/
import Derived.Test.YtpdnnpnclgcpoaaDoorSuZ
import Derived.Test.YtpdnnpnclgcpoaaDoorEnX
namespace Go.Proofs.YtpdnnpnclgcpoaaDoor
open Go.RowKit
set_option linter.unusedSimpArgs false
set_option linter.unusedVariables false

set_option maxRecDepth 20000 in
set_option maxHeartbeats 16000000 in
theorem sStoreText_c (a1 a2 a3 : Option Addr) (c1 c2 c3 : Nat) (vs fs : List ByteArray) (rs : List (ByteArray × Int)) (e1 e2 e3 : Option Addr) (d1 d2 d3 : Nat) (is : List Int) (bs : List Bool) (js : List (List Int)) (w : World) (hv : Strs w a1 vs) (hf : Strs w a2 fs) (hr : Arrs w a3 rs)
    (hz : ∀ x ∈ namesOf vs fs rs, x.size ≤ 1048576) (hi : Ints w e1 is) (hb : Bools w e2 bs) (hj : Mats w e3 js) (ii : InI is) (ij : InJ js) :
    Calls Tryd.prog 28 #[.agg #[.slice a1 vs.length c1, .slice a2 fs.length c2, .slice a3 rs.length c3], .agg #[.slice e1 is.length d1, .slice e2 bs.length d2, .slice e3 js.length d3]] w
    fun e w' => e = .returned (.string (if storeB vs fs rs is bs js = true then jnS (stW vs fs rs is bs js) else ⟨#[]⟩)) ∧ Below w.heap.size w w' := by
  have HV := hide hv
  have HF := hide hf
  have HR := hide hr
  have HI := hide hi
  have HBB := hide hb
  have HJ := hide hj
  have HZ := hide hz
  have HII := hide ii
  have HIJ := hide ij
  have HPS := hide (stW_sizes (bs := bs) hz ii ij)
  have T0 := (C3.new w (.slice a1 vs.length c1) (.slice a2 fs.length c2) (.slice a3 rs.length c3) 27).alloc (Obj.cells #[.slice e1 is.length d1, .slice e2 bs.length d2, .slice e3 js.length d3] 35)
  have T1 := C3.new (w.alloc (Obj.cells #[.slice a1 vs.length c1, .slice a2 fs.length c2, .slice a3 rs.length c3] 27)) (.slice e1 is.length d1) (.slice e2 bs.length d2) (.slice e3 js.length d3) 35
  have K0 : Below w.heap.size w ((w.alloc (Obj.cells #[.slice a1 vs.length c1, .slice a2 fs.length c2, .slice a3 rs.length c3] 27)).alloc (Obj.cells #[.slice e1 is.length d1, .slice e2 bs.length d2, .slice e3 js.length d3] 35)) := ((Below.refl _ _).alloc (Nat.le_refl _) _).alloc (by simp) _
  rw [show (w.alloc (Obj.cells #[.slice a1 vs.length c1, .slice a2 fs.length c2, .slice a3 rs.length c3] 27)).heap.size = w.heap.size + 1 by simp] at T1
  have HT0 := hide T0
  have HT1 := hide T1
  have HK := hide K0
  clear T0 T1 K0 hv hf hr hi hb hj ii ij hz
  obtain ⟨D, hD⟩ : ∃ D, D = w.heap.size := ⟨_, rfl⟩
  obtain ⟨V, hV⟩ : ∃ V, V = (if storeB vs fs rs is bs js = true then jnS (stW vs fs rs is bs js) else ⟨#[]⟩) := ⟨_, rfl⟩
  rw [← hV]
  have HVV := hide hV
  clear hV
  obtain ⟨inf, hi, hz0, hz1, hz2⟩ := info_parts strInfo
  go_enter Tryd.func28, Tryd.ntmps28
  go_upto_region 1 with fail
  generalize (w.alloc (Obj.cells #[.slice a1 vs.length c1, .slice a2 fs.length c2, .slice a3 rs.length c3] 27)).alloc (Obj.cells #[.slice e1 is.length d1, .slice e2 bs.length d2, .slice e3 js.length d3] 35) = u0 at HT0 HT1 HK ⊢
  have HDE := hide hD
  rw [← hD] at HT0 HT1 ⊢
  clear hD
  have b0 := (unhide HT0).1
  have b1 := (unhide HT0).2.1
  have b2 := (unhide HT0).2.2.1
  have t0 := (unhide HT1).1
  have t1 := (unhide HT1).2.1
  have t2 := (unhide HT1).2.2.1
  go_wp2_with fail
  refine (sStoreOk_c a1 a2 a3 c1 c2 c3 vs fs rs e1 e2 e3 d1 d2 d3 is bs js _ ((unhide HV).call (unhide HK)) ((unhide HF).call (unhide HK)) ((unhide HR).call (unhide HK)) (unhide HZ) ((unhide HJ).call (unhide HK))).mono ?_
  rintro e u ⟨rfl, kb⟩
  have HT0 := hide ((unhide HT0).call kb)
  have HT1 := hide ((unhide HT1).call kb)
  have HK := hide ((unhide HK).trans (kb.mono (unhide HK).size))
  clear kb b0 b1 b2 t0 t1 t2
  cases hok : storeB vs fs rs is bs js
  · have HN := hide (show V = ⟨#[]⟩ by rw [unhide HVV, hok]; rfl)
    clear hok HVV
    go_wp2
    go_ret
    exact ⟨by rw [unhide HN]; rfl, unhide HK⟩
  have HN := hide (show V = jnS (stW vs fs rs is bs js) by rw [unhide HVV, hok]; rfl)
  have HL := hide (sto_lens hok)
  have HB0 := hide (show D + 2 ≤ u.heap.size by have := (unhide HT1).lt; omega)
  clear hok HVV
  go_upto_region 4 with fail
  have HO := hide (row0 u (D + 2) (unhide HB0))
  have HKA := hide ((Below.refl (D + 2) u).alloc (unhide HB0) (Obj.cells #[] 9))
  have HSA := hide (show D + 2 ≤ (u.alloc (Obj.cells #[] 9)).heap.size by have := unhide HB0; simp; omega)
  generalize u.alloc (Obj.cells #[] 9) = u0 at HO HKA HSA ⊢
  generalize u.heap.size = ob0 at HO ⊢
  go_wp2
  go_loopw [5, 6] (fun l i wr => ∃ (k n : Nat) (oc : Option Addr) (cc : Nat), k ≤ is.length ∧ i = .int .i64 k ∧ l = .slice oc n cc ∧ n ≤ 2 * k ∧ wr.ownsRow (D + 2) 9 1 (.slice oc n cc) n (cellsS (flat ((prI vs is).take k))) ∧ Below (D + 2) u wr ∧ D + 2 ≤ wr.heap.size) (fun _ i _ => is.length - (intOf i).toNat)
  case atStart => exact ⟨0, 0, _, _, Nat.zero_le _, rfl, rfl, Nat.zero_le _, unhide HO, unhide HKA, unhide HSA⟩
  case round =>
    clear HO HKA HSA
    obtain ⟨k, n, oc, cc, hk, rfl, rfl, hn, ho, hb, hz⟩ := hrel
    have HB := hide hb
    have HO := hide ho
    have HZ9 := hide hz
    have HN9 := hide hn
    have t0 := cell_on hb (show D < D + 2 by omega) (unhide HT0).1
    have t1 := cell_on hb (show D + 1 < D + 2 by omega) (unhide HT1).1
    by_cases hlt : k < is.length
    · have hkv : k < vs.length := by have := unhide HL; omega
      have HI1 := hide ((unhide HII) k hlt)
      rcases (unhide HI).2 with h9 | ⟨xb, xo, e9, hc⟩
      · omega
      subst e9
      have y0 := hc k hlt
      clear hc
      rcases (unhide HV).2 with h9 | ⟨nb, no, e9, hc⟩
      · omega
      subst e9
      have y2 := hc k hkv
      clear hc
      have lw1 : xb < w.heap.size := World.block_lt_of_cell? _ _ y0
      have lw2 : nb < w.heap.size := World.block_lt_of_cell? _ _ y2
      have lq1 : xb < D + 2 := by have := unhide HDE; omega
      have lq2 : nb < D + 2 := by have := unhide HDE; omega
      have y0 := cell_on hb lq1 (cell_on (unhide HK) lw1 y0)
      have y2 := cell_on hb lq2 (cell_on (unhide HK) lw2 y2)
      have HT2 := hide (prI_take k hkv hlt)
      have k1 : ∀ w, Calls Tryd.prog 72 #[.int .i64 is[k]] w fun e w' => e = .returned (.string (itB is[k])) ∧ Below w.heap.size w w' := fun w => l1DecG_c _ (unhide HI1).1 (unhide HI1).2 w
      generalize itB is[k] = Y at HT2 k1
      generalize is[k] = p at y0 k1 HI1
      generalize vs[k] = N at y2 HT2
      have KI := hide k1
      have hl5 : (is.length : Int) ≤ 5 := by have := unhide HL; omega
      have hlt' : (k : Int) < (is.length : Int) := by omega
      have hkv' : (k : Int) < (vs.length : Int) := by omega
      have hh : S5 (D + 2) wr D 0 (D + 1) 0 nb (no + k) xb (xo + k) (xo + k) _ _ _ _ _ wr := ⟨t0, t1, y2, y0, y0, hide ⟨Below.refl _ _, hz, by omega, by omega, lq2, lq1⟩⟩
      have kd : Below wr.heap.size wr wr.drew := (Below.refl _ _).drew
      have hsm := hide (show n ≤ 10 by have := unhide HL; omega)
      clear k1 lw1 lw2 lq1 lq2 ho hb hz hn
      go_upto_region 7 with fail
      clear t0 t1 y0 y2
      go_region_held3 (S5 (D + 2) wr D 0 (D + 1) 0 nb (no + k) xb (xo + k) (xo + k) (.slice (some ⟨nb, no, none⟩) vs.length c1) (.slice (some ⟨xb, xo, none⟩) is.length d1) (.string N) (.int .i64 p) (.int .i64 p))
        (first | exact hs4 | exact S5.drew (by assumption) | exact S5.alloc (by assumption) _ | exact hq | assumption)
        (first
          | (go_at_call 72; refine ((unhide KI) _).mono ?_; rintro e v1 ⟨rfl, hb1⟩; have hq := S5.call hb1 (S5.drew hh); have ho1 := own_on (own_on (unhide HO) kd) hb1)
          | (refine step_app _ (by rfl) _ _ _ (by rfl) (D + 2) 9 inf (.string ⟨#[]⟩) 1 16 Tryd.underlying24 hi hz0 hz1 hz2 rfl (by decide) _ _ _ (by rfl) (ho1.alloc _) ⟨_, 0, none⟩ 2 2 [.string N, .string Y] (by rfl) rfl (World.news_of_block (heap_alloc_new _ _)) (by intro u hu; simp at hu; rcases hu with rfl | rfl <;> rfl) (by unfold maxLen; have := unhide hsm; omega) (by have := unhide hsm; omega) (by have := hq.sz; simp; omega) ?_; intro oc' cc' w5 hown hgrow; have hs4 := S5.grown (S5.alloc hq _) hgrow (fun j hj => (ho1.lt j hj).1)))
      rename_i hHeld
      have HD5 := hide ((unhide HB).trans hs4.below)
      have HZ5 := hide hs4.sz
      have HO5 : Hid (w5.ownsRow (D + 2) 9 1 (.slice oc' (n + 2) cc') (n + 2) (cellsS (flat ((prI vs is).take (k + 1))))) := hide (by
        rw [unhide HT2, show ∀ a b, cellsS (a ++ b) = cellsS a ++ cellsS b from fun a b => by simp [cellsS]]
        exact hown)
      clear hHeld hh hq hs4 hown hgrow ho1 kd KI HO HB HZ9 hb1
      go_wp2
      go_roundw
      case rel => exact ⟨k + 1, n + 2, oc', cc', by omega, by go_num, rfl, by have := unhide HN9; omega, unhide HO5, unhide HD5, unhide HZ5⟩
      case measure => simp [intOf]; omega
    · have ek : k = is.length := by omega
      subst ek
      have hlt' : ¬ ((is.length : Int) < (is.length : Int)) := by omega
      have HO : Hid (wr.ownsRow (D + 2) 9 1 (.slice oc n cc) n (cellsS (flat (prI vs is)))) := hide (by have q := unhide HO; rw [prI_all _ (Nat.le_refl _)] at q; exact q)
      have HNB := hide (show n ≤ 10 by have := unhide HL; omega)
      clear ho hb hz hn HN9
      go_wp2
      go_loopw [5, 7] (fun l i wr => ∃ (k n : Nat) (oc : Option Addr) (cc : Nat), k ≤ bs.length ∧ i = .int .i64 k ∧ l = .slice oc n cc ∧ n ≤ 10 + 2 * k ∧ wr.ownsRow (D + 2) 9 1 (.slice oc n cc) n (cellsS (flat (prI vs is) ++ flat ((prO fs bs).take k))) ∧ Below (D + 2) u wr ∧ D + 2 ≤ wr.heap.size) (fun _ i _ => bs.length - (intOf i).toNat)
      case atStart => exact ⟨0, n, oc, cc, Nat.zero_le _, rfl, rfl, unhide HNB, by simpa [flat] using unhide HO, unhide HB, unhide HZ9⟩
      case round =>
        clear HO HB HZ9 HNB
        obtain ⟨k, n, oc, cc, hk, rfl, rfl, hn, ho, hb, hz⟩ := hrel
        have HB := hide hb
        have HO := hide ho
        have HZ9 := hide hz
        have HN9 := hide hn
        have t0 := cell_on hb (show D < D + 2 by omega) (unhide HT0).2.1
        have t1 := cell_on hb (show D + 1 < D + 2 by omega) (unhide HT1).2.1
        by_cases hlt : k < bs.length
        · have hkv : k < fs.length := by have := unhide HL; omega
          rcases (unhide HBB).2 with h9 | ⟨xb, xo, e9, hc⟩
          · omega
          subst e9
          have y0 := hc k hlt
          clear hc
          rcases (unhide HF).2 with h9 | ⟨nb, no, e9, hc⟩
          · omega
          subst e9
          have y2 := hc k hkv
          clear hc
          have lw1 : xb < w.heap.size := World.block_lt_of_cell? _ _ y0
          have lw2 : nb < w.heap.size := World.block_lt_of_cell? _ _ y2
          have y0 := cell_on hb (show xb < D + 2 by have := unhide HDE; omega) (cell_on (unhide HK) lw1 y0)
          have y2 := cell_on hb (show nb < D + 2 by have := unhide HDE; omega) (cell_on (unhide HK) lw2 y2)
          have HT2 := hide (prO_take k hkv hlt)
          generalize bs[k] = p at y0 HT2
          generalize fs[k] = N at y2 HT2
          have hl5 : (bs.length : Int) ≤ 3 := by have := unhide HL; omega
          have hlt' : (k : Int) < (bs.length : Int) := by omega
          have hkv' : (k : Int) < (fs.length : Int) := by omega
          have hsm := hide (show n ≤ 20 by have := unhide HL; omega)
          clear lw1 lw2 ho hb hz hn
          cases p
          · go_upto_region 14 with fail
            go_wp2_with (refine wpList_app _ (by rfl) _ _ _ (by rfl) (D + 2) 9 inf (.string ⟨#[]⟩) 1 16 Tryd.underlying24 hi hz0 hz1 hz2 rfl (by decide) _ _ _ (by rfl) ((unhide HO).alloc _) ⟨_, 0, none⟩ 2 2 [.string N, .string ⟨#[102, 97, 108, 115, 101]⟩] (by rfl) rfl (World.news_of_block (heap_alloc_new _ _)) (by intro u hu; simp at hu; rcases hu with rfl | rfl <;> rfl) (by unfold maxLen; have := unhide hsm; omega) (by have := unhide hsm; omega) (by have := unhide HZ9; simp; omega) ?_; intro oc' cc' w5 hown hgrow)
            have HD5 := hide ((unhide HB).trans (((Below.refl _ _).alloc (unhide HZ9) _).grown hgrow (by have := unhide HZ9; simp; omega) (fun j hj => ((unhide HO).lt j hj).1)))
            have HZ5 := hide (show D + 2 ≤ w5.heap.size by have := hgrow.size; have := unhide HZ9; simp at *; omega)
            have HO5 : Hid (w5.ownsRow (D + 2) 9 1 (.slice oc' (n + 2) cc') (n + 2) (cellsS (flat (prI vs is) ++ flat ((prO fs bs).take (k + 1))))) := hide (by
              rw [unhide HT2, ← List.append_assoc, show ∀ a b, cellsS (a ++ b) = cellsS a ++ cellsS b from fun a b => by simp [cellsS]]
              exact hown)
            clear hown hgrow HO HB HZ9 t0 t1 y0 y2
            go_wp2
            go_roundw
            case rel => exact ⟨k + 1, n + 2, oc', cc', by omega, by go_num, rfl, by have := unhide HN9; omega, unhide HO5, unhide HD5, unhide HZ5⟩
            case measure => simp [intOf]; omega
          · go_upto_region 14 with fail
            go_wp2_with (refine wpList_app _ (by rfl) _ _ _ (by rfl) (D + 2) 9 inf (.string ⟨#[]⟩) 1 16 Tryd.underlying24 hi hz0 hz1 hz2 rfl (by decide) _ _ _ (by rfl) ((unhide HO).alloc _) ⟨_, 0, none⟩ 2 2 [.string N, .string ⟨#[116, 114, 117, 101]⟩] (by rfl) rfl (World.news_of_block (heap_alloc_new _ _)) (by intro u hu; simp at hu; rcases hu with rfl | rfl <;> rfl) (by unfold maxLen; have := unhide hsm; omega) (by have := unhide hsm; omega) (by have := unhide HZ9; simp; omega) ?_; intro oc' cc' w5 hown hgrow)
            have HD5 := hide ((unhide HB).trans (((Below.refl _ _).alloc (unhide HZ9) _).grown hgrow (by have := unhide HZ9; simp; omega) (fun j hj => ((unhide HO).lt j hj).1)))
            have HZ5 := hide (show D + 2 ≤ w5.heap.size by have := hgrow.size; have := unhide HZ9; simp at *; omega)
            have HO5 : Hid (w5.ownsRow (D + 2) 9 1 (.slice oc' (n + 2) cc') (n + 2) (cellsS (flat (prI vs is) ++ flat ((prO fs bs).take (k + 1))))) := hide (by
              rw [unhide HT2, ← List.append_assoc, show ∀ a b, cellsS (a ++ b) = cellsS a ++ cellsS b from fun a b => by simp [cellsS]]
              exact hown)
            clear hown hgrow HO HB HZ9 t0 t1 y0 y2
            go_wp2
            go_roundw
            case rel => exact ⟨k + 1, n + 2, oc', cc', by omega, by go_num, rfl, by have := unhide HN9; omega, unhide HO5, unhide HD5, unhide HZ5⟩
            case measure => simp [intOf]; omega
        · have ek : k = bs.length := by omega
          subst ek
          have hlt' : ¬ ((bs.length : Int) < (bs.length : Int)) := by omega
          have HO : Hid (wr.ownsRow (D + 2) 9 1 (.slice oc n cc) n (cellsS (flat (prI vs is) ++ flat (prO fs bs)))) := hide (by have q := unhide HO; rw [prO_all _ (Nat.le_refl _)] at q; exact q)
          have HNB := hide (show n ≤ 16 by have := unhide HL; omega)
          clear ho hb hz hn HN9
          go_wp2
          go_loopw [5, 9] (fun l i wr => ∃ (k n : Nat) (oc : Option Addr) (cc : Nat), k ≤ js.length ∧ i = .int .i64 k ∧ l = .slice oc n cc ∧ n ≤ 16 + 17 * k ∧ wr.ownsRow (D + 2) 9 1 (.slice oc n cc) n (cellsS (flat (prI vs is) ++ flat (prO fs bs) ++ ((wsJ rs js).take k).flatten)) ∧ Below (D + 2) u wr ∧ D + 2 ≤ wr.heap.size) (fun _ i _ => js.length - (intOf i).toNat)
          case atStart => exact ⟨0, n, oc, cc, Nat.zero_le _, rfl, rfl, unhide HNB, by simpa using unhide HO, unhide HB, unhide HZ9⟩
          case round =>
            clear HO HB HZ9 HNB
            obtain ⟨k, n, oc, cc, hk, rfl, rfl, hn, ho, hb, hz⟩ := hrel
            have HB := hide hb
            have HO := hide ho
            have HZ9 := hide hz
            have HN9 := hide hn
            have t0 := cell_on hb (show D < D + 2 by omega) (unhide HT0).2.2.1
            have t1 := cell_on hb (show D + 1 < D + 2 by omega) (unhide HT1).2.2.1
            by_cases hlt : k < js.length
            · have hkv : k < rs.length := by have := unhide HL; omega
              rcases (unhide HJ).2 with h9 | ⟨xb, xo, e9, hc⟩
              · omega
              subst e9
              obtain ⟨rb, rc, y0, hri⟩ := hc k hlt
              clear hc
              rcases (unhide HR).2 with h9 | ⟨nb, no, e9, hc⟩
              · omega
              subst e9
              have y2 := (hc k hkv).1
              clear hc
              have lw1 : xb < w.heap.size := World.block_lt_of_cell? _ _ y0
              have lw2 : nb < w.heap.size := World.block_lt_of_cell? _ _ y2
              have y2 := cell_on hb (show nb < D + 2 by have := unhide HDE; omega) (cell_on (unhide HK) lw2 y2)
              have HRI := hide ((unhide HIJ) k hlt)
              have HRL := hide (show js[k].length ≤ 16 from (unhide HL).2.2.2.2.2.2 k hlt)
              have HT2 := hide (wsJ_take k hkv hlt)
              generalize js[k] = R at y0 hri HRI HRL HT2
              generalize rs[k].1 = N at y2 HT2
              have HY0 := hide (cell_on (unhide HK) lw1 y0)
              have HRR := hide hri
              have HE3 := hide lw1
              have hl5 : (js.length : Int) ≤ 2 := by have := unhide HL; omega
              have hlt' : (k : Int) < (js.length : Int) := by omega
              have hkv' : (k : Int) < (rs.length : Int) := by omega
              have hsm := hide (show n ≤ 60 by have := unhide HL; omega)
              clear lw1 lw2 ho hb hz hn y0 hri
              go_upto_region 18 with fail
              go_wp2_with (refine wpList_app _ (by rfl) _ _ _ (by rfl) (D + 2) 9 inf (.string ⟨#[]⟩) 1 16 Tryd.underlying24 hi hz0 hz1 hz2 rfl (by decide) _ _ _ (by rfl) ((unhide HO).alloc _) ⟨_, 0, none⟩ 1 1 [.string N] (by rfl) rfl (World.news_of_block (heap_alloc_new _ _)) (by intro u hu; simp at hu; subst hu; rfl) (by unfold maxLen; have := unhide hsm; omega) (by have := unhide hsm; omega) (by have := unhide HZ9; simp; omega) ?_; intro oc' cc' w5 hown hgrow)
              have HB5 := hide ((unhide HB).trans (((Below.refl _ _).alloc (unhide HZ9) _).grown hgrow (by have := unhide HZ9; simp; omega) (fun j hj => ((unhide HO).lt j hj).1)))
              have HZ5 := hide (show D + 2 ≤ w5.heap.size by have := hgrow.size; have := unhide HZ9; simp at *; omega)
              have HO5 : Hid (w5.ownsRow (D + 2) 9 1 (.slice oc' (n + 1) cc') (n + 1) (cellsS (flat (prI vs is) ++ flat (prO fs bs) ++ ((wsJ rs js).take k).flatten ++ [N]))) := hide (by
                rw [show ∀ a b, cellsS (a ++ b) = cellsS a ++ cellsS b from fun a b => by simp [cellsS]]
                exact hown)
              clear hown hgrow HO HB HZ9 t0 t1 y2
              have t1 := cell_on (unhide HB5) (show D + 1 < D + 2 by omega) (unhide HT1).2.2.1
              have y0 := cell_on (unhide HB5) (show xb < D + 2 by have := unhide HDE; have := unhide HE3; omega) (unhide HY0)
              go_wp2
              go_loopw [5, 10] (fun l i wr => ∃ (j m : Nat) (oc : Option Addr) (cc : Nat), j ≤ R.length ∧ i = .int .i64 j ∧ l = .slice oc m cc ∧ m ≤ 17 + 17 * k + j ∧ wr.ownsRow (D + 2) 9 1 (.slice oc m cc) m (cellsS (flat (prI vs is) ++ flat (prO fs bs) ++ ((wsJ rs js).take k).flatten ++ [N] ++ (R.take j).map itB)) ∧ Below (D + 2) u wr ∧ D + 2 ≤ wr.heap.size) (fun _ i _ => R.length - (intOf i).toNat)
              case atStart => exact ⟨0, n + 1, oc', cc', Nat.zero_le _, rfl, rfl, by have := unhide HN9; omega, by simpa using unhide HO5, unhide HB5, unhide HZ5⟩
              case round =>
                clear HO5 HB5 HZ5 t1 y0
                obtain ⟨j, m, oc, cc, hj, rfl, rfl, hm, ho, hb, hz⟩ := hrel
                have HB := hide hb
                have HO := hide ho
                have HZ9 := hide hz
                have HM9 := hide hm
                have t1 := cell_on hb (show D + 1 < D + 2 by omega) (unhide HT1).2.2.1
                have y0 := cell_on hb (show xb < D + 2 by have := unhide HDE; have := unhide HE3; omega) (unhide HY0)
                by_cases hjl : j < R.length
                · have HI1 := hide ((unhide HRI) j hjl)
                  rcases (unhide HRR).2 with h9 | ⟨db, dd, rfl, hc⟩
                  · omega
                  have y4 := hc j hjl
                  clear hc
                  have lw3 : db < w.heap.size := World.block_lt_of_cell? _ _ y4
                  have lq3 : db < D + 2 := by have := unhide HDE; omega
                  have lq1 : xb < D + 2 := by have := unhide HDE; have := unhide HE3; omega
                  have y4 := cell_on hb lq3 (cell_on (unhide HK) lw3 y4)
                  have HT3 := hide (show (R.take (j + 1)).map itB = (R.take j).map itB ++ [itB R[j]] by rw [List.take_succ_eq_append_getElem hjl, List.map_append]; rfl)
                  have k1 : ∀ w, Calls Tryd.prog 72 #[.int .i64 R[j]] w fun e w' => e = .returned (.string (itB R[j])) ∧ Below w.heap.size w w' := fun w => l1DecG_c _ (unhide HI1).1 (unhide HI1).2 w
                  generalize itB R[j] = Y at HT3 k1
                  generalize R[j] = p at y4 k1 HI1
                  have KI := hide k1
                  have hl6 : (R.length : Int) ≤ 16 := by have := unhide HRL; omega
                  have hjl' : (j : Int) < (R.length : Int) := by omega
                  have hsm := hide (show m ≤ 70 by have := unhide HL; have := unhide HRL; omega)
                  clear k1 lw3 lq1 lq3 ho hb hz hm
                  go_wp2_with fail
                  refine ((unhide KI) _).mono ?_
                  rintro e v1 ⟨rfl, hb1⟩
                  have HO1 := hide (own_on (unhide HO) hb1)
                  have HZ1 := hide (show D + 2 ≤ v1.heap.size by have := hb1.size; have := unhide HZ9; omega)
                  have HB1 := hide ((unhide HB).trans (hb1.mono (unhide HZ9)))
                  clear hb1 t1 y0 y4
                  go_wp2_with (refine wpList_app _ (by rfl) _ _ _ (by rfl) (D + 2) 9 inf (.string ⟨#[]⟩) 1 16 Tryd.underlying24 hi hz0 hz1 hz2 rfl (by decide) _ _ _ (by rfl) ((unhide HO1).alloc _) ⟨_, 0, none⟩ 1 1 [.string Y] (by rfl) rfl (World.news_of_block (heap_alloc_new _ _)) (by intro u hu; simp at hu; subst hu; rfl) (by unfold maxLen; have := unhide hsm; omega) (by have := unhide hsm; omega) (by have := unhide HZ1; simp; omega) ?_; intro oc' cc' w5 hown hgrow)
                  have HD5 := hide ((unhide HB1).trans (((Below.refl _ _).alloc (unhide HZ1) _).grown hgrow (by have := unhide HZ1; simp; omega) (fun j hj => ((unhide HO1).lt j hj).1)))
                  have HZ5 := hide (show D + 2 ≤ w5.heap.size by have := hgrow.size; have := unhide HZ1; simp at *; omega)
                  have HO5 : Hid (w5.ownsRow (D + 2) 9 1 (.slice oc' (m + 1) cc') (m + 1) (cellsS (flat (prI vs is) ++ flat (prO fs bs) ++ ((wsJ rs js).take k).flatten ++ [N] ++ (R.take (j + 1)).map itB))) := hide (by
                    rw [unhide HT3, ← List.append_assoc, show ∀ a b, cellsS (a ++ b) = cellsS a ++ cellsS b from fun a b => by simp [cellsS]]
                    exact hown)
                  clear hown hgrow KI HO HB HZ9 HO1 HZ1 HB1
                  go_wp2
                  go_roundw
                  case rel => exact ⟨j + 1, m + 1, oc', cc', by omega, by go_num, rfl, by have := unhide HM9; omega, unhide HO5, unhide HD5, unhide HZ5⟩
                  case measure => simp [intOf]; omega
                · have ej : j = R.length := by omega
                  subst ej
                  have hjl' : ¬ ((R.length : Int) < (R.length : Int)) := by omega
                  have HO6 : Hid (wr.ownsRow (D + 2) 9 1 (.slice oc m cc) m (cellsS (flat (prI vs is) ++ flat (prO fs bs) ++ ((wsJ rs js).take (k + 1)).flatten))) := hide (by
                    rw [unhide HT2]
                    have q := unhide HO
                    rw [List.take_length] at q
                    simpa using q)
                  have HM16 := hide (show m ≤ 16 + 17 * (k + 1) by have := unhide HRL; omega)
                  clear ho hb hz hm HO
                  go_wp2
                  go_roundw
                  case rel => exact ⟨k + 1, m, oc, cc, by omega, by go_num, rfl, unhide HM16, unhide HO6, unhide HB, unhide HZ9⟩
                  case measure => simp [intOf]; omega
            · have ek : k = js.length := by omega
              subst ek
              have hlt' : ¬ ((js.length : Int) < (js.length : Int)) := by omega
              have HO : Hid (wr.ownsRow (D + 2) 9 1 (.slice oc n cc) n (cellsS (stW vs fs rs is bs js))) := hide (by have q := unhide HO; rw [wsJ_all _ (Nat.le_refl _)] at q; exact q)
              obtain ⟨hn2, hst⟩ := Strs.ofOwn (unhide HO) (by have := unhide HL; omega)
              have HJN := hide (l13Joined_c oc cc _ wr hst (unhide HPS) (by rw [← hn2]; have := unhide HL; omega))
              rw [← hn2, ← unhide HN] at HJN
              clear hst hn2 ho hb hz hn
              go_wp2_with fail
              refine (unhide HJN).mono ?_
              rintro e w9 ⟨rfl, rfl⟩
              go_wp2
              go_ret
              exact ⟨rfl, (unhide HK).trans ((unhide HB).mono (by have := unhide HDE; omega))⟩
end Go.Proofs.YtpdnnpnclgcpoaaDoor
