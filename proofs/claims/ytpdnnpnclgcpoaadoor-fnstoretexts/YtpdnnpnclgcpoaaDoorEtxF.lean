/- The text of bounds: the program's. -/
import Derived.Test.YtpdnnpnclgcpoaaDoorEtxE
import Derived.Laws.ByValue
namespace Go.Proofs.YtpdnnpnclgcpoaaDoor
open Go.RowKit
set_option linter.unusedSimpArgs false
set_option linter.unusedVariables false

theorem own_some {w : World} {B : Nat} {e : TypeId} {oc : Option Addr} {k cc : Nat} {xs : List Value} (h : w.ownsRow B e 1 (.slice oc k cc) k xs) (h0 : 0 < k) : ∃ g, oc = some ⟨g, 0, none⟩ ∧ g < w.heap.size ∧ k ≤ cc := by
  have l := h
  rcases h.2 with ⟨_, h1⟩ | ⟨g, cap, cur, hq, hB, hg, r⟩
  · omega
  · cases hq
    exact ⟨g, rfl, (l.lt g rfl).2, by first | exact r.1 | exact r.2.1 | omega⟩
@[reducible] def S4 (D o1 aD o2 ab : Nat) (v1 v2 v3 v4 : Value) (u : World) : Prop := u.cell? ⟨D, o1, none⟩ = some v1 ∧ u.cell? ⟨aD, o2, none⟩ = some v2 ∧ u.cell? ⟨ab, 0, none⟩ = some v3 ∧ u.cell? ⟨ab, 1, none⟩ = some v4
theorem S4.drew {D o1 aD o2 ab : Nat} {v1 v2 v3 v4 : Value} {u : World} (h : S4 D o1 aD o2 ab v1 v2 v3 v4 u) : S4 D o1 aD o2 ab v1 v2 v3 v4 u.drew := h
set_option maxRecDepth 20000 in
set_option maxHeartbeats 16000000 in
theorem iEnvText_c (a1 a2 a3 : Option Addr) (c1 c2 c3 : Nat) (vs fs : List ByteArray) (rs : List (ByteArray × Int)) (li : Bool) (e1 e2 : Option Addr) (d1 d2 : Nat) (xs ys : List (Int × Int)) (w : World) (hw : KW w) (hp : P10 w) (hv : Strs w a1 vs) (hf : Strs w a2 fs) (hr : Arrs w a3 rs)
    (hz : ∀ x ∈ namesOf vs fs rs, x.size ≤ 1048576) (hx : Ivs w e1 xs) (hy : Ivs w e2 ys) (ix : InP xs) (iy : InP ys) :
    Calls Tryd.prog 25 #[.agg #[.slice a1 vs.length c1, .slice a2 fs.length c2, .slice a3 rs.length c3], .agg #[.bool li, .slice e1 xs.length d1, .slice e2 ys.length d2]] w
    fun e w' => e = .returned (.string (if envB vs fs rs li xs ys = true then envT li vs rs xs ys else ⟨#[]⟩)) ∧ Below w.heap.size w w' := by
  have HW := hide hw
  have HP := hide hp
  have HV := hide hv
  have HF := hide hf
  have HR := hide hr
  have HX := hide hx
  have HY := hide hy
  have HZ := hide hz
  have HIX := hide ix
  have HIY := hide iy
  have T0 := (C3.new w (.slice a1 vs.length c1) (.slice a2 fs.length c2) (.slice a3 rs.length c3) 27).alloc (Obj.cells #[.bool li, .slice e1 xs.length d1, .slice e2 ys.length d2] 43)
  have T1 := C3.new (w.alloc (Obj.cells #[.slice a1 vs.length c1, .slice a2 fs.length c2, .slice a3 rs.length c3] 27)) (.bool li) (.slice e1 xs.length d1) (.slice e2 ys.length d2) 43
  have K0 : Below w.heap.size w ((w.alloc (Obj.cells #[.slice a1 vs.length c1, .slice a2 fs.length c2, .slice a3 rs.length c3] 27)).alloc (Obj.cells #[.bool li, .slice e1 xs.length d1, .slice e2 ys.length d2] 43)) := ((Below.refl _ _).alloc (Nat.le_refl _) _).alloc (by simp) _
  rw [show (w.alloc (Obj.cells #[.slice a1 vs.length c1, .slice a2 fs.length c2, .slice a3 rs.length c3] 27)).heap.size = w.heap.size + 1 by simp] at T1
  have HT0 := hide T0
  have HT1 := hide T1
  have HK := hide K0
  clear T0 T1 K0 hv hf hr hx hy ix iy hz hw hp
  obtain ⟨D, hD⟩ : ∃ D, D = w.heap.size := ⟨_, rfl⟩
  obtain ⟨V, hV⟩ : ∃ V, V = (if envB vs fs rs li xs ys = true then envT li vs rs xs ys else ⟨#[]⟩) := ⟨_, rfl⟩
  rw [← hV]
  have HVV := hide hV
  clear hV
  go_enter Tryd.func25, Tryd.ntmps25
  go_upto_region 1 with fail
  generalize (w.alloc (Obj.cells #[.slice a1 vs.length c1, .slice a2 fs.length c2, .slice a3 rs.length c3] 27)).alloc (Obj.cells #[.bool li, .slice e1 xs.length d1, .slice e2 ys.length d2] 43) = u at HT0 HT1 HK ⊢
  have HDE := hide hD
  rw [← hD] at HT0 HT1 ⊢
  clear hD
  have b0 := (unhide HT0).1
  have b1 := (unhide HT0).2.1
  have b2 := (unhide HT0).2.2.1
  have t0 := (unhide HT1).1
  have t1 := (unhide HT1).2.1
  have t2 := (unhide HT1).2.2.1
  go_wp2_with fail
  refine (iEnvOk_c a1 a2 a3 c1 c2 c3 vs fs rs li e1 e2 d1 d2 xs ys _ ((unhide HW).call (unhide HK)) ((unhide HV).call (unhide HK)) ((unhide HF).call (unhide HK)) ((unhide HR).call (unhide HK)) (unhide HZ) ((unhide HX).call (unhide HK)) ((unhide HY).call (unhide HK))).mono ?_
  rintro e u1 ⟨rfl, kb⟩
  have HT0 := hide ((unhide HT0).call kb)
  have HT1 := hide ((unhide HT1).call kb)
  have HK := hide ((unhide HK).trans (kb.mono (unhide HK).size))
  clear kb b0 b1 b2 t0 t1 t2
  cases hok : envB vs fs rs li xs ys
  · have HN := hide (show V = ⟨#[]⟩ by rw [unhide HVV, hok]; rfl)
    clear hok HVV
    go_wp2
    go_ret
    exact ⟨by rw [unhide HN]; rfl, unhide HK⟩
  have HN := hide (show V = envT li vs rs xs ys by rw [unhide HVV, hok]; rfl)
  have HL0 := hide (env_lensE hok)
  have HZV := hide (show ∀ x ∈ vs, x.size ≤ 1048576 from fun x hx => unhide HZ x (by unfold namesOf; simp [hx]))
  have HZR := hide (show ∀ i, (h : i < rs.length) → rs[i].1.size ≤ 1048576 from fun i h => unhide HZ _ (by unfold namesOf; simp only [List.mem_append, List.mem_map]; exact .inr ⟨rs[i], List.getElem_mem _, rfl⟩))
  have HPS := hide (pr_sizes (unhide HZV) (unhide HZR) (unhide HIX) (unhide HIY))
  clear hok HVV
  have t0 := (unhide HT1).1
  cases li
  · have HN : Hid (V = ⟨#[110, 111, 110, 101]⟩) := unhide HN
    go_wp2
    go_ret
    exact ⟨by rw [unhide HN]; rfl, unhide HK⟩
  have HL := hide ((unhide HL0) rfl)
  have HVV : Hid (V = if (prV vs xs ++ prA rs ys).length = 0 then ⟨#[97, 108, 108]⟩ else jnS ((prV vs xs ++ prA rs ys).map prB)) := unhide HN
  clear HL0 HN
  have lD : D + 1 < u1.heap.size := (unhide HT1).lt
  have HDL := hide lD
  have HW0 := hide (show u1.heap.size ≤ u1.heap.size from Nat.le_refl _)
  have hwc : (u1.alloc (Obj.cells #[.slice none 0 0] 24)).cell? ⟨u1.heap.size, 0, none⟩ = some (.slice none 0 0) := by simp [go_sem]
  have hwf : (u1.alloc (Obj.cells #[.slice none 0 0] 24)).frozen? ⟨u1.heap.size, 0, none⟩ = false := by first | (simp [go_sem]; done) | rfl
  have HWC := hide (And.intro hwc hwf)
  have HKA := hide ((Below.refl u1.heap.size u1).alloc (Nat.le_refl _) (Obj.cells #[.slice none 0 0] 24))
  have HPT := hide (PT.of ((unhide HP).call (unhide HK)) (Nat.le_refl u1.heap.size))
  clear lD hwc hwf t0
  have hmf : ∀ (fn : Fn) (first cap : Array Value) (w : World), (Instr.makeFunc fn first cap).run Tryd.prog w = .ok (.func fn first cap) w := fun _ _ _ _ => rfl
  have t0 := (unhide HT1).1
  have t1 := (unhide HT1).2.1
  go_upto_region 7 with fail
  generalize u1.alloc (Obj.cells #[.slice none 0 0] 24) = u2 at HWC HKA ⊢
  obtain ⟨wb, hwb⟩ : ∃ x, x = u1.heap.size := ⟨_, rfl⟩
  rw [← hwb] at HWC HKA HPT HDL ⊢
  have HWE := hide hwb
  clear hwb HW0 t0 t1
  have t1 := ((unhide HKA).cell (show D + 1 < wb from unhide HDL)).trans (unhide HT1).2.1
  go_wp2
  go_loopw [22] (fun i wr => ∃ (k n : Nat) (oc : Option Addr) (cc : Nat), n = 2 * k ∧ k ≤ xs.length ∧ i = .int .i64 k ∧ wr.cell? ⟨wb, 0, none⟩ = some (.slice oc n cc) ∧ wr.frozen? ⟨wb, 0, none⟩ = false ∧ wr.ownsRow (wb + 1) 9 1 (.slice oc n cc) n (cellsS (flat ((prV vs xs).take k))) ∧ Below wb u1 wr) (fun i _ => xs.length - (intOf i).toNat)
  case atStart => exact ⟨0, 0, _, _, rfl, Nat.zero_le _, rfl, (unhide HWC).1, (unhide HWC).2, World.ownsRow_nil _ _ _ _, unhide HKA⟩
  case round =>
    clear HWC HKA t1
    obtain ⟨k, n, oc, cc, hn, hk, rfl, hc, hf, ho, hb⟩ := hrel
    have HNN := hide hn
    have HC := hide hc
    have HFZ := hide hf
    have HO := hide ho
    have HB := hide hb
    clear hn hc hf
    by_cases hlt : k < xs.length
    · have hkv : k < vs.length := by have := unhide HL; omega
      have HI1 := hide ((unhide HIX) k hlt)
      rcases (unhide HX).2 with h9 | ⟨xb, xo, e9, hc⟩
      · omega
      subst e9
      have y0 := (hc k hlt).1
      have y1 := (hc k hlt).2
      clear hc
      rcases (unhide HV).2 with h9 | ⟨nb, no, e9, hc⟩
      · have := unhide HL; omega
      subst e9
      have y2 := hc k (by have := unhide HL; omega)
      clear hc
      have lw1 : xb < w.heap.size := World.block_lt_of_cell? _ _ y0
      have lw2 : nb < w.heap.size := World.block_lt_of_cell? _ _ y2
      have lq1 : xb < wb := by have := unhide HDE; have := unhide HDL; omega
      have lq2 : nb < wb := by have := unhide HDE; have := unhide HDL; omega
      have y0 := cell_on hb lq1 (cell_on (unhide HK) lw1 y0)
      have y1 := cell_on hb lq1 (cell_on (unhide HK) lw1 y1)
      have y2 := cell_on hb lq2 (cell_on (unhide HK) lw2 y2)
      have HT2 := hide (prV_take (unhide HL).1 k hkv hlt)
      have k1 : ∀ (n : Nat) (oc : Option Addr) (cc : Nat) (zs : List Value) (w : World), PT wb w → w.cell? ⟨wb, 0, none⟩ = some (.slice oc n cc) → w.frozen? ⟨wb, 0, none⟩ = false → w.ownsRow (wb + 1) 9 1 (.slice oc n cc) n zs → n ≤ 40 → Calls Tryd.prog 66 #[.string vs[k], .agg #[.int .i64 xs[k].1, .int .i64 xs[k].2], .pointer (some ⟨wb, 0, none⟩)] w fun e w' => ∃ oc' cc', e = .returned (.tuple #[]) ∧ w'.cell? ⟨wb, 0, none⟩ = some (.slice oc' (n + 2) cc') ∧ w'.frozen? ⟨wb, 0, none⟩ = false ∧ w'.ownsRow (wb + 1) 9 1 (.slice oc' (n + 2) cc') (n + 2) (zs ++ [.string vs[k], .string (ivT xs[k])]) ∧ Below wb w w' ∧ ∀ c o v, (Value.slice oc n cc).ownBlock ≠ some c → c ≠ wb → w.cell? ⟨c, o, none⟩ = some v → w'.cell? ⟨c, o, none⟩ = some v := fun n oc cc zs w h1 h2 h3 h4 h5 => tell_c _ _ _ (unhide HI1) wb oc n cc zs w h1 h2 h3 h4 h5
      generalize ivT xs[k] = Y at HT2 k1
      generalize xs[k].1 = p at y0 k1 HI1
      generalize xs[k].2 = q at y1 k1 HI1
      generalize vs[k] = N at y2 HT2 k1
      have KI := hide k1
      have HI1 := hide HI1
      have hl5 : (xs.length : Int) ≤ 5 := by have := unhide HL; omega
      have hlt' : (k : Int) < (xs.length : Int) := by omega
      have hkv' : (k : Int) < (vs.length : Int) := by omega
      have HKQ := hide (show n + 2 ≤ 40 by have := unhide HL; have := unhide HNN; omega)
      clear k1 lw1 lw2 ho hb
      go_upto_region 10 with fail
      clear y0 y1
      have kq := (Below.refl wr.heap.size wr).alloc (Nat.le_refl _) (Obj.cells #[.int .i64 p, .int .i64 q] 81)
      have z0 : (wr.alloc (Obj.cells #[.int .i64 p, .int .i64 q] 81)).cell? ⟨wr.heap.size, 0, none⟩ = some (.int .i64 p) := by simp [go_sem]
      have z1 : (wr.alloc (Obj.cells #[.int .i64 p, .int .i64 q] 81)).cell? ⟨wr.heap.size, 1, none⟩ = some (.int .i64 q) := by simp [go_sem]
      obtain ⟨ab, hab⟩ : ∃ x, x = wr.heap.size := ⟨_, rfl⟩
      generalize wr.alloc (Obj.cells #[.int .i64 p, .int .i64 q] 81) = wq at kq z0 z1 ⊢
      rw [← hab] at z0 z1 ⊢
      have lwb : wb < wr.heap.size := World.block_lt_of_cell? _ _ (unhide HC)
      have kw : Below wr.heap.size wr wq.drew := kq.drew
      have s1 : wq.cell? ⟨D, 0, none⟩ = some (.slice (some ⟨nb, no, none⟩) vs.length c1) := cell_on kq (show D < wr.heap.size by have := unhide HDL; omega) (cell_on (unhide HB) (show D < wb by have := unhide HDL; omega) (unhide HT0).1)
      have s2 : wq.cell? ⟨nb, no + k, none⟩ = some (.string N) := cell_on kq (show nb < wr.heap.size by omega) y2
      have hh : S4 D 0 nb (no + k) ab (.slice (some ⟨nb, no, none⟩) vs.length c1) (.string N) (.int .i64 p) (.int .i64 q) wq := ⟨s1, s2, z0, z1⟩
      have HO2 := hide (own_on (unhide HO) kw)
      have HC2 := hide ((kw.cell (p := ⟨wb, 0, none⟩) lwb).trans (unhide HC))
      have HF2 := hide ((kw.frozen (p := ⟨wb, 0, none⟩) lwb).trans (unhide HFZ))
      have HB2 := hide ((unhide HB).trans (kw.mono (Nat.le_of_lt lwb)))
      have HS5 : Hid (∀ w5, (∀ c o v, (Value.slice oc n cc).ownBlock ≠ some c → c ≠ wb → wq.drew.cell? ⟨c, o, none⟩ = some v → w5.cell? ⟨c, o, none⟩ = some v) → S4 D 0 nb (no + k) ab (.slice (some ⟨nb, no, none⟩) vs.length c1) (.string N) (.int .i64 p) (.int .i64 q) w5) := hide (fun w5 h5 => by
        have hd := S4.drew hh
        have ol := (unhide HO).lt
        exact ⟨h5 _ _ _ (fun e => by have := ol _ e; have := unhide HDL; omega) (by have := unhide HDL; omega) hd.1, h5 _ _ _ (fun e => by have := ol _ e; omega) (by omega) hd.2.1, h5 _ _ _ (fun e => by have := ol _ e; omega) (by omega) hd.2.2.1, h5 _ _ _ (fun e => by have := ol _ e; omega) (by omega) hd.2.2.2⟩)
      clear y2 lq1 lq2 kq z0 z1 hab kw s1 s2 lwb HC HFZ HO HB
      go_region_held3 (S4 D 0 nb (no + k) ab (.slice (some ⟨nb, no, none⟩) vs.length c1) (.string N) (.int .i64 p) (.int .i64 q))
        (first | exact hs4 | exact S4.drew (by assumption) | assumption)
        (first | (go_at_call 66; refine ((unhide KI) n oc cc _ _ ((unhide HPT).on (unhide HB2)) (unhide HC2) (unhide HF2) (unhide HO2) (by have := unhide HKQ; omega)).mono ?_; rintro e w5 ⟨oc', cc', rfl, hc5, hf5, ho5, hb5, hk5⟩; have hs4 := (unhide HS5) w5 hk5))
      rename_i hHeld
      have HC5 := hide hc5
      have HF5 := hide hf5
      have HB5 := hide ((unhide HB2).trans hb5)
      have HO5 : Hid (w5.ownsRow (wb + 1) 9 1 (.slice oc' (n + 2) cc') (n + 2) (cellsS (flat ((prV vs xs).take (k + 1))))) := hide (by
        rw [unhide HT2, flat_app, show ∀ a b, cellsS (a ++ b) = cellsS a ++ cellsS b from fun a b => by simp [cellsS]]
        exact ho5)
      clear hHeld hh hs4 hc5 hf5 ho5 hb5 hk5 HO2 HC2 HF2 HB2 HS5 KI
      go_wp2
      go_roundw
      case rel => exact ⟨k + 1, n + 2, oc', cc', by have := unhide HNN; omega, by omega, by go_num, unhide HC5, unhide HF5, unhide HO5, unhide HB5⟩
      case measure => simp [intOf]; omega
    · have ek : k = xs.length := by omega
      subst ek
      have hlt' : ¬ ((xs.length : Int) < (xs.length : Int)) := by omega
      have HO : Hid (wr.ownsRow (wb + 1) 9 1 (.slice oc n cc) n (cellsS (flat (prV vs xs)))) := hide (by have q := unhide HO; rw [List.take_of_length_le (by rw [prV_len (unhide HL).1]; omega)] at q; exact q)
      have t2 := ((unhide HB).cell (show D + 1 < wb from unhide HDL)).trans (unhide HT1).2.2.1
      clear ho hb
      go_wp2
      go_loopw [39] (fun i wr => ∃ (k n : Nat) (oc : Option Addr) (cc : Nat), n = 2 * (xs.length + k) ∧ k ≤ ys.length ∧ i = .int .i64 k ∧ wr.cell? ⟨wb, 0, none⟩ = some (.slice oc n cc) ∧ wr.frozen? ⟨wb, 0, none⟩ = false ∧ wr.ownsRow (wb + 1) 9 1 (.slice oc n cc) n (cellsS (flat (prV vs xs ++ (prA rs ys).take k))) ∧ Below wb u1 wr) (fun i _ => ys.length - (intOf i).toNat)
      case atStart => exact ⟨0, n, oc, cc, by have := unhide HNN; omega, Nat.zero_le _, rfl, unhide HC, unhide HFZ, by simpa using unhide HO, unhide HB⟩
      case round =>
        clear HC HFZ HO HB t2
        obtain ⟨k, n, oc, cc, hn, hk, rfl, hc, hf, ho, hb⟩ := hrel
        have HNN := hide hn
        have HC := hide hc
        have HFZ := hide hf
        have HO := hide ho
        have HB := hide hb
        clear hn hc hf
        by_cases hlt : k < ys.length
        · have hkv : k < rs.length := by have := unhide HL; omega
          have HI1 := hide ((unhide HIY) k hlt)
          rcases (unhide HY).2 with h9 | ⟨xb, xo, e9, hc⟩
          · omega
          subst e9
          have y0 := (hc k hlt).1
          have y1 := (hc k hlt).2
          clear hc
          rcases (unhide HR).2 with h9 | ⟨nb, no, e9, hc⟩
          · have := unhide HL; omega
          subst e9
          have y2 := (hc k (by have := unhide HL; omega)).1
          clear hc
          have lw1 : xb < w.heap.size := World.block_lt_of_cell? _ _ y0
          have lw2 : nb < w.heap.size := World.block_lt_of_cell? _ _ y2
          have lq1 : xb < wb := by have := unhide HDE; have := unhide HDL; omega
          have lq2 : nb < wb := by have := unhide HDE; have := unhide HDL; omega
          have y0 := cell_on hb lq1 (cell_on (unhide HK) lw1 y0)
          have y1 := cell_on hb lq1 (cell_on (unhide HK) lw1 y1)
          have y2 := cell_on hb lq2 (cell_on (unhide HK) lw2 y2)
          have HT2 := hide (prA_take (unhide HL).2.1 k hkv hlt)
          have k1 : ∀ (n : Nat) (oc : Option Addr) (cc : Nat) (zs : List Value) (w : World), PT wb w → w.cell? ⟨wb, 0, none⟩ = some (.slice oc n cc) → w.frozen? ⟨wb, 0, none⟩ = false → w.ownsRow (wb + 1) 9 1 (.slice oc n cc) n zs → n ≤ 40 → Calls Tryd.prog 66 #[.string rs[k].1, .agg #[.int .i64 ys[k].1, .int .i64 ys[k].2], .pointer (some ⟨wb, 0, none⟩)] w fun e w' => ∃ oc' cc', e = .returned (.tuple #[]) ∧ w'.cell? ⟨wb, 0, none⟩ = some (.slice oc' (n + 2) cc') ∧ w'.frozen? ⟨wb, 0, none⟩ = false ∧ w'.ownsRow (wb + 1) 9 1 (.slice oc' (n + 2) cc') (n + 2) (zs ++ [.string rs[k].1, .string (ivT ys[k])]) ∧ Below wb w w' ∧ ∀ c o v, (Value.slice oc n cc).ownBlock ≠ some c → c ≠ wb → w.cell? ⟨c, o, none⟩ = some v → w'.cell? ⟨c, o, none⟩ = some v := fun n oc cc zs w h1 h2 h3 h4 h5 => tell_c _ _ _ (unhide HI1) wb oc n cc zs w h1 h2 h3 h4 h5
          generalize ivT ys[k] = Y at HT2 k1
          generalize ys[k].1 = p at y0 k1 HI1
          generalize ys[k].2 = q at y1 k1 HI1
          generalize rs[k].1 = N at y2 HT2 k1
          have KI := hide k1
          have HI1 := hide HI1
          have hl5 : (ys.length : Int) ≤ 5 := by have := unhide HL; omega
          have hlt' : (k : Int) < (ys.length : Int) := by omega
          have hkv' : (k : Int) < (rs.length : Int) := by omega
          have HKQ := hide (show n + 2 ≤ 40 by have := unhide HL; have := unhide HNN; omega)
          clear k1 lw1 lw2 ho hb
          go_upto_region 15 with fail
          clear y0 y1
          have kq := (Below.refl wr.heap.size wr).alloc (Nat.le_refl _) (Obj.cells #[.int .i64 p, .int .i64 q] 81)
          have z0 : (wr.alloc (Obj.cells #[.int .i64 p, .int .i64 q] 81)).cell? ⟨wr.heap.size, 0, none⟩ = some (.int .i64 p) := by simp [go_sem]
          have z1 : (wr.alloc (Obj.cells #[.int .i64 p, .int .i64 q] 81)).cell? ⟨wr.heap.size, 1, none⟩ = some (.int .i64 q) := by simp [go_sem]
          obtain ⟨ab, hab⟩ : ∃ x, x = wr.heap.size := ⟨_, rfl⟩
          generalize wr.alloc (Obj.cells #[.int .i64 p, .int .i64 q] 81) = wq at kq z0 z1 ⊢
          rw [← hab] at z0 z1 ⊢
          have lwb : wb < wr.heap.size := World.block_lt_of_cell? _ _ (unhide HC)
          have kw : Below wr.heap.size wr wq.drew := kq.drew
          have s1 : wq.cell? ⟨D, 2, none⟩ = some (.slice (some ⟨nb, no, none⟩) rs.length c3) := cell_on kq (show D < wr.heap.size by have := unhide HDL; omega) (cell_on (unhide HB) (show D < wb by have := unhide HDL; omega) (unhide HT0).2.2.1)
          have s2 : wq.cell? ⟨nb, no + (k * 2), none⟩ = some (.string N) := cell_on kq (show nb < wr.heap.size by omega) y2
          have hh : S4 D 2 nb (no + k * 2) ab (.slice (some ⟨nb, no, none⟩) rs.length c3) (.string N) (.int .i64 p) (.int .i64 q) wq := ⟨s1, s2, z0, z1⟩
          have HO2 := hide (own_on (unhide HO) kw)
          have HC2 := hide ((kw.cell (p := ⟨wb, 0, none⟩) lwb).trans (unhide HC))
          have HF2 := hide ((kw.frozen (p := ⟨wb, 0, none⟩) lwb).trans (unhide HFZ))
          have HB2 := hide ((unhide HB).trans (kw.mono (Nat.le_of_lt lwb)))
          have HS5 : Hid (∀ w5, (∀ c o v, (Value.slice oc n cc).ownBlock ≠ some c → c ≠ wb → wq.drew.cell? ⟨c, o, none⟩ = some v → w5.cell? ⟨c, o, none⟩ = some v) → S4 D 2 nb (no + k * 2) ab (.slice (some ⟨nb, no, none⟩) rs.length c3) (.string N) (.int .i64 p) (.int .i64 q) w5) := hide (fun w5 h5 => by
            have hd := S4.drew hh
            have ol := (unhide HO).lt
            exact ⟨h5 _ _ _ (fun e => by have := ol _ e; have := unhide HDL; omega) (by have := unhide HDL; omega) hd.1, h5 _ _ _ (fun e => by have := ol _ e; omega) (by omega) hd.2.1, h5 _ _ _ (fun e => by have := ol _ e; omega) (by omega) hd.2.2.1, h5 _ _ _ (fun e => by have := ol _ e; omega) (by omega) hd.2.2.2⟩)
          clear y2 lq1 lq2 kq z0 z1 hab kw s1 s2 lwb HC HFZ HO HB
          go_region_held3 (S4 D 2 nb (no + k * 2) ab (.slice (some ⟨nb, no, none⟩) rs.length c3) (.string N) (.int .i64 p) (.int .i64 q))
            (first | exact hs4 | exact S4.drew (by assumption) | assumption)
            (first | (go_at_call 66; refine ((unhide KI) n oc cc _ _ ((unhide HPT).on (unhide HB2)) (unhide HC2) (unhide HF2) (unhide HO2) (by have := unhide HKQ; omega)).mono ?_; rintro e w5 ⟨oc', cc', rfl, hc5, hf5, ho5, hb5, hk5⟩; have hs4 := (unhide HS5) w5 hk5))
          rename_i hHeld
          have HC5 := hide hc5
          have HF5 := hide hf5
          have HB5 := hide ((unhide HB2).trans hb5)
          have HO5 : Hid (w5.ownsRow (wb + 1) 9 1 (.slice oc' (n + 2) cc') (n + 2) (cellsS (flat (prV vs xs ++ (prA rs ys).take (k + 1))))) := hide (by
            rw [unhide HT2, ← List.append_assoc, flat_app, show ∀ a b, cellsS (a ++ b) = cellsS a ++ cellsS b from fun a b => by simp [cellsS]]
            exact ho5)
          clear hHeld hh hs4 hc5 hf5 ho5 hb5 hk5 HO2 HC2 HF2 HB2 HS5 KI
          go_wp2
          go_roundw
          case rel => exact ⟨k + 1, n + 2, oc', cc', by have := unhide HNN; omega, by omega, by go_num, unhide HC5, unhide HF5, unhide HO5, unhide HB5⟩
          case measure => simp [intOf]; omega
        · have ek : k = ys.length := by omega
          subst ek
          have hlt' : ¬ ((ys.length : Int) < (ys.length : Int)) := by omega
          have HO : Hid (wr.ownsRow (wb + 1) 9 1 (.slice oc n cc) n (cellsS (flat (prV vs xs ++ prA rs ys)))) := hide (by have q := unhide HO; rw [List.take_of_length_le (by rw [prA_len (unhide HL).2.1]; omega)] at q; exact q)
          have hc := unhide HC
          have HLN := hide (show (prV vs xs ++ prA rs ys).length = xs.length + ys.length by rw [List.length_append, prV_len (unhide HL).1, prA_len (unhide HL).2.1])
          have hn2 : n = (flat (prV vs xs ++ prA rs ys)).length := by rw [flat_len, unhide HLN, unhide HNN]
          have HNL := hide (show n = 2 * (xs.length + ys.length) from unhide HNN)
          clear HNN ho hb
          by_cases h0 : n = 0
          · have HN := hide (show V = ⟨#[97, 108, 108]⟩ by rw [unhide HVV, if_pos (by have := unhide HLN; have := unhide HNL; omega)])
            have h0' : (n : Int) = 0 := by omega
            clear h0 hn2
            go_wp2
            go_ret
            exact ⟨by rw [unhide HN]; rfl, (unhide HK).trans ((unhide HB).mono (by have := (unhide HK).size; have := unhide HWE; omega))⟩
          · have HN := hide (show V = jnS (flat (prV vs xs ++ prA rs ys)) by rw [unhide HVV, if_neg (by have := unhide HLN; have := unhide HNL; omega), jn_flat])
            have h0' : ¬ ((n : Int) = 0) := by omega
            have HN14 := hide (show n ≤ 14 by have := unhide HNL; have := unhide HL; omega)
            obtain ⟨bk, rfl, hbk, hcap⟩ := own_some (unhide HO) (by omega)
            have HCL := hide (show ∀ (j : Nat) x, (flat (prV vs xs ++ prA rs ys))[j]? = some x → wr.cell? ⟨bk, 0 + j, none⟩ = some (.string x) from fun j x hj => by
              have hlj := (List.getElem?_eq_some_iff.1 hj).1
              rw [Nat.zero_add, (unhide HO).cellAt j (by omega)]
              unfold cellsS
              rw [List.getElem?_map, hj]
              rfl)
            have HFS := hide (flat_sizes (unhide HPS))
            clear HO HPS
            generalize flat (prV vs xs ++ prA rs ys) = L at hn2 HN HCL HFS
            have HJL := hide (show (Lib.join (L.map (·.data.toList)) (⟨#[32]⟩ : ByteArray).data.toList).length ≤ 140737488355328 by
              rw [join_jn, Array.length_toList]
              have q1 := jnS_size L 1048700 (unhide HFS)
              have q2 : (jnS L).data.size = (jnS L).size := rfl
              have q3 : L.length * (1048700 + 1) ≤ 14 * (1048700 + 1) := Nat.mul_le_mul_right _ (by have := unhide HN14; omega)
              omega)
            have HBK := hide (And.intro hbk hcap)
            have HHN := hide hn2
            clear h0 hn2 hbk hcap
            go_wp2_with fail
            have hjn := Tryd.strings_Join bk 0 cc L (⟨#[32]⟩ : ByteArray) wr (unhide HCL) (unhide HBK).1 (by have := unhide HHN; have := unhide HN14; omega) (by have := (unhide HBK).2; have := unhide HHN; omega) (unhide HJL)
            rw [← unhide HHN, join_ba, ← unhide HN] at hjn
            refine hjn.mono ?_
            rintro e w9 ⟨rfl, kb⟩
            have HF9 := hide ((unhide HK).trans (((unhide HB).mono (by have := (unhide HK).size; have := unhide HWE; omega)).trans (kb.mono (by have := (unhide HK).size; have := (unhide HB).size; omega))))
            clear kb hjn
            go_wp2
            go_ret
            exact ⟨rfl, unhide HF9⟩
end Go.Proofs.YtpdnnpnclgcpoaaDoor
