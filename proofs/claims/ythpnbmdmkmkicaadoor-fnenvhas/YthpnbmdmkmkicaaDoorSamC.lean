/- Are two bounds the same? -/
import Derived.Test.YthpnbmdmkmkicaaDoorEnvH
import Derived.Deep.DeepCutAuto
namespace Go.Proofs.YthpnbmdmkmkicaaDoor
open Go.RowKit
set_option linter.unusedSimpArgs false
set_option linter.unusedVariables false

theorem below_drewN {B : Nat} {a w : World} (h : Below B a w) (n : Nat) : Below B a (w.drewN n) := ⟨h.os, h.tape, h.output, h.size, h.block⟩
set_option maxHeartbeats 1000000 in
theorem sameIvs_c (a b : Option Addr) (c d : Nat) (zs zt : List (Int × Int)) (w : World) (h : Ivs w a zs) (h2 : Ivs w b zt) : Calls Tryd.prog 21 #[.slice a zs.length c, .slice b zt.length d] w fun e w' => e = .returned (.bool (decide (zs = zt))) ∧ Below w.heap.size w w' := by
  have hl := h.1
  have hm := h2.1
  obtain ⟨r, hr⟩ : ∃ r, r = decide (zs = zt) := ⟨_, rfl⟩
  obtain ⟨L, hL⟩ : ∃ L, L = zs.length := ⟨_, rfl⟩
  obtain ⟨M, hM⟩ : ∃ M, M = zt.length := ⟨_, rfl⟩
  rw [← hr]
  rw [← hL] at hl ⊢
  rw [← hM] at hm ⊢
  have HR := hide hr
  have HL := hide hL
  have HM := hide hM
  have HH := hide h
  have HG := hide h2
  have hl' : (L : Int) ≤ 1048576 := by omega
  have hm' : (M : Int) ≤ 1048576 := by omega
  clear h h2 hL hM hr
  by_cases hc : L = M
  · subst hc
    go_enter Tryd.func21, Tryd.ntmps21
    go_wp2
    go_loopw [5] (fun i wr => ∃ k : Nat, k ≤ L ∧ i = .int .i64 k ∧ (∀ j, (hj : j < zs.length) → (hj2 : j < zt.length) → j < k → zs[j] = zt[j]) ∧ Below w.heap.size w wr) (fun i _ => L - (intOf i).toNat)
    case atStart => exact ⟨0, Nat.zero_le _, rfl, fun j _ _ h0 => by omega, Below.refl _ _⟩
    case round =>
      obtain ⟨k, hk, rfl, hd, hb⟩ := hrel
      have HD := hide hd
      have HB := hide hb
      clear hd
      by_cases hlt : k < L
      · have hk' : k < zs.length := by rw [← unhide HL]; exact hlt
        have hm2 : k < zt.length := by rw [← unhide HM]; exact hlt
        obtain ⟨s, hs⟩ : ∃ s, s = zs[k].1 := ⟨_, rfl⟩
        obtain ⟨z, hz⟩ : ∃ z, z = zs[k].2 := ⟨_, rfl⟩
        obtain ⟨t, ht⟩ : ∃ t, t = zt[k].1 := ⟨_, rfl⟩
        obtain ⟨y, hy⟩ : ∃ y, y = zt[k].2 := ⟨_, rfl⟩
        rcases ((unhide HH).call hb).2 with h0 | ⟨cb, co, rfl, hc⟩
        · omega
        rcases ((unhide HG).call hb).2 with h0 | ⟨eb, eo, rfl, he⟩
        · omega
        have c1 := (hc k hk').1
        have c2 := (hc k hk').2
        have k1 := (he k hm2).1
        have k2 := (he k hm2).2
        rw [← hs] at c1
        rw [← hz] at c2
        rw [← ht] at k1
        rw [← hy] at k2
        have P1 : Hid (zs[k] = (s, z)) := by unfold Hid; rw [hs, hz]
        have P2 : Hid (zt[k] = (t, y)) := by unfold Hid; rw [ht, hy]
        have HB1 : Hid (∀ n, Below w.heap.size w (wr.drewN n)) := fun n => below_drewN hb n
        have hk4 : H4 w ⟨cb, co + k * 2, none⟩ ⟨cb, co + k * 2 + 1, none⟩ ⟨eb, eo + k * 2, none⟩ ⟨eb, eo + k * 2 + 1, none⟩ (.int .i64 s) (.int .i64 z) (.int .i64 t) (.int .i64 y) wr := ⟨c1, c2, k1, k2, hb⟩
        clear hs hz ht hy hc he hb
        have bad : Hid (¬ (s, z) = (t, y) → r = false) := fun hne => by
          rw [unhide HR]
          exact decide_eq_false (fun e => hne (by rw [← P1.out, ← P2.out]; subst e; rfl))
        by_cases g1 : s = t
        · by_cases g2 : z = y
          · subst g1 g2
            go_wp2
            go_region_held3 (H4 w ⟨cb, co + k * 2, none⟩ ⟨cb, co + k * 2 + 1, none⟩ ⟨eb, eo + k * 2, none⟩ ⟨eb, eo + k * 2 + 1, none⟩ (.int .i64 s) (.int .i64 z) (.int .i64 s) (.int .i64 z))
              (first | assumption | exact H4.drew (by assumption))
              (fail)
            rename_i hH
            have HQ := hide hH.2.2.2.2
            clear hH hk4
            go_wp2
            go_roundw
            case rel => exact ⟨k + 1, by omega, by go_num, fun j hj hj2 h1 => by
              by_cases e : j = k
              · subst e; rw [P1.out, P2.out]
              · exact unhide HD j hj hj2 (by omega), unhide HQ⟩
            case measure => simp [intOf]; omega
          · have g3 : (z == y) = false := by simpa using g2
            have E := hide (bad.out (fun e => g2 (Prod.mk.inj e).2))
            subst g1
            go_wp2
            go_region_held3 (H4 w ⟨cb, co + k * 2, none⟩ ⟨cb, co + k * 2 + 1, none⟩ ⟨eb, eo + k * 2, none⟩ ⟨eb, eo + k * 2 + 1, none⟩ (.int .i64 s) (.int .i64 z) (.int .i64 s) (.int .i64 y))
              (first | assumption | exact H4.drew (by assumption))
              (fail)
            rename_i hH
            have HQ := hide hH.2.2.2.2
            clear hH hk4
            go_wp2
            go_ret
            exact ⟨by rw [unhide E]; rfl, unhide HQ⟩
        · have g3 : (s == t) = false := by simpa using g1
          have E := hide (bad.out (fun e => g1 (Prod.mk.inj e).1))
          go_wp2
          go_region_held3 (H4 w ⟨cb, co + k * 2, none⟩ ⟨cb, co + k * 2 + 1, none⟩ ⟨eb, eo + k * 2, none⟩ ⟨eb, eo + k * 2 + 1, none⟩ (.int .i64 s) (.int .i64 z) (.int .i64 t) (.int .i64 y))
            (first | assumption | exact H4.drew (by assumption))
            (fail)
          rename_i hH
          have HQ := hide hH.2.2.2.2
          clear hH hk4
          go_wp2
          go_ret
          exact ⟨by rw [unhide E]; rfl, unhide HQ⟩
      · obtain rfl : k = L := by omega
        have E : Hid (r = true) := by
          unfold Hid; rw [unhide HR]
          exact decide_eq_true (List.ext_getElem (by rw [← unhide HL, ← unhide HM]) (fun j h1 h2 => unhide HD j h1 h2 (by rw [unhide HL]; exact h1)))
        clear hb
        go_wp2
        go_ret
        exact ⟨by rw [unhide E]; rfl, unhide HB⟩
  · have E : Hid (r = false) := by
      unfold Hid; rw [unhide HR]
      exact decide_eq_false (fun e => hc (by rw [unhide HL, unhide HM, e]))
    have g : ((L : Int) != (M : Int)) = true := by simp; omega
    go_enter Tryd.func21, Tryd.ntmps21
    go_wp2
    go_ret
    exact ⟨by rw [unhide E]; rfl, Below.refl _ _⟩
/-- Both bounds are the same. -/
def samB (li : Bool) (xs ys : List (Int × Int)) (lj : Bool) (xs2 ys2 : List (Int × Int)) : Bool := (li == lj) && (decide (xs = xs2) && decide (ys = ys2))
set_option maxRecDepth 20000 in
set_option maxHeartbeats 4000000 in
theorem sameEnv_c (li : Bool) (e1 e2 : Option Addr) (d1 d2 : Nat) (xs ys : List (Int × Int)) (lj : Bool) (e3 e4 : Option Addr) (d3 d4 : Nat) (xs2 ys2 : List (Int × Int)) (w : World) (hx : Ivs w e1 xs) (hy : Ivs w e2 ys) (hx2 : Ivs w e3 xs2) (hy2 : Ivs w e4 ys2) :
    Calls Tryd.prog 16 #[.agg #[.bool li, .slice e1 xs.length d1, .slice e2 ys.length d2], .agg #[.bool lj, .slice e3 xs2.length d3, .slice e4 ys2.length d4]] w fun e w' => e = .returned (.bool (samB li xs ys lj xs2 ys2)) ∧ Below w.heap.size w w' := by
  have HX := hide hx
  have HY := hide hy
  have HX2 := hide hx2
  have HY2 := hide hy2
  have T0 := (C3.new w (.bool li) (.slice e1 xs.length d1) (.slice e2 ys.length d2) 30).alloc (Obj.cells #[.bool lj, .slice e3 xs2.length d3, .slice e4 ys2.length d4] 30)
  have T1 := C3.new (w.alloc (Obj.cells #[.bool li, .slice e1 xs.length d1, .slice e2 ys.length d2] 30)) (.bool lj) (.slice e3 xs2.length d3) (.slice e4 ys2.length d4) 30
  have K0 : Below w.heap.size w ((w.alloc (Obj.cells #[.bool li, .slice e1 xs.length d1, .slice e2 ys.length d2] 30)).alloc (Obj.cells #[.bool lj, .slice e3 xs2.length d3, .slice e4 ys2.length d4] 30)) := ((Below.refl _ _).alloc (Nat.le_refl _) _).alloc (by simp) _
  rw [show (w.alloc (Obj.cells #[.bool li, .slice e1 xs.length d1, .slice e2 ys.length d2] 30)).heap.size = w.heap.size + 1 by simp] at T1
  have HT0 := hide T0
  have HT1 := hide T1
  have HK := hide K0
  clear hx hy hx2 hy2 T0 T1 K0
  go_enter Tryd.func16, Tryd.ntmps16
  go_upto_region 1 with fail
  generalize (w.alloc (Obj.cells #[.bool li, .slice e1 xs.length d1, .slice e2 ys.length d2] 30)).alloc (Obj.cells #[.bool lj, .slice e3 xs2.length d3, .slice e4 ys2.length d4] 30) = u at HT0 HT1 HK ⊢
  have t0 := (unhide HT0).1
  have t1 := (unhide HT0).2.1
  have t2 := (unhide HT0).2.2.1
  have u0 := (unhide HT1).1
  have u1 := (unhide HT1).2.1
  have u2 := (unhide HT1).2.2.1
  by_cases hl : li = lj
  · have hl' : (li == lj) = true := by simpa using hl
    have HE0 := hide hl'
    subst hl
    go_wp2_with fail
    refine (sameIvs_c _ _ _ _ xs xs2 _ ((unhide HX).call (unhide HK)) ((unhide HX2).call (unhide HK))).mono ?_
    rintro e v1 ⟨rfl, kb⟩
    have HT0 := hide ((unhide HT0).call kb)
    have HT1 := hide ((unhide HT1).call kb)
    have HK := hide ((unhide HK).trans (kb.mono (unhide HK).size))
    clear kb t0 t1 t2 u0 u1 u2
    have t2 := (unhide HT0).2.2.1
    have u2 := (unhide HT1).2.2.1
    by_cases hx : xs = xs2
    · have hx' : decide (xs = xs2) = true := decide_eq_true hx
      rw [hx']
      go_wp2_with fail
      refine (sameIvs_c _ _ _ _ ys ys2 _ ((unhide HY).call (unhide HK)) ((unhide HY2).call (unhide HK))).mono ?_
      rintro e v2 ⟨rfl, kb⟩
      have HK := hide ((unhide HK).trans (kb.mono (unhide HK).size))
      have HE := hide (show samB li xs ys li xs2 ys2 = decide (ys = ys2) by unfold samB; rw [unhide HE0, hx']; rfl)
      clear kb t2 u2 hx
      generalize decide (ys = ys2) = r at HE ⊢
      go_wp2
      go_ret
      exact ⟨by rw [unhide HE]; rfl, unhide HK⟩
    · have hx' : decide (xs = xs2) = false := decide_eq_false hx
      rw [hx']
      have HE := hide (show samB li xs ys li xs2 ys2 = false by unfold samB; rw [unhide HE0, hx']; rfl)
      clear hx
      go_wp2
      go_ret
      exact ⟨by rw [unhide HE]; rfl, unhide HK⟩
  · have hl' : (li == lj) = false := by simpa using hl
    have HE := hide (show samB li xs ys lj xs2 ys2 = false by unfold samB; rw [hl']; rfl)
    clear hl
    go_wp2
    go_ret
    exact ⟨by rw [unhide HE]; rfl, unhide HK⟩
end Go.Proofs.YthpnbmdmkmkicaaDoor
