/- The order of tokens, as the specification tells it; which token is less. -/
import Derived.Test.YtdcdpicdpdhfbaaDoorTokF
namespace Go.Proofs.YtdcdpicdpdhfbaaDoor
open Go.RowKit
set_option linter.unusedSimpArgs false

theorem below_drewN {B : Nat} {a w : World} (h : Below B a w) (n : Nat) : Below B a (w.drewN n) := ⟨h.os, h.tape, h.output, h.size, h.block⟩
theorem entB_in (p : Int × Int) (h : entB p = true) : (0 ≤ p.1 ∧ p.1 ≤ 29) ∧ (0 ≤ p.2 ∧ p.2 ≤ 4) := by
  unfold entB inB at h
  simpa using h
theorem tokB_in (xs : List (Int × Int)) (h : tokB xs = true) (k : Nat) (hk : k < xs.length) : (0 ≤ xs[k].1 ∧ xs[k].1 ≤ 29) ∧ (0 ≤ xs[k].2 ∧ xs[k].2 ≤ 4) := by
  unfold tokB at h
  rw [Bool.and_eq_true, List.all_eq_true] at h
  exact entB_in _ (h.2 _ (List.getElem_mem hk))
theorem entC_lt (s z t y : Int) (h1 : 0 ≤ z ∧ z ≤ 4) (h2 : 0 ≤ y ∧ y ≤ 4) (h : 10 * s + z < 10 * t + y) : orI (cmpI s t) (cmpI z y) = -1 := by
  unfold orI cmpI
  by_cases e : s < t
  · simp [e]
  · obtain rfl : s = t := by omega
    have : z < y := by omega
    simp [this]
theorem entC_gt (s z t y : Int) (h1 : 0 ≤ z ∧ z ≤ 4) (h2 : 0 ≤ y ∧ y ≤ 4) (h : 10 * t + y < 10 * s + z) : orI (cmpI s t) (cmpI z y) = 1 := by
  unfold orI cmpI
  by_cases e : t < s
  · have : ¬ s < t := by omega
    simp [e, this]
  · obtain rfl : s = t := by omega
    have h3 : y < z := by omega
    have h4 : ¬ z < y := by omega
    simp [h3, h4]
theorem entC_eq (s z t y : Int) (h1 : 0 ≤ z ∧ z ≤ 4) (h2 : 0 ≤ y ∧ y ≤ 4) (h : 10 * t + y = 10 * s + z) : orI (cmpI s t) (cmpI z y) = 0 := by
  obtain rfl : s = t := by omega
  obtain rfl : y = z := by omega
  simp [orI, cmpI]
set_option maxHeartbeats 1000000 in
theorem l9Cmp_c (a b : Option Addr) (c d : Nat) (zs zt : List (Int × Int)) (w : World) (h : Ivs w a zs) (h2 : Ivs w b zt) (ta : tokB zs = true) (tb : tokB zt = true) : Calls Tryd.prog 20 #[.slice a zs.length c, .slice b zt.length d] w fun e w' => e = .returned (.int .i64 (tokC zs zt)) ∧ Below w.heap.size w w' := by
  have hl := h.1
  have hm := h2.1
  obtain ⟨r, hr⟩ : ∃ r, r = tokC zs zt := ⟨_, rfl⟩
  obtain ⟨L, hL⟩ : ∃ L, L = zs.length := ⟨_, rfl⟩
  obtain ⟨M, hM⟩ : ∃ M, M = zt.length := ⟨_, rfl⟩
  rw [← hr]
  rw [← hL] at hl ⊢
  rw [← hM] at hm ⊢
  have HR : Hid (r = orI (cmpI L M) (rowC zs zt)) := by unfold Hid; rw [hr, hL, hM]; rfl
  have HL := hide hL
  have HM := hide hM
  have HH := hide h
  have HG := hide h2
  have hl' : (L : Int) ≤ 1048576 := by omega
  have hm' : (M : Int) ≤ 1048576 := by omega
  have TA := hide (tokB_in zs ta)
  have TB := hide (tokB_in zt tb)
  clear h h2 hL hM hr ta tb
  rcases cmpI_cases L M with ⟨hc, e⟩ | ⟨hc, e⟩ | ⟨hc, e⟩
  · have E : Hid (r = -1) := by unfold Hid; rw [HR.out, e]; rfl
    have g : ((L : Int) != (M : Int)) = true := by simp; omega
    clear e HR
    go_enter Tryd.func20, Tryd.ntmps20
    go_wp2
    go_ret
    exact ⟨by rw [unhide E]; rfl, Below.refl _ _⟩
  · have E : Hid (r = 1) := by unfold Hid; rw [HR.out, e]; rfl
    have g : ((L : Int) != (M : Int)) = true := by simp; omega
    have g2 : ¬ (L : Int) < M := by omega
    clear e HR
    go_enter Tryd.func20, Tryd.ntmps20
    go_wp2
    go_ret
    exact ⟨by rw [unhide E]; rfl, Below.refl _ _⟩
  · obtain rfl : L = M := by omega
    have E : Hid (r = rowC zs zt) := by unfold Hid; rw [HR.out, e]; rfl
    clear e HR hc
    go_enter Tryd.func20, Tryd.ntmps20
    go_wp2
    go_loopw [5] (fun i wr => ∃ k : Nat, k ≤ L ∧ i = .int .i64 k ∧ rowC (zs.drop k) (zt.drop k) = r ∧ Below w.heap.size w wr) (fun i _ => L - (intOf i).toNat)
    case atStart => exact ⟨0, Nat.zero_le _, rfl, (unhide E).symm, Below.refl _ _⟩
    case round =>
      clear E
      obtain ⟨k, hk, rfl, hd, hb⟩ := hrel
      have HD := hide hd
      have HB := hide hb
      clear hd
      by_cases hlt : k < L
      · have hk' : k < zs.length := by rw [← unhide HL]; exact hlt
        have hm2 : k < zt.length := by rw [← unhide HM]; exact hlt
        obtain ⟨s, hs⟩ : ∃ s, s = zs[k].1 := ⟨_, rfl⟩
        obtain ⟨z, hz⟩ : ∃ z, z = zs[k].2 := ⟨_, rfl⟩
        obtain ⟨t, ht⟩ : ∃ t, t = zt[k].1 := ⟨_, rfl⟩
        obtain ⟨y, hy⟩ : ∃ y, y = zt[k].2 := ⟨_, rfl⟩
        rcases ((unhide HH).call hb).2 with h0 | ⟨cb, co, rfl, hc⟩
        · omega
        rcases ((unhide HG).call hb).2 with h0 | ⟨eb, eo, rfl, he⟩
        · omega
        have c1 := (hc k hk').1
        have c2 := (hc k hk').2
        have k1 := (he k hm2).1
        have k2 := (he k hm2).2
        rw [← hs] at c1
        rw [← hz] at c2
        rw [← ht] at k1
        rw [← hy] at k2
        have b1 := unhide TA k hk'
        have b2 := unhide TB k hm2
        rw [← hs, ← hz] at b1
        rw [← ht, ← hy] at b2
        have R1 := hide (rowC_at zs zt k hk' hm2)
        have R2 : Hid (entC zs[k] zt[k] = orI (cmpI s t) (cmpI z y)) := by unfold Hid; rw [hs, hz, ht, hy]; rfl
        obtain ⟨x, hx⟩ : ∃ x, x = 10 * s + z := ⟨_, rfl⟩
        obtain ⟨x2, hx2⟩ : ∃ x, x = 10 * t + y := ⟨_, rfl⟩
        have q1 : IntKind.i64.wrap (10 * s) = 10 * s := by rw [IntKind.wrap_i64]; omega
        have q2 : IntKind.i64.wrap (10 * t) = 10 * t := by rw [IntKind.wrap_i64]; omega
        have q3 : IntKind.i64.wrap (10 * s + z) = x := by rw [IntKind.wrap_i64]; omega
        have q4 : IntKind.i64.wrap (10 * t + y) = x2 := by rw [IntKind.wrap_i64]; omega
        have p1 : wrap64 (10 * s) = 10 * s := by unfold wrap64; omega
        have p2 : wrap64 (10 * t) = 10 * t := by unfold wrap64; omega
        have p3 : wrap64 (10 * s + z) = x := by unfold wrap64; omega
        have p4 : wrap64 (10 * t + y) = x2 := by unfold wrap64; omega
        have F1 : Hid (x < x2 → orI (cmpI s t) (cmpI z y) = -1) := fun g => entC_lt s z t y b1.2 b2.2 (by omega)
        have F2 : Hid (x2 < x → orI (cmpI s t) (cmpI z y) = 1) := fun g => entC_gt s z t y b1.2 b2.2 (by omega)
        have F3 : Hid (x2 = x → orI (cmpI s t) (cmpI z y) = 0) := fun g => entC_eq s z t y b1.2 b2.2 (by omega)
        have HB1 : Hid (∀ n, Below w.heap.size w (wr.drewN n)) := fun n => below_drewN hb n
        clear hs hz ht hy hc he b1 b2 hx hx2 hb TA TB
        go_wp2
        go_quiet (fail)
        go_wp2
        go_quiet (fail)
        clear q1 q2 q3 q4 p1 p2 p3 p4
        by_cases g1 : x < x2
        · have E : Hid (r = -1) := by unfold Hid; rw [← unhide HD, unhide R1, unhide R2, unhide F1 g1]; rfl
          go_wp2
          go_ret
          exact ⟨by rw [unhide E]; rfl, unhide HB1 _⟩
        · by_cases g2 : x2 < x
          · have E : Hid (r = 1) := by unfold Hid; rw [← unhide HD, unhide R1, unhide R2, unhide F2 g2]; rfl
            go_wp2
            go_ret
            exact ⟨by rw [unhide E]; rfl, unhide HB1 _⟩
          · have E : Hid (rowC (zs.drop (k + 1)) (zt.drop (k + 1)) = r) := by unfold Hid; rw [← unhide HD, unhide R1, unhide R2, unhide F3 (by omega)]; rfl
            go_wp2
            go_roundw
            case rel => exact ⟨k + 1, by omega, by go_num, unhide E, unhide HB1 _⟩
            case measure => simp [intOf]; omega
      · obtain rfl : k = L := by omega
        have E : Hid (r = 0) := by unfold Hid; rw [← unhide HD]; exact rowC_end zs zt k (by rw [← unhide HL]; omega) (by rw [← unhide HM]; omega)
        clear hb
        go_wp2
        go_ret
        exact ⟨by rw [unhide E]; rfl, unhide HB⟩
def lessB (zs zt : List (Int × Int)) : Bool := tokB zs && (tokB zt && decide (tokC zs zt < 0))
set_option maxHeartbeats 1000000 in
theorem TokenLess_c (a b : Option Addr) (c d : Nat) (zs zt : List (Int × Int)) (w : World) (h : Ivs w a zs) (h2 : Ivs w b zt) : Calls Tryd.prog 30 #[.slice a zs.length c, .slice b zt.length d] w fun e w' => e = .returned (.bool (lessB zs zt)) ∧ Below w.heap.size w w' := by
  obtain ⟨r, hr⟩ : ∃ r, r = lessB zs zt := ⟨_, rfl⟩
  rw [← hr]
  unfold lessB at hr
  have HH := hide h
  have HG := hide h2
  clear h h2
  by_cases t1 : tokB zs = true
  · by_cases t2 : tokB zt = true
    · rw [t1, t2, Bool.true_and, Bool.true_and] at hr
      have HR := hide hr
      clear hr
      go_enter Tryd.func30, Tryd.ntmps30
      go_wp2_with fail
      refine (TokenOk_c _ _ _ _ (unhide HH)).mono ?_
      rintro e w1 ⟨rfl, b1⟩
      rw [t1]
      have B1 := hide b1
      clear b1
      go_wp2_with fail
      refine (TokenOk_c _ _ _ _ ((unhide HG).call (unhide B1))).mono ?_
      rintro e w2 ⟨rfl, b2⟩
      rw [t2]
      have B2 := hide ((unhide B1).trans (b2.mono (unhide B1).size))
      clear b2
      go_wp2_with fail
      refine (tord_c _ _ _ _ _ _ _ ((unhide HH).call (unhide B2)) ((unhide HG).call (unhide B2))).mono ?_
      rintro e w3 ⟨rfl, b3⟩
      have B3 := hide ((unhide B2).trans (b3.mono (unhide B2).size))
      clear b3
      go_wp2
      go_ret
      exact ⟨by rw [unhide HR]; rfl, unhide B3⟩
    · have t2' : tokB zt = false := by simpa using t2
      rw [t1, t2', Bool.true_and, Bool.false_and] at hr
      have HR := hide hr
      clear hr
      go_enter Tryd.func30, Tryd.ntmps30
      go_wp2_with fail
      refine (TokenOk_c _ _ _ _ (unhide HH)).mono ?_
      rintro e w1 ⟨rfl, b1⟩
      rw [t1]
      have B1 := hide b1
      clear b1
      go_wp2_with fail
      refine (TokenOk_c _ _ _ _ ((unhide HG).call (unhide B1))).mono ?_
      rintro e w2 ⟨rfl, b2⟩
      rw [t2']
      have B2 := hide ((unhide B1).trans (b2.mono (unhide B1).size))
      clear b2
      go_wp2
      go_ret
      exact ⟨by rw [unhide HR]; rfl, unhide B2⟩
  · have t1' : tokB zs = false := by simpa using t1
    rw [t1', Bool.false_and] at hr
    have HR := hide hr
    clear hr
    go_enter Tryd.func30, Tryd.ntmps30
    go_wp2_with fail
    refine (TokenOk_c _ _ _ _ (unhide HH)).mono ?_
    rintro e w1 ⟨rfl, b1⟩
    rw [t1']
    have B1 := hide b1
    clear b1
    go_wp2
    go_ret
    exact ⟨by rw [unhide HR]; rfl, unhide B1⟩
end Go.Proofs.YtdcdpicdpdhfbaaDoor
