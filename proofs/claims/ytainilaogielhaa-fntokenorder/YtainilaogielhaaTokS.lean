/- Whether two tokens are the same; the order's laws; the walk of the law of the order. -/
import Derived.Test.YtainilaogielhaaTokR
namespace Go.Proofs.Ytainilaogielhaa
open Go.RowKit Go.Iv
set_option linter.unusedSimpArgs false

theorem cmpI_self (a : Int) : cmpI a a = 0 := by simp [cmpI]
theorem cmpI_neg (a b : Int) : cmpI a b = - cmpI b a := by
  rcases cmpI_cases a b with ⟨h, e⟩ | ⟨h, e⟩ | ⟨h, e⟩ <;> rcases cmpI_cases b a with ⟨h2, e2⟩ | ⟨h2, e2⟩ | ⟨h2, e2⟩ <;> omega
theorem orI_neg (x y : Int) : orI (-x) (-y) = - orI x y := by
  unfold orI
  by_cases h : x = 0
  · simp [h]
  · rw [if_neg h, if_neg (by omega)]
theorem entC_neg (p q : Int × Int) : entC p q = - entC q p := by
  unfold entC
  rw [cmpI_neg p.1 q.1, cmpI_neg p.2 q.2, orI_neg]
theorem entC_zero (p q : Int × Int) (h : entC p q = 0) : p = q := by
  obtain ⟨p1, p2⟩ := p
  obtain ⟨q1, q2⟩ := q
  unfold entC orI at h
  simp only at h
  rcases cmpI_cases p1 q1 with ⟨g, e⟩ | ⟨g, e⟩ | ⟨g, e⟩
  · rw [e] at h; simp at h
  · rw [e] at h; simp at h
  · rw [e] at h
    simp at h
    rcases cmpI_cases p2 q2 with ⟨g2, e2⟩ | ⟨g2, e2⟩ | ⟨g2, e2⟩
    · rw [e2] at h; simp at h
    · rw [e2] at h; simp at h
    · rw [g, g2]
theorem entC_self (p : Int × Int) : entC p p = 0 := by simp [entC, orI, cmpI]
theorem rowC_neg : ∀ (a b : List (Int × Int)), rowC a b = - rowC b a
  | [], [] => rfl
  | [], _ :: _ => rfl
  | _ :: _, [] => rfl
  | p :: ps, q :: qs => by
    show orI (entC p q) (rowC ps qs) = - orI (entC q p) (rowC qs ps)
    rw [entC_neg p q, rowC_neg ps qs, orI_neg]
theorem rowC_zero : ∀ (a b : List (Int × Int)), rowC a b = 0 → a = b
  | [], [], _ => rfl
  | [], _ :: _, h => by simp [rowC] at h
  | _ :: _, [], h => by simp [rowC] at h
  | p :: ps, q :: qs, h => by
    have h' : orI (entC p q) (rowC ps qs) = 0 := h
    unfold orI at h'
    by_cases e : entC p q = 0
    · rw [if_pos e] at h'
      rw [entC_zero p q e, rowC_zero ps qs h']
    · rw [if_neg e] at h'
      exact absurd h' e
theorem rowC_self : ∀ (a : List (Int × Int)), rowC a a = 0
  | [] => rfl
  | p :: ps => by
    show orI (entC p p) (rowC ps ps) = 0
    rw [entC_self, rowC_self ps]; rfl
theorem cmpI_lt (a b : Int) : cmpI a b < 0 ↔ a < b := by
  rcases cmpI_cases a b with ⟨h, e⟩ | ⟨h, e⟩ | ⟨h, e⟩ <;> omega
theorem cmpI_z (a b : Int) : cmpI a b = 0 ↔ a = b := by
  rcases cmpI_cases a b with ⟨h, e⟩ | ⟨h, e⟩ | ⟨h, e⟩ <;> omega
theorem orI_lt (x y : Int) : orI x y < 0 ↔ x < 0 ∨ (x = 0 ∧ y < 0) := by
  unfold orI
  by_cases h : x = 0
  · simp [h]
  · rw [if_neg h]; omega
theorem entC_lt3 (p q : Int × Int) : entC p q < 0 ↔ p.1 < q.1 ∨ (p.1 = q.1 ∧ p.2 < q.2) := by
  unfold entC
  rw [orI_lt, cmpI_lt, cmpI_z, cmpI_lt]
theorem rowC_trans : ∀ (a b c : List (Int × Int)), rowC a b < 0 → rowC b c < 0 → rowC a c < 0
  | [], b, [], h1, h2 => by
    cases b with
    | nil => exact h1
    | cons q qs => simp [rowC] at h2
  | [], _, _ :: _, _, _ => by simp [rowC]
  | p :: ps, [], _, h1, _ => by simp [rowC] at h1
  | p :: ps, q :: qs, [], _, h2 => by simp [rowC] at h2
  | p :: ps, q :: qs, r :: rs, h1, h2 => by
    have h1' : orI (entC p q) (rowC ps qs) < 0 := h1
    have h2' : orI (entC q r) (rowC qs rs) < 0 := h2
    show orI (entC p r) (rowC ps rs) < 0
    rw [orI_lt] at h1' h2' ⊢
    rcases h1' with a1 | ⟨a1, a2⟩
    · rcases h2' with b1 | ⟨b1, b2⟩
      · left
        rw [entC_lt3] at a1 b1 ⊢
        omega
      · left
        rw [← entC_zero q r b1]; exact a1
    · rcases h2' with b1 | ⟨b1, b2⟩
      · left
        rw [entC_zero p q a1]; exact b1
      · right
        exact ⟨by rw [entC_zero p q a1]; exact b1, rowC_trans ps qs rs a2 b2⟩
theorem tokC_neg (a b : List (Int × Int)) : tokC a b = - tokC b a := by
  unfold tokC
  rw [cmpI_neg a.length b.length, rowC_neg a b, orI_neg]
theorem tokC_self (a : List (Int × Int)) : tokC a a = 0 := by unfold tokC; rw [cmpI_self, rowC_self]; rfl
theorem tokC_zero (a b : List (Int × Int)) (h : tokC a b = 0) : a = b := by
  unfold tokC orI at h
  by_cases e : cmpI a.length b.length = 0
  · rw [if_pos e] at h; exact rowC_zero a b h
  · rw [if_neg e] at h; exact absurd h e
theorem tokC_trans (a b c : List (Int × Int)) (h1 : tokC a b < 0) (h2 : tokC b c < 0) : tokC a c < 0 := by
  unfold tokC at *
  rw [orI_lt, cmpI_lt, cmpI_z] at *
  rcases h1 with a1 | ⟨a1, a2⟩
  · left; omega
  · rcases h2 with b1 | ⟨b1, b2⟩
    · left; omega
    · right; exact ⟨by omega, rowC_trans a b c a2 b2⟩
theorem less_self (a : List (Int × Int)) : lessB a a = false := by unfold lessB; rw [tokC_self]; simp
theorem less_one (a b : List (Int × Int)) (ha : tokB a = true) (hb : tokB b = true) (hne : a ≠ b) : lessB b a = !lessB a b := by
  unfold lessB
  rw [ha, hb, tokC_neg b a]
  have : tokC a b ≠ 0 := fun e => hne (tokC_zero a b e)
  by_cases h : tokC a b < 0
  · simp [h]; omega
  · simp [h]; omega
theorem less_trans (a b c : List (Int × Int)) (h1 : lessB a b = true) (h2 : lessB b c = true) : lessB a c = true := by
  unfold lessB at *
  simp at *
  exact ⟨h1.1, h2.2.1, tokC_trans a b c h1.2.2 h2.2.2⟩
set_option maxHeartbeats 1000000 in
theorem same_c (a b : Option Addr) (c d : Nat) (zs zt : List (Int × Int)) (w : World) (h : Ivs w a zs) (h2 : Ivs w b zt) : Calls Try.prog 11 #[.slice a zs.length c, .slice b zt.length d] w fun e w' => e = .returned (.bool (decide (zs = zt))) ∧ Below w.heap.size w w' := by
  have hl := h.1
  have hm := h2.1
  obtain ⟨r, hr⟩ : ∃ r, r = decide (zs = zt) := ⟨_, rfl⟩
  obtain ⟨L, hL⟩ : ∃ L, L = zs.length := ⟨_, rfl⟩
  obtain ⟨M, hM⟩ : ∃ M, M = zt.length := ⟨_, rfl⟩
  rw [← hr]
  rw [← hL] at hl ⊢
  rw [← hM] at hm ⊢
  have HR := hide hr
  have HL := hide hL
  have HM := hide hM
  have HH := hide h
  have HG := hide h2
  have hl' : (L : Int) ≤ 1048576 := by omega
  have hm' : (M : Int) ≤ 1048576 := by omega
  clear h h2 hL hM hr
  by_cases hc : L = M
  · subst hc
    go_enter Try.func11, Try.ntmps11
    go_wp2
    go_loopw [5] (fun i wr => ∃ k : Nat, k ≤ L ∧ i = .int .i64 k ∧ (∀ j, (hj : j < zs.length) → (hj2 : j < zt.length) → j < k → zs[j] = zt[j]) ∧ Below w.heap.size w wr) (fun i _ => L - (intOf i).toNat)
    case atStart => exact ⟨0, Nat.zero_le _, rfl, fun j _ _ h0 => by omega, Below.refl _ _⟩
    case round =>
      obtain ⟨k, hk, rfl, hd, hb⟩ := hrel
      have HD := hide hd
      have HB := hide hb
      clear hd
      by_cases hlt : k < L
      · have hk' : k < zs.length := by rw [← unhide HL]; exact hlt
        have hm2 : k < zt.length := by rw [← unhide HM]; exact hlt
        obtain ⟨s, hs⟩ : ∃ s, s = zs[k].1 := ⟨_, rfl⟩
        obtain ⟨z, hz⟩ : ∃ z, z = zs[k].2 := ⟨_, rfl⟩
        obtain ⟨t, ht⟩ : ∃ t, t = zt[k].1 := ⟨_, rfl⟩
        obtain ⟨y, hy⟩ : ∃ y, y = zt[k].2 := ⟨_, rfl⟩
        rcases ((unhide HH).call hb).2 with h0 | ⟨cb, co, rfl, hc⟩
        · omega
        rcases ((unhide HG).call hb).2 with h0 | ⟨eb, eo, rfl, he⟩
        · omega
        have c1 := (hc k hk').1
        have c2 := (hc k hk').2
        have k1 := (he k hm2).1
        have k2 := (he k hm2).2
        rw [← hs] at c1
        rw [← hz] at c2
        rw [← ht] at k1
        rw [← hy] at k2
        have P1 : Hid (zs[k] = (s, z)) := by unfold Hid; rw [hs, hz]
        have P2 : Hid (zt[k] = (t, y)) := by unfold Hid; rw [ht, hy]
        have HB1 : Hid (∀ n, Below w.heap.size w (wr.drewN n)) := fun n => below_drewN hb n
        have hk4 : H4 w ⟨cb, co + k * 2, none⟩ ⟨cb, co + k * 2 + 1, none⟩ ⟨eb, eo + k * 2, none⟩ ⟨eb, eo + k * 2 + 1, none⟩ (.int .i64 s) (.int .i64 z) (.int .i64 t) (.int .i64 y) wr := ⟨c1, c2, k1, k2, hb⟩
        clear hs hz ht hy hc he hb
        have bad : Hid (¬ (s, z) = (t, y) → r = false) := fun hne => by
          rw [unhide HR]
          exact decide_eq_false (fun e => hne (by rw [← P1.out, ← P2.out]; subst e; rfl))
        by_cases g1 : s = t
        · by_cases g2 : z = y
          · subst g1 g2
            go_wp2
            go_region_held3 (H4 w ⟨cb, co + k * 2, none⟩ ⟨cb, co + k * 2 + 1, none⟩ ⟨eb, eo + k * 2, none⟩ ⟨eb, eo + k * 2 + 1, none⟩ (.int .i64 s) (.int .i64 z) (.int .i64 s) (.int .i64 z))
              (first | assumption | exact H4.drew (by assumption))
              (fail)
            rename_i hH
            have HQ := hide hH.2.2.2.2
            clear hH hk4
            go_wp2
            go_roundw
            case rel => exact ⟨k + 1, by omega, by go_num, fun j hj hj2 h1 => by
              by_cases e : j = k
              · subst e; rw [P1.out, P2.out]
              · exact unhide HD j hj hj2 (by omega), unhide HQ⟩
            case measure => simp [intOf]; omega
          · have g3 : (z == y) = false := by simpa using g2
            have E := hide (bad.out (fun e => g2 (Prod.mk.inj e).2))
            subst g1
            go_wp2
            go_region_held3 (H4 w ⟨cb, co + k * 2, none⟩ ⟨cb, co + k * 2 + 1, none⟩ ⟨eb, eo + k * 2, none⟩ ⟨eb, eo + k * 2 + 1, none⟩ (.int .i64 s) (.int .i64 z) (.int .i64 s) (.int .i64 y))
              (first | assumption | exact H4.drew (by assumption))
              (fail)
            rename_i hH
            have HQ := hide hH.2.2.2.2
            clear hH hk4
            go_wp2
            go_ret
            exact ⟨by rw [unhide E]; rfl, unhide HQ⟩
        · have g3 : (s == t) = false := by simpa using g1
          have E := hide (bad.out (fun e => g1 (Prod.mk.inj e).1))
          go_wp2
          go_region_held3 (H4 w ⟨cb, co + k * 2, none⟩ ⟨cb, co + k * 2 + 1, none⟩ ⟨eb, eo + k * 2, none⟩ ⟨eb, eo + k * 2 + 1, none⟩ (.int .i64 s) (.int .i64 z) (.int .i64 t) (.int .i64 y))
            (first | assumption | exact H4.drew (by assumption))
            (fail)
          rename_i hH
          have HQ := hide hH.2.2.2.2
          clear hH hk4
          go_wp2
          go_ret
          exact ⟨by rw [unhide E]; rfl, unhide HQ⟩
      · obtain rfl : k = L := by omega
        have E : Hid (r = true) := by
          unfold Hid; rw [unhide HR]
          exact decide_eq_true (List.ext_getElem (by rw [← unhide HL, ← unhide HM]) (fun j h1 h2 => unhide HD j h1 h2 (by rw [unhide HL]; exact h1)))
        clear hb
        go_wp2
        go_ret
        exact ⟨by rw [unhide E]; rfl, unhide HB⟩
  · have E : Hid (r = false) := by
      unfold Hid; rw [unhide HR]
      exact decide_eq_false (fun e => hc (by rw [unhide HL, unhide HM, e]))
    have g : ((L : Int) != (M : Int)) = true := by simp; omega
    go_enter Try.func11, Try.ntmps11
    go_wp2
    go_ret
    exact ⟨by rw [unhide E]; rfl, Below.refl _ _⟩
end Go.Proofs.Ytainilaogielhaa
