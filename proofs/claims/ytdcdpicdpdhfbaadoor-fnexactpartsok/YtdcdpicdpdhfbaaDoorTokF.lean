/- The order of tokens, as the program and the specification tell it. -/
import Derived.Test.YtdcdpicdpdhfbaaDoorTokE
namespace Go.Proofs.YtdcdpicdpdhfbaaDoor
open Go.RowKit
set_option linter.unusedSimpArgs false

/-- Rows of entries, held against each other from the start. -/
def rowC : List (Int × Int) → List (Int × Int) → Int
  | [], [] => 0
  | [], _ :: _ => -1
  | _ :: _, [] => 1
  | p :: ps, q :: qs => orI (entC p q) (rowC ps qs)
theorem rowC_at (zs zt : List (Int × Int)) (k : Nat) (h1 : k < zs.length) (h2 : k < zt.length) : rowC (zs.drop k) (zt.drop k) = orI (entC zs[k] zt[k]) (rowC (zs.drop (k + 1)) (zt.drop (k + 1))) := by
  rw [List.drop_eq_getElem_cons h1, List.drop_eq_getElem_cons h2]
  rfl
theorem rowC_long (zs zt : List (Int × Int)) (k : Nat) (h1 : k < zs.length) (h2 : zt.length ≤ k) : rowC (zs.drop k) (zt.drop k) = 1 := by
  rw [List.drop_eq_getElem_cons h1, List.drop_eq_nil_of_le h2]
  rfl
theorem rowC_short (zs zt : List (Int × Int)) (k : Nat) (h1 : zs.length ≤ k) (h2 : k < zt.length) : rowC (zs.drop k) (zt.drop k) = -1 := by
  rw [List.drop_eq_getElem_cons h2, List.drop_eq_nil_of_le h1]
  rfl
theorem rowC_end (zs zt : List (Int × Int)) (k : Nat) (h1 : zs.length ≤ k) (h2 : zt.length ≤ k) : rowC (zs.drop k) (zt.drop k) = 0 := by
  rw [List.drop_eq_nil_of_le h2, List.drop_eq_nil_of_le h1]
  rfl
def tokC (zs zt : List (Int × Int)) : Int := orI (cmpI zs.length zt.length) (rowC zs zt)
theorem two_new' (u : World) (x y : Value) (t : TypeId) : (u.alloc (Obj.cells #[x, y] t)).cell? ⟨u.heap.size, 0, none⟩ = some x ∧ (u.alloc (Obj.cells #[x, y] t)).cell? ⟨u.heap.size, 1, none⟩ = some y := two_new u x y t
set_option maxHeartbeats 1000000 in
theorem cmpF_c (a b : Option Addr) (c d : Nat) (zs zt : List (Int × Int)) (w : World) (h : Ivs w a zs) (h2 : Ivs w b zt) : Calls Tryd.prog 79 #[.slice a zs.length c, .slice b zt.length d, .func (.func 80) #[] #[]] w fun e w' => e = .returned (.int .i64 (rowC zs zt)) ∧ Below w.heap.size w w' := by
  have hl := h.1
  have hm := h2.1
  obtain ⟨r, hr⟩ : ∃ r, r = rowC zs zt := ⟨_, rfl⟩
  obtain ⟨L, hL⟩ : ∃ L, L = zs.length := ⟨_, rfl⟩
  obtain ⟨M, hM⟩ : ∃ M, M = zt.length := ⟨_, rfl⟩
  rw [← hr]
  rw [← hL] at hl ⊢
  rw [← hM] at hm ⊢
  have HR := hide hr
  have HL := hide hL
  have HM := hide hM
  have HH := hide h
  have HG := hide h2
  have hl' : (L : Int) ≤ 1048576 := by omega
  have hm' : (M : Int) ≤ 1048576 := by omega
  clear h h2 hL hM hr
  go_enter Tryd.func79, Tryd.ntmps79
  go_wp2
  go_loopw [13] (fun i wr => ∃ k : Nat, k ≤ L ∧ k ≤ M ∧ i = .int .i64 k ∧ rowC (zs.drop k) (zt.drop k) = r ∧ Below w.heap.size w wr) (fun i _ => L - (intOf i).toNat)
  case atStart => exact ⟨0, Nat.zero_le _, Nat.zero_le _, rfl, (unhide HR).symm, Below.refl _ _⟩
  case round =>
    obtain ⟨k, hk, hkm, rfl, hd, hb⟩ := hrel
    have HD := hide hd
    have HB := hide hb
    have HB1 : Hid (∀ o, Below w.heap.size w (wr.alloc o)) := fun o => hb.alloc hb.size o
    have HB2 : Hid (∀ o o2, Below w.heap.size w ((wr.alloc o).alloc o2)) := fun o o2 => (hb.alloc hb.size o).alloc (by have := hb.size; simp; omega) o2
    clear hd
    by_cases hlt : k < L
    · have hk' : k < zs.length := by rw [← unhide HL]; exact hlt
      obtain ⟨s, hs⟩ : ∃ s, s = zs[k].1 := ⟨_, rfl⟩
      obtain ⟨z, hz⟩ : ∃ z, z = zs[k].2 := ⟨_, rfl⟩
      rcases ((unhide HH).call hb).2 with h0 | ⟨cb, co, rfl, hc⟩
      · omega
      have c1 := (hc k hk').1
      have c2 := (hc k hk').2
      rw [← hs] at c1
      rw [← hz] at c2
      by_cases hlm : k < M
      · have hm2 : k < zt.length := by rw [← unhide HM]; exact hlm
        obtain ⟨t, ht⟩ : ∃ t, t = zt[k].1 := ⟨_, rfl⟩
        obtain ⟨y, hy⟩ : ∃ y, y = zt[k].2 := ⟨_, rfl⟩
        rcases ((unhide HG).call hb).2 with h0 | ⟨eb, eo, rfl, he⟩
        · omega
        have k1 := (he k hm2).1
        have k2 := (he k hm2).2
        rw [← ht] at k1
        rw [← hy] at k2
        have hlt2 : eb < wr.heap.size := World.block_lt_of_cell? wr _ k1
        have d1 : ∀ o, (wr.alloc o).cell? ⟨eb, eo + k * 2, none⟩ = some (.int .i64 t) := fun o => (((Below.refl _ _).alloc (Nat.le_refl _) o).cell (by exact hlt2)).trans k1
        have d2 : ∀ o, (wr.alloc o).cell? ⟨eb, eo + k * 2 + 1, none⟩ = some (.int .i64 y) := fun o => (((Below.refl _ _).alloc (Nat.le_refl _) o).cell (by exact hlt2)).trans k2
        obtain ⟨e0, he0⟩ : ∃ e0, e0 = orI (cmpI s t) (cmpI z y) := ⟨_, rfl⟩
        have E : Hid (r = orI e0 (rowC (zs.drop (k + 1)) (zt.drop (k + 1)))) := by
          unfold Hid; rw [← unhide HD, rowC_at zs zt k hk' hm2, he0, hs, hz, ht, hy]; rfl
        have HE := hide he0
        clear hs hz hc he ht hy k1 k2 hlt2 hb he0
        go_wp2_with fail
        refine (eord_c _ _ _ _ _).mono ?_
        rintro e w2 ⟨rfl, b2⟩
        rw [← unhide HE]
        have B2 := hide ((unhide HB2 _ _).trans (b2.mono ((unhide HB2 _ _).size)))
        clear b2 c1 c2 d1 d2 HE
        by_cases hz0 : e0 = 0
        · subst hz0
          have E1 : Hid (rowC (zs.drop (k + 1)) (zt.drop (k + 1)) = r) := by unfold Hid; rw [E.out]; rfl
          clear E HD
          go_wp2
          go_roundw
          case rel => exact ⟨k + 1, by omega, by omega, by go_num, unhide E1, unhide B2⟩
          case measure => simp [intOf]; omega
        · have h1 : (e0 != 0) = true := by simpa using hz0
          have E1 : Hid (r = e0) := by unfold Hid; rw [E.out]; exact if_neg hz0
          clear E
          go_wp2
          go_ret
          exact ⟨by rw [unhide E1]; rfl, unhide B2⟩
      · have E : Hid (r = 1) := by unfold Hid; rw [← unhide HD]; exact rowC_long zs zt k hk' (by rw [← unhide HM]; omega)
        clear hs hz hc hb
        go_wp2
        go_ret
        exact ⟨by rw [unhide E]; rfl, unhide HB1 _⟩
    · obtain rfl : k = L := by omega
      clear hb
      by_cases hlm : k < M
      · have E : Hid (r = -1) := by unfold Hid; rw [← unhide HD]; exact rowC_short zs zt k (by rw [← unhide HL]; omega) (by rw [← unhide HM]; omega)
        go_wp2
        go_ret
        exact ⟨by rw [unhide E]; rfl, unhide HB⟩
      · have E : Hid (r = 0) := by unfold Hid; rw [← unhide HD]; exact rowC_end zs zt k (by rw [← unhide HL]; omega) (by rw [← unhide HM]; omega)
        go_wp2
        go_ret
        exact ⟨by rw [unhide E]; rfl, unhide HB⟩
set_option maxHeartbeats 1000000 in
theorem tord_c (a b : Option Addr) (c d : Nat) (zs zt : List (Int × Int)) (w : World) (h : Ivs w a zs) (h2 : Ivs w b zt) : Calls Tryd.prog 57 #[.slice a zs.length c, .slice b zt.length d] w fun e w' => e = .returned (.int .i64 (tokC zs zt)) ∧ Below w.heap.size w w' := by
  go_enter Tryd.func57, Tryd.ntmps57
  go_wp2_with fail
  refine (cmpI_c _ _ _).mono ?_
  rintro e w1 ⟨rfl, rfl⟩
  go_wp2_with fail
  refine (cmpF_c _ _ _ _ _ _ _ h h2).mono ?_
  rintro e w2 ⟨rfl, b2⟩
  have HB1 : Hid (∀ o, Below w1.heap.size w1 (w2.alloc o)) := fun o => b2.alloc b2.size o
  clear h h2 b2
  go_wp2_with fail
  refine (or_c _ _ (cmpI zs.length zt.length) (rowC zs zt) _ (two_new' _ _ _ _).1 (two_new' _ _ _ _).2).mono ?_
  rintro e w3 ⟨rfl, rfl⟩
  go_wp2
  go_ret
  exact ⟨rfl, unhide HB1 _⟩
end Go.Proofs.YtdcdpicdpdhfbaaDoor
