/- One table within another. -/
import Derived.Test.YthldhjifnpfmiaaDoorTabE
import Derived.Test.YthldhjifnpfmiaaDoorLeqD
namespace Go.Proofs.YthldhjifnpfmiaaDoor
open Go.RowKit
set_option linter.unusedSimpArgs false
set_option linter.unusedVariables false

def leqR (p q : ER) : Bool := leqE p.1 q.1 (p.2.1 ++ p.2.2) (q.2.1 ++ q.2.2)
def leqRs (a b : List ER) : Bool := (List.zipWith leqR a b).all id
theorem leqRs_bad {a b : List ER} (k : Nat) (h1 : k < a.length) (h2 : k < b.length) (h : leqR a[k] b[k] = false) : leqRs a b = false := by
  unfold leqRs
  rw [List.all_eq_false]
  refine ⟨(List.zipWith leqR a b)[k]'(by simp; omega), List.getElem_mem _, ?_⟩
  rw [List.getElem_zipWith, h]
  decide
theorem leqRs_all {a b : List ER} (h : ∀ k, (h1 : k < a.length) → (h2 : k < b.length) → leqR a[k] b[k] = true) : leqRs a b = true := by
  unfold leqRs
  rw [List.all_eq_true]
  intro x hx
  obtain ⟨i, hi, rfl⟩ := List.getElem_of_mem hx
  rw [List.getElem_zipWith]
  exact h i (by simp at hi; omega) (by simp at hi; omega)
def tleqB (vs fs : List ByteArray) (rs : List (ByteArray × Int)) (a b : List ER) : Bool := tabB vs fs rs a && (tabB vs fs rs b && leqRs a b)
theorem tab_len {vs fs : List ByteArray} {rs : List (ByteArray × Int)} {es : List ER} (h : tabB vs fs rs es = true) : es.length = 2 ^ fs.length := by
  unfold tabB at h
  simp at h
  exact h.2.1
theorem tab_env {vs fs : List ByteArray} {rs : List (ByteArray × Int)} {es : List ER} (h : tabB vs fs rs es = true) (k : Nat) (hk : k < es.length) : envB vs fs rs es[k].1 es[k].2.1 es[k].2.2 = true := by
  unfold tabB at h
  rw [Bool.and_eq_true, Bool.and_eq_true, List.all_eq_true] at h
  have := h.2.2 _ (List.getElem_mem hk)
  unfold envB
  rw [h.1]
  exact this
set_option maxHeartbeats 1000000 in
theorem l8Leq_c (vs fs : List ByteArray) (rs : List (ByteArray × Int)) (b1 d1 : Nat) (es1 : List ER) (b2 d2 : Nat) (es2 : List ER) (w : World) (h1 : OwnE w b1 es1) (h2 : OwnE w b2 es2) (t1 : tabB vs fs rs es1 = true) (t2 : tabB vs fs rs es2 = true) :
    Calls Tryd.prog 36 #[.slice (some ⟨b1, 0, none⟩) es1.length d1, .slice (some ⟨b2, 0, none⟩) es2.length d2] w fun e w' => e = .returned (.bool (leqRs es1 es2)) ∧ Below w.heap.size w w' := by
  have hl := h1.1
  obtain ⟨r, hr⟩ : ∃ r, r = leqRs es1 es2 := ⟨_, rfl⟩
  rw [← hr]
  have HR := hide hr
  have HE1 := hide h1
  have HE2 := hide h2
  have HT1 := hide t1
  have HT2 := hide t2
  obtain ⟨L, hL⟩ : ∃ L, L = es1.length := ⟨_, rfl⟩
  have HL := hide hL
  have HM := hide (show L = es2.length by rw [hL, tab_len t1, tab_len t2])
  rw [← hL, show es2.length = L by rw [hL, tab_len t1, tab_len t2]]
  rw [← hL] at hl
  have hl' : (L : Int) ≤ 1048576 := by omega
  clear h1 h2 hr t1 t2 hL
  go_enter Tryd.func36, Tryd.ntmps36
  go_wp2
  go_loopw [5] (fun i wr => ∃ k : Nat, k ≤ L ∧ i = .int .i64 k ∧ (∀ j, (h1 : j < es1.length) → (h2 : j < es2.length) → j < k → leqR es1[j] es2[j] = true) ∧ Below w.heap.size w wr) (fun i _ => L - (intOf i).toNat)
  case atStart => exact ⟨0, Nat.zero_le _, rfl, fun j _ _ h0 => by omega, Below.refl _ _⟩
  case round =>
    obtain ⟨k, hk, rfl, ha, hb⟩ := hrel
    have HA := hide ha
    have HB := hide hb
    clear ha
    by_cases hlt : k < L
    · have k1 : k < es1.length := by rw [← unhide HL]; exact hlt
      have k2 : k < es2.length := by rw [← unhide HM]; exact hlt
      obtain ⟨g1, g2, _, _, p1, p2, p3, i1, i2⟩ := ((unhide HE1).call hb).2.1 k k1
      obtain ⟨g3, g4, _, _, q1, q2, q3, i3, i4⟩ := ((unhide HE2).call hb).2.1 k k2
      have I1 := hide i1.1
      have I2 := hide i2.1
      have I3 := hide i3.1
      have I4 := hide i4.1
      have EV := hide (env_lens (tab_env (unhide HT1) k k1) (tab_env (unhide HT2) k k2))
      have EF : Hid (leqR es1[k] es2[k] = leqE es1[k].1 es2[k].1 (es1[k].2.1 ++ es1[k].2.2) (es2[k].2.1 ++ es2[k].2.2)) := by unfold Hid; rfl
      clear i1 i2 i3 i4
      generalize es1[k].1 = li at p1 EF EV
      generalize es1[k].2.1 = xs at p2 I1 EF EV
      generalize es1[k].2.2 = ys at p3 I2 EF EV
      generalize es2[k].1 = lj at q1 EF EV
      generalize es2[k].2.1 = xs2 at q2 I3 EF EV
      generalize es2[k].2.2 = ys2 at q3 I4 EF EV
      have hk6 : H6' w b1 b2 (k * 3) (k * 3) (.bool li) (.slice (some ⟨g1, 0, none⟩) xs.length xs.length) (.slice (some ⟨g2, 0, none⟩) ys.length ys.length) (.bool lj) (.slice (some ⟨g3, 0, none⟩) xs2.length xs2.length) (.slice (some ⟨g4, 0, none⟩) ys2.length ys2.length) wr := ⟨p1, p2, p3, q1, q2, q3, hb⟩
      clear hb
      go_wp2
      go_region_held3 (H6' w b1 b2 (k * 3) (k * 3) (.bool li) (.slice (some ⟨g1, 0, none⟩) xs.length xs.length) (.slice (some ⟨g2, 0, none⟩) ys.length ys.length) (.bool lj) (.slice (some ⟨g3, 0, none⟩) xs2.length xs2.length) (.slice (some ⟨g4, 0, none⟩) ys2.length ys2.length))
        (first | exact H6'.drew (by assumption) | exact hq)
        (first | (go_at_call 55; refine (l6Leq_c li g1 g2 xs.length ys.length xs ys lj g3 g4 xs2.length ys2.length xs2 ys2 _ ((unhide I1).call (bdrew wr 1)) ((unhide I2).call (bdrew wr 1)) ((unhide I3).call (bdrew wr 1)) ((unhide I4).call (bdrew wr 1)) (unhide EV)).mono ?_; rintro e w1 ⟨rfl, bq⟩; have hq := H6'.call bq (H6'.drew hk6)))
      have HQ := hide hq.2.2.2.2.2.2
      clear hq hk6 p1 p2 p3 q1 q2 q3
      rename_i hHeld
      clear hHeld
      cases hfit : leqE li lj (xs ++ ys) (xs2 ++ ys2)
      · have E : Hid (r = false) := by unfold Hid; rw [unhide HR]; exact leqRs_bad k k1 k2 (by rw [unhide EF, hfit])
        go_wp2
        go_ret
        exact ⟨by rw [unhide E]; rfl, unhide HQ⟩
      · have E : Hid (leqR es1[k] es2[k] = true) := by unfold Hid; rw [unhide EF, hfit]
        clear EF EV
        go_wp2
        go_roundw
        case rel => exact ⟨k + 1, by omega, by go_num, fun j hj hj2 h1 => by
          by_cases e : j = k
          · subst e; exact unhide E
          · exact unhide HA j hj hj2 (by omega), unhide HQ⟩
        case measure => simp [intOf]; omega
    · obtain rfl : k = L := by omega
      have E : Hid (r = true) := by unfold Hid; rw [unhide HR]; exact leqRs_all (fun j hj hj2 => unhide HA j hj hj2 (by rw [unhide HL]; exact hj))
      clear hb
      go_wp2
      go_ret
      exact ⟨by rw [unhide E]; rfl, unhide HB⟩
@[reducible] def H9 (w0 : World) (a b c p : Nat) (x y z x1 y1 z1 x2 y2 z2 : Value) (w : World) : Prop := w.cell? ⟨a, 0, none⟩ = some x ∧ w.cell? ⟨a, 1, none⟩ = some y ∧ w.cell? ⟨a, 2, none⟩ = some z ∧ w.cell? ⟨b, p, none⟩ = some x1 ∧ w.cell? ⟨b, p + 1, none⟩ = some y1 ∧ w.cell? ⟨b, p + 2, none⟩ = some z1 ∧ w.cell? ⟨c, p, none⟩ = some x2 ∧ w.cell? ⟨c, p + 1, none⟩ = some y2 ∧ w.cell? ⟨c, p + 2, none⟩ = some z2 ∧ C3 w a x y z ∧ Below w0.heap.size w0 w
theorem H9.call {w0 w w1 : World} {a b c p : Nat} {x y z x1 y1 z1 x2 y2 z2 : Value} (hb : Below w.heap.size w w1) (h : H9 w0 a b c p x y z x1 y1 z1 x2 y2 z2 w) : H9 w0 a b c p x y z x1 y1 z1 x2 y2 z2 w1 := by
  obtain ⟨h1, h2, h3, h4, h5, h6, h7, h8, h9, hc, hd⟩ := h
  exact ⟨(hb.cell (World.block_lt_of_cell? w _ h1)).trans h1, (hb.cell (World.block_lt_of_cell? w _ h2)).trans h2, (hb.cell (World.block_lt_of_cell? w _ h3)).trans h3, (hb.cell (World.block_lt_of_cell? w _ h4)).trans h4, (hb.cell (World.block_lt_of_cell? w _ h5)).trans h5, (hb.cell (World.block_lt_of_cell? w _ h6)).trans h6, (hb.cell (World.block_lt_of_cell? w _ h7)).trans h7, (hb.cell (World.block_lt_of_cell? w _ h8)).trans h8, (hb.cell (World.block_lt_of_cell? w _ h9)).trans h9, hc.call hb, hd.trans (hb.mono hd.size)⟩
theorem H9.drew {w0 w : World} {a b c p : Nat} {x y z x1 y1 z1 x2 y2 z2 : Value} (h : H9 w0 a b c p x y z x1 y1 z1 x2 y2 z2 w) : H9 w0 a b c p x y z x1 y1 z1 x2 y2 z2 w.drew := H9.call (Below.refl _ _).drew h
set_option maxRecDepth 20000 in
set_option maxHeartbeats 2000000 in
theorem iTableLeq_c (a1 a2 a3 c1 c2 c3 : Nat) (vs fs : List ByteArray) (rs : List (ByteArray × Int)) (b1 d1 : Nat) (es1 : List ER) (b2 d2 : Nat) (es2 : List ER) (w : World) (hw : KW w) (hv : Strs w (some ⟨a1, 0, none⟩) vs) (hf : Strs w (some ⟨a2, 0, none⟩) fs) (hr : Arrs w (some ⟨a3, 0, none⟩) rs)
    (hz : ∀ x ∈ namesOf vs fs rs, x.size ≤ 1048576) (h1 : OwnE w b1 es1) (h2 : OwnE w b2 es2) :
    Calls Tryd.prog 23 #[.agg #[.slice (some ⟨a1, 0, none⟩) vs.length c1, .slice (some ⟨a2, 0, none⟩) fs.length c2, .slice (some ⟨a3, 0, none⟩) rs.length c3], .slice (some ⟨b1, 0, none⟩) es1.length d1, .slice (some ⟨b2, 0, none⟩) es2.length d2] w fun e w' => e = .returned (.bool (tleqB vs fs rs es1 es2)) ∧ Below w.heap.size w w' := by
  have HW := hide hw
  have HV := hide hv
  have HF := hide hf
  have HR := hide hr
  have HE1 := hide h1
  have HE2 := hide h2
  have HT := hide (C3.new w (.slice (some ⟨a1, 0, none⟩) vs.length c1) (.slice (some ⟨a2, 0, none⟩) fs.length c2) (.slice (some ⟨a3, 0, none⟩) rs.length c3) 32)
  have HK := hide ((Below.refl _ w).alloc (Nat.le_refl _) (Obj.cells #[.slice (some ⟨a1, 0, none⟩) vs.length c1, .slice (some ⟨a2, 0, none⟩) fs.length c2, .slice (some ⟨a3, 0, none⟩) rs.length c3] 32))
  obtain ⟨r, hr'⟩ : ∃ r, r = tleqB vs fs rs es1 es2 := ⟨_, rfl⟩
  rw [← hr']
  have HRR := hide hr'
  clear hv hf hr h1 h2 hr' hw
  go_enter Tryd.func23, Tryd.ntmps23
  go_wp2_with fail
  generalize w.alloc (Obj.cells #[.slice (some ⟨a1, 0, none⟩) vs.length c1, .slice (some ⟨a2, 0, none⟩) fs.length c2, .slice (some ⟨a3, 0, none⟩) rs.length c3] 32) = u at HT HK ⊢
  refine (iTableOk_c a1 a2 a3 c1 c2 c3 vs fs rs b1 d1 es1 _ ((unhide HW).call (unhide HK)) ((unhide HV).call (unhide HK)) ((unhide HF).call (unhide HK)) ((unhide HR).call (unhide HK)) hz ((unhide HE1).call (unhide HK))).mono ?_
  rintro e u1 ⟨rfl, k1⟩
  have HT := hide ((unhide HT).call k1)
  have HK := hide ((unhide HK).trans (k1.mono (unhide HK).size))
  clear k1
  cases t1 : tabB vs fs rs es1
  · have E : Hid (r = false) := by unfold Hid; rw [unhide HRR, tleqB, t1]; rfl
    clear t1
    go_wp2
    go_ret
    exact ⟨by rw [unhide E]; rfl, unhide HK⟩
  have T1 := hide t1
  clear t1
  have s0 := (unhide HT).1
  have s1 := (unhide HT).2.1
  have s2 := (unhide HT).2.2.1
  go_wp2_with fail
  refine (iTableOk_c a1 a2 a3 c1 c2 c3 vs fs rs b2 d2 es2 _ ((unhide HW).call (unhide HK)) ((unhide HV).call (unhide HK)) ((unhide HF).call (unhide HK)) ((unhide HR).call (unhide HK)) hz ((unhide HE2).call (unhide HK))).mono ?_
  rintro e u2 ⟨rfl, k2⟩
  have HT := hide ((unhide HT).call k2)
  have HK := hide ((unhide HK).trans (k2.mono (unhide HK).size))
  clear k2 s0 s1 s2
  cases t2 : tabB vs fs rs es2
  · have E : Hid (r = false) := by unfold Hid; rw [unhide HRR, tleqB, unhide T1, t2]; rfl
    clear t2
    go_wp2
    go_ret
    exact ⟨by rw [unhide E]; rfl, unhide HK⟩
  have T2 := hide t2
  clear t2
  have EL : Hid (r = leqRs es1 es2) := by unfold Hid; rw [unhide HRR, tleqB, unhide T1, unhide T2]; rfl
  have hl := (unhide HE1).1
  obtain ⟨L, hL⟩ : ∃ L, L = es1.length := ⟨_, rfl⟩
  have HL := hide hL
  have HM := hide (show L = es2.length by rw [hL, tab_len (unhide T1), tab_len (unhide T2)])
  rw [← hL, show es2.length = L by rw [hL, tab_len (unhide T1), tab_len (unhide T2)]]
  rw [← hL] at hl
  have hl' : (L : Int) ≤ 1048576 := by omega
  clear hL
  go_wp2
  go_loopw [20] (fun i wr => ∃ k : Nat, k ≤ L ∧ i = .int .i64 k ∧ (∀ j, (h1 : j < es1.length) → (h2 : j < es2.length) → j < k → leqR es1[j] es2[j] = true) ∧ C3 wr w.heap.size (.slice (some ⟨a1, 0, none⟩) vs.length c1) (.slice (some ⟨a2, 0, none⟩) fs.length c2) (.slice (some ⟨a3, 0, none⟩) rs.length c3) ∧ Below w.heap.size w wr) (fun i _ => L - (intOf i).toNat)
  case atStart => exact ⟨0, Nat.zero_le _, rfl, fun j _ _ h0 => by omega, unhide HT, unhide HK⟩
  case round =>
    clear HT HK
    obtain ⟨k, hk, rfl, ha, ht, hb⟩ := hrel
    have HA := hide ha
    have HB := hide hb
    clear ha
    by_cases hlt : k < L
    · have k1 : k < es1.length := by rw [← unhide HL]; exact hlt
      have k2 : k < es2.length := by rw [← unhide HM]; exact hlt
      obtain ⟨g1, g2, _, _, p1, p2, p3, i1, i2⟩ := ((unhide HE1).call hb).2.1 k k1
      obtain ⟨g3, g4, _, _, q1, q2, q3, i3, i4⟩ := ((unhide HE2).call hb).2.1 k k2
      have I1 := hide i1.1
      have I2 := hide i2.1
      have I3 := hide i3.1
      have I4 := hide i4.1
      have EV1 := hide (tab_env (unhide T1) k k1)
      have EV2 := hide (tab_env (unhide T2) k k2)
      have EF : Hid (leqR es1[k] es2[k] = leqE es1[k].1 es2[k].1 (es1[k].2.1 ++ es1[k].2.2) (es2[k].2.1 ++ es2[k].2.2)) := by unfold Hid; rfl
      clear i1 i2 i3 i4
      generalize es1[k].1 = li at p1 EF EV1
      generalize es1[k].2.1 = xs at p2 I1 EF EV1
      generalize es1[k].2.2 = ys at p3 I2 EF EV1
      generalize es2[k].1 = lj at q1 EF EV2
      generalize es2[k].2.1 = xs2 at q2 I3 EF EV2
      generalize es2[k].2.2 = ys2 at q3 I4 EF EV2
      have EB : Hid (leqD vs fs rs li xs ys lj xs2 ys2 = leqE li lj (xs ++ ys) (xs2 ++ ys2)) := by unfold Hid leqD; rw [unhide EV1, unhide EV2]; rfl
      have hk9 : (H9 w w.heap.size b1 b2 (k * 3) (.slice (some ⟨a1, 0, none⟩) vs.length c1) (.slice (some ⟨a2, 0, none⟩) fs.length c2) (.slice (some ⟨a3, 0, none⟩) rs.length c3) (.bool li) (.slice (some ⟨g1, 0, none⟩) xs.length xs.length) (.slice (some ⟨g2, 0, none⟩) ys.length ys.length) (.bool lj) (.slice (some ⟨g3, 0, none⟩) xs2.length xs2.length) (.slice (some ⟨g4, 0, none⟩) ys2.length ys2.length)) wr := ⟨ht.1, ht.2.1, ht.2.2.1, p1, p2, p3, q1, q2, q3, ht, hb⟩
      clear hb ht
      go_wp2
      go_region_held3 (H9 w w.heap.size b1 b2 (k * 3) (.slice (some ⟨a1, 0, none⟩) vs.length c1) (.slice (some ⟨a2, 0, none⟩) fs.length c2) (.slice (some ⟨a3, 0, none⟩) rs.length c3) (.bool li) (.slice (some ⟨g1, 0, none⟩) xs.length xs.length) (.slice (some ⟨g2, 0, none⟩) ys.length ys.length) (.bool lj) (.slice (some ⟨g3, 0, none⟩) xs2.length xs2.length) (.slice (some ⟨g4, 0, none⟩) ys2.length ys2.length))
        (first | exact H9.drew (by assumption) | exact hq)
        (first | (go_at_call 45; refine (iEnvLeq_c a1 a2 a3 c1 c2 c3 vs fs rs li g1 g2 xs.length ys.length xs ys lj g3 g4 xs2.length ys2.length xs2 ys2 _ ((unhide HW).call (unhide HB).drew) ((unhide HV).call (unhide HB).drew) ((unhide HF).call (unhide HB).drew) ((unhide HR).call (unhide HB).drew) hz ((unhide I1).call (bdrew wr 1)) ((unhide I2).call (bdrew wr 1)) ((unhide I3).call (bdrew wr 1)) ((unhide I4).call (bdrew wr 1))).mono ?_; rintro e w1 ⟨rfl, bq⟩; have hq := H9.call bq (H9.drew hk9)))
      have HQ := hide hq.2.2.2.2.2.2.2.2.2.2
      have HQT := hide hq.2.2.2.2.2.2.2.2.2.1
      rw [unhide EB]
      clear hq hk9 p1 p2 p3 q1 q2 q3 EB
      rename_i hHeld
      clear hHeld
      cases hfit : leqE li lj (xs ++ ys) (xs2 ++ ys2)
      · have E : Hid (r = false) := by unfold Hid; rw [unhide EL]; exact leqRs_bad k k1 k2 (by rw [unhide EF, hfit])
        go_wp2
        go_ret
        exact ⟨by rw [unhide E]; rfl, unhide HQ⟩
      · have E : Hid (leqR es1[k] es2[k] = true) := by unfold Hid; rw [unhide EF, hfit]
        clear EF EV1 EV2
        go_wp2
        go_roundw
        case rel => exact ⟨k + 1, by omega, by go_num, fun j hj hj2 h1 => by
          by_cases e : j = k
          · subst e; exact unhide E
          · exact unhide HA j hj hj2 (by omega), unhide HQT, unhide HQ⟩
        case measure => simp [intOf]; omega
    · obtain rfl : k = L := by omega
      have E : Hid (r = true) := by unfold Hid; rw [unhide EL]; exact leqRs_all (fun j hj hj2 => unhide HA j hj hj2 (by rw [unhide HL]; exact hj))
      clear hb ht
      go_wp2
      go_ret
      exact ⟨by rw [unhide E]; rfl, unhide HB⟩
end Go.Proofs.YthldhjifnpfmiaaDoor
