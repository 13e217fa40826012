/- Whether a table is right. -/
import Derived.Test.YthldhjifnpfmiaaGreatDoorTabD
namespace Go.Proofs.YthldhjifnpfmiaaGreatDoor
open Go.RowKit
set_option linter.unusedSimpArgs false

def fitE (m n : Nat) (e : ER) : Bool := fitB m n e.1 e.2.1 e.2.2
def tabB (vs fs : List ByteArray) (rs : List (ByteArray × Int)) (es : List ER) : Bool := declB vs fs rs && (decide (es.length = 2 ^ fs.length) && es.all (fitE vs.length rs.length))
theorem tabB_bad {vs fs : List ByteArray} {rs : List (ByteArray × Int)} {es : List ER} (k : Nat) (hk : k < es.length) (h : fitE vs.length rs.length es[k] = false) : tabB vs fs rs es = false := by
  unfold tabB
  have : es.all (fitE vs.length rs.length) = false := by
    rw [List.all_eq_false]
    exact ⟨es[k], List.getElem_mem hk, by simp [h]⟩
  rw [this, Bool.and_false, Bool.and_false]
theorem tabB_all {vs fs : List ByteArray} {rs : List (ByteArray × Int)} {es : List ER} (hd : declB vs fs rs = true) (hl : es.length = 2 ^ fs.length) (h : ∀ j, (hj : j < es.length) → fitE vs.length rs.length es[j] = true) : tabB vs fs rs es = true := by
  unfold tabB
  have : es.all (fitE vs.length rs.length) = true := by
    rw [List.all_eq_true]
    intro x hx
    obtain ⟨i, hi, rfl⟩ := List.getElem_of_mem hx
    exact h i hi
  rw [this, hd]
  simp [hl]
theorem l8Size_c (v1 v3 : Value) (oa : Option Addr) (n c2 : Nat) (hn : n ≤ 3) (w : World) : Calls Tryz.prog 73 #[.agg #[v1, .slice oa n c2, v3]] w fun e w' => e = .returned (.int .i64 ((2 ^ n : Nat) : Int)) ∧ Below w.heap.size w w' := by
  rcases (show n = 0 ∨ n = 1 ∨ n = 2 ∨ n = 3 by omega) with rfl | rfl | rfl | rfl
  all_goals
    go_enter Tryz.func73, Tryz.ntmps73
    go_wp2
    go_ret
    exact ⟨rfl, (Below.refl _ _).alloc (Nat.le_refl _) _⟩
theorem leafCount_c (v1 v3 : Value) (oa : Option Addr) (n c2 : Nat) (hn : n ≤ 3) (w : World) : Calls Tryz.prog 79 #[.agg #[v1, .slice oa n c2, v3]] w fun e w' => e = .returned (.int .i64 ((2 ^ n : Nat) : Int)) ∧ Below w.heap.size w w' := by
  rcases (show n = 0 ∨ n = 1 ∨ n = 2 ∨ n = 3 by omega) with rfl | rfl | rfl | rfl
  all_goals
    go_enter Tryz.func79, Tryz.ntmps79
    go_wp2
    go_ret
    exact ⟨rfl, (Below.refl _ _).alloc (Nat.le_refl _) _⟩
@[reducible] def H6d (w0 : World) (a b p : Nat) (x y z p1 q r : Value) (w : World) : Prop := w.cell? ⟨a, 0, none⟩ = some x ∧ w.cell? ⟨a, 1, none⟩ = some y ∧ w.cell? ⟨a, 2, none⟩ = some z ∧ w.cell? ⟨b, p, none⟩ = some p1 ∧ w.cell? ⟨b, p + 1, none⟩ = some q ∧ w.cell? ⟨b, p + 2, none⟩ = some r ∧ C3 w a x y z ∧ Below w0.heap.size w0 w
theorem H6d.drew {w0 w : World} {a b p : Nat} {x y z p1 q r : Value} (h : H6d w0 a b p x y z p1 q r w) : H6d w0 a b p x y z p1 q r w.drew := ⟨h.1, h.2.1, h.2.2.1, h.2.2.2.1, h.2.2.2.2.1, h.2.2.2.2.2.1, h.2.2.2.2.2.2.1, h.2.2.2.2.2.2.2.drew⟩
theorem H6d.call {w0 w w1 : World} {a b p : Nat} {x y z p1 q r : Value} (hb : Below w.heap.size w w1) (h : H6d w0 a b p x y z p1 q r w) : H6d w0 a b p x y z p1 q r w1 :=
  ⟨(hb.cell (World.block_lt_of_cell? w _ h.1)).trans h.1, (hb.cell (World.block_lt_of_cell? w _ h.2.1)).trans h.2.1, (hb.cell (World.block_lt_of_cell? w _ h.2.2.1)).trans h.2.2.1, (hb.cell (World.block_lt_of_cell? w _ h.2.2.2.1)).trans h.2.2.2.1, (hb.cell (World.block_lt_of_cell? w _ h.2.2.2.2.1)).trans h.2.2.2.2.1, (hb.cell (World.block_lt_of_cell? w _ h.2.2.2.2.2.1)).trans h.2.2.2.2.2.1, h.2.2.2.2.2.2.1.call hb, h.2.2.2.2.2.2.2.trans (hb.mono h.2.2.2.2.2.2.2.size)⟩
set_option maxRecDepth 20000 in
set_option maxHeartbeats 2000000 in
theorem sTableOk_c (a1 a2 a3 c1 c2 c3 : Nat) (vs fs : List ByteArray) (rs : List (ByteArray × Int)) (b c : Nat) (es : List ER) (w : World) (hv : Strs w (some ⟨a1, 0, none⟩) vs) (hf : Strs w (some ⟨a2, 0, none⟩) fs) (hr : Arrs w (some ⟨a3, 0, none⟩) rs)
    (hz : ∀ x ∈ namesOf vs fs rs, x.size ≤ 1048576) (he : OwnE w b es) :
    Calls Tryz.prog 53 #[.agg #[.slice (some ⟨a1, 0, none⟩) vs.length c1, .slice (some ⟨a2, 0, none⟩) fs.length c2, .slice (some ⟨a3, 0, none⟩) rs.length c3], .slice (some ⟨b, 0, none⟩) es.length c] w fun e w' => e = .returned (.bool (tabB vs fs rs es)) ∧ Below w.heap.size w w' := by
  have HV := hide hv
  have HF := hide hf
  have HR := hide hr
  have HE := hide he
  have hl := he.1
  have HT := hide (C3.new w (.slice (some ⟨a1, 0, none⟩) vs.length c1) (.slice (some ⟨a2, 0, none⟩) fs.length c2) (.slice (some ⟨a3, 0, none⟩) rs.length c3) 40)
  have HK := hide ((Below.refl _ w).alloc (Nat.le_refl _) (Obj.cells #[.slice (some ⟨a1, 0, none⟩) vs.length c1, .slice (some ⟨a2, 0, none⟩) fs.length c2, .slice (some ⟨a3, 0, none⟩) rs.length c3] 40))
  obtain ⟨r, hr'⟩ : ∃ r, r = tabB vs fs rs es := ⟨_, rfl⟩
  rw [← hr']
  have HRR := hide hr'
  clear hv hf hr he hr'
  by_cases hd : declB vs fs rs = true
  · have dl := declB_len hd
    obtain ⟨N, hN⟩ : ∃ N, N = 2 ^ fs.length := ⟨_, rfl⟩
    have HN := hide hN
    have hl' : (es.length : Int) ≤ 1048576 := by omega
    obtain ⟨L, hL⟩ : ∃ L, L = es.length := ⟨_, rfl⟩
    have HL := hide hL
    rw [← hL] at hl hl' ⊢
    clear hN hL
    by_cases hs : L = N
    · subst hs
      go_enter Tryz.func53, Tryz.ntmps53
      go_wp2_with fail
      generalize w.alloc (Obj.cells #[.slice (some ⟨a1, 0, none⟩) vs.length c1, .slice (some ⟨a2, 0, none⟩) fs.length c2, .slice (some ⟨a3, 0, none⟩) rs.length c3] 40) = u at HT HK ⊢
      refine (sDeclOk_c a1 a2 a3 c1 c2 c3 vs fs rs _ ((unhide HV).call (unhide HK)) ((unhide HF).call (unhide HK)) ((unhide HR).call (unhide HK)) hz).mono ?_
      rintro e u1 ⟨rfl, k1⟩
      rw [hd]
      have HT := hide ((unhide HT).call k1)
      have HK := hide ((unhide HK).trans (k1.mono (unhide HK).size))
      clear k1
      have t0 := (unhide HT).1
      have t1 := (unhide HT).2.1
      have t2 := (unhide HT).2.2.1
      go_wp2_with fail
      refine (l8Size_c _ _ _ fs.length c2 dl.2.1 _).mono ?_
      rintro e u2 ⟨rfl, k2⟩
      rw [← unhide HN]
      have HT := hide ((unhide HT).call k2)
      have HK := hide ((unhide HK).trans (k2.mono (unhide HK).size))
      clear k2 t0 t1 t2
      go_wp2
      go_loopw [5] (fun i wr => ∃ k : Nat, k ≤ L ∧ i = .int .i64 k ∧ (∀ j, (hj : j < es.length) → j < k → fitE vs.length rs.length es[j] = true) ∧ C3 wr w.heap.size (.slice (some ⟨a1, 0, none⟩) vs.length c1) (.slice (some ⟨a2, 0, none⟩) fs.length c2) (.slice (some ⟨a3, 0, none⟩) rs.length c3) ∧ Below w.heap.size w wr) (fun i _ => L - (intOf i).toNat)
      case atStart => exact ⟨0, Nat.zero_le _, rfl, fun j _ h0 => by omega, unhide HT, unhide HK⟩
      case round =>
        clear HT HK
        obtain ⟨k, hk, rfl, ha, ht, hb⟩ := hrel
        have HA := hide ha
        have HT := hide ht
        have HB := hide hb
        clear ha
        by_cases hlt : k < L
        · have hk' : k < es.length := by rw [← unhide HL]; exact hlt
          obtain ⟨g1, g2, _, _, d1, d2, d3, i1, i2⟩ := ((unhide HE).call hb).2.1 k hk'
          have I1 := hide i1.1
          have I2 := hide i2.1
          have EF : Hid (fitE vs.length rs.length es[k] = fitB vs.length rs.length es[k].1 es[k].2.1 es[k].2.2) := by unfold Hid; rfl
          clear i1 i2
          generalize es[k].1 = li at d1 EF
          generalize es[k].2.1 = xs at d2 I1 EF
          generalize es[k].2.2 = ys at d3 I2 EF
          have hk6 : H6d w w.heap.size b (k * 3) (.slice (some ⟨a1, 0, none⟩) vs.length c1) (.slice (some ⟨a2, 0, none⟩) fs.length c2) (.slice (some ⟨a3, 0, none⟩) rs.length c3) (.bool li) (.slice (some ⟨g1, 0, none⟩) xs.length xs.length) (.slice (some ⟨g2, 0, none⟩) ys.length ys.length) wr := ⟨ht.1, ht.2.1, ht.2.2.1, d1, d2, d3, ht, hb⟩
          have EB : Hid (envB vs fs rs li xs ys = fitB vs.length rs.length li xs ys) := by unfold Hid envB; rw [hd, Bool.true_and]
          clear hb ht
          go_wp2
          go_region_held3 (H6d w w.heap.size b (k * 3) (.slice (some ⟨a1, 0, none⟩) vs.length c1) (.slice (some ⟨a2, 0, none⟩) fs.length c2) (.slice (some ⟨a3, 0, none⟩) rs.length c3) (.bool li) (.slice (some ⟨g1, 0, none⟩) xs.length xs.length) (.slice (some ⟨g2, 0, none⟩) ys.length ys.length))
            (first | exact H6d.drew (by assumption) | exact hq)
            (first | (go_at_call 74; refine (sEnvOk_c a1 a2 a3 c1 c2 c3 vs fs rs li g1 g2 xs.length ys.length xs ys _ ((unhide HV).call (unhide HB).drew) ((unhide HF).call (unhide HB).drew) ((unhide HR).call (unhide HB).drew) hz ((unhide I1).call (bdrew wr 1)) ((unhide I2).call (bdrew wr 1))).mono ?_; rintro e w1 ⟨rfl, bq⟩; have hq := H6d.call bq (H6d.drew hk6)))
          have HQ := hide hq.2.2.2.2.2.2.2
          have HQT := hide hq.2.2.2.2.2.2.1
          rw [unhide EB]
          clear hq hk6 d1 d2 d3 EB
          rename_i hHeld
          clear hHeld
          cases hfit : fitB vs.length rs.length li xs ys
          · have E : Hid (r = false) := by unfold Hid; rw [unhide HRR]; exact tabB_bad k hk' (by rw [unhide EF, hfit])
            go_wp2
            go_ret
            exact ⟨by rw [unhide E]; rfl, unhide HQ⟩
          · have E : Hid (fitE vs.length rs.length es[k] = true) := by unfold Hid; rw [unhide EF, hfit]
            clear EF
            go_wp2
            go_roundw
            case rel => exact ⟨k + 1, by omega, by go_num, fun j hj h1 => by
              by_cases e : j = k
              · subst e; exact unhide E
              · exact unhide HA j hj (by omega), unhide HQT, unhide HQ⟩
            case measure => simp [intOf]; omega
        · obtain rfl : k = L := by omega
          have E : Hid (r = true) := by unfold Hid; rw [unhide HRR]; exact tabB_all hd (by rw [← unhide HL]; exact unhide HN) (fun j hj => unhide HA j hj (by rw [unhide HL]; exact hj))
          clear hb ht
          go_wp2
          go_ret
          exact ⟨by rw [unhide E]; rfl, unhide HB⟩
    · have E : Hid (r = false) := by
        unfold Hid; rw [unhide HRR]; unfold tabB
        have : decide (es.length = 2 ^ fs.length) = false := decide_eq_false (by rw [← unhide HL, ← unhide HN]; exact hs)
        rw [this, Bool.false_and, Bool.and_false]
      have g : ((L : Int) != (N : Int)) = true := by simp; omega
      go_enter Tryz.func53, Tryz.ntmps53
      go_wp2_with fail
      generalize w.alloc (Obj.cells #[.slice (some ⟨a1, 0, none⟩) vs.length c1, .slice (some ⟨a2, 0, none⟩) fs.length c2, .slice (some ⟨a3, 0, none⟩) rs.length c3] 40) = u at HT HK ⊢
      refine (sDeclOk_c a1 a2 a3 c1 c2 c3 vs fs rs _ ((unhide HV).call (unhide HK)) ((unhide HF).call (unhide HK)) ((unhide HR).call (unhide HK)) hz).mono ?_
      rintro e u1 ⟨rfl, k1⟩
      rw [hd]
      have HT := hide ((unhide HT).call k1)
      have HK := hide ((unhide HK).trans (k1.mono (unhide HK).size))
      clear k1
      have t0 := (unhide HT).1
      have t1 := (unhide HT).2.1
      have t2 := (unhide HT).2.2.1
      go_wp2_with fail
      refine (l8Size_c _ _ _ fs.length c2 dl.2.1 _).mono ?_
      rintro e u2 ⟨rfl, k2⟩
      rw [← unhide HN]
      have HK := hide ((unhide HK).trans (k2.mono (unhide HK).size))
      clear k2 t0 t1 t2
      go_wp2
      go_ret
      exact ⟨by rw [unhide E]; rfl, unhide HK⟩
  · have hd' : declB vs fs rs = false := by simpa using hd
    have E : Hid (r = false) := by unfold Hid; rw [unhide HRR]; unfold tabB; rw [hd', Bool.false_and]
    go_enter Tryz.func53, Tryz.ntmps53
    go_wp2_with fail
    generalize w.alloc (Obj.cells #[.slice (some ⟨a1, 0, none⟩) vs.length c1, .slice (some ⟨a2, 0, none⟩) fs.length c2, .slice (some ⟨a3, 0, none⟩) rs.length c3] 40) = u at HT HK ⊢
    refine (sDeclOk_c a1 a2 a3 c1 c2 c3 vs fs rs _ ((unhide HV).call (unhide HK)) ((unhide HF).call (unhide HK)) ((unhide HR).call (unhide HK)) hz).mono ?_
    rintro e u1 ⟨rfl, k1⟩
    rw [hd']
    have HK := hide ((unhide HK).trans (k1.mono (unhide HK).size))
    clear k1
    go_wp2
    go_ret
    exact ⟨by rw [unhide E]; rfl, unhide HK⟩
set_option maxRecDepth 20000 in
set_option maxHeartbeats 2000000 in
theorem iTableOk_c (a1 a2 a3 c1 c2 c3 : Nat) (vs fs : List ByteArray) (rs : List (ByteArray × Int)) (b c : Nat) (es : List ER) (w : World) (hw : KW w) (hv : Strs w (some ⟨a1, 0, none⟩) vs) (hf : Strs w (some ⟨a2, 0, none⟩) fs) (hr : Arrs w (some ⟨a3, 0, none⟩) rs)
    (hz : ∀ x ∈ namesOf vs fs rs, x.size ≤ 1048576) (he : OwnE w b es) :
    Calls Tryz.prog 61 #[.agg #[.slice (some ⟨a1, 0, none⟩) vs.length c1, .slice (some ⟨a2, 0, none⟩) fs.length c2, .slice (some ⟨a3, 0, none⟩) rs.length c3], .slice (some ⟨b, 0, none⟩) es.length c] w fun e w' => e = .returned (.bool (tabB vs fs rs es)) ∧ Below w.heap.size w w' := by
  have HW := hide hw
  have HV := hide hv
  have HF := hide hf
  have HR := hide hr
  have HE := hide he
  have hl := he.1
  have HT := hide (C3.new w (.slice (some ⟨a1, 0, none⟩) vs.length c1) (.slice (some ⟨a2, 0, none⟩) fs.length c2) (.slice (some ⟨a3, 0, none⟩) rs.length c3) 40)
  have HK := hide ((Below.refl _ w).alloc (Nat.le_refl _) (Obj.cells #[.slice (some ⟨a1, 0, none⟩) vs.length c1, .slice (some ⟨a2, 0, none⟩) fs.length c2, .slice (some ⟨a3, 0, none⟩) rs.length c3] 40))
  obtain ⟨r, hr'⟩ : ∃ r, r = tabB vs fs rs es := ⟨_, rfl⟩
  rw [← hr']
  have HRR := hide hr'
  clear hv hf hr he hr' hw
  by_cases hd : declB vs fs rs = true
  · have dl := declB_len hd
    obtain ⟨N, hN⟩ : ∃ N, N = 2 ^ fs.length := ⟨_, rfl⟩
    have HN := hide hN
    have hl' : (es.length : Int) ≤ 1048576 := by omega
    obtain ⟨L, hL⟩ : ∃ L, L = es.length := ⟨_, rfl⟩
    have HL := hide hL
    rw [← hL] at hl hl' ⊢
    clear hN hL
    by_cases hs : L = N
    · subst hs
      go_enter Tryz.func61, Tryz.ntmps61
      go_wp2_with fail
      generalize w.alloc (Obj.cells #[.slice (some ⟨a1, 0, none⟩) vs.length c1, .slice (some ⟨a2, 0, none⟩) fs.length c2, .slice (some ⟨a3, 0, none⟩) rs.length c3] 40) = u at HT HK ⊢
      refine (iDeclOk_c a1 a2 a3 c1 c2 c3 vs fs rs _ ((unhide HW).call (unhide HK)) ((unhide HV).call (unhide HK)) ((unhide HF).call (unhide HK)) ((unhide HR).call (unhide HK)) hz).mono ?_
      rintro e u1 ⟨rfl, k1⟩
      rw [hd]
      have HT := hide ((unhide HT).call k1)
      have HK := hide ((unhide HK).trans (k1.mono (unhide HK).size))
      clear k1
      have t0 := (unhide HT).1
      have t1 := (unhide HT).2.1
      have t2 := (unhide HT).2.2.1
      go_wp2_with fail
      refine (leafCount_c _ _ _ fs.length c2 dl.2.1 _).mono ?_
      rintro e u2 ⟨rfl, k2⟩
      rw [← unhide HN]
      have HT := hide ((unhide HT).call k2)
      have HK := hide ((unhide HK).trans (k2.mono (unhide HK).size))
      clear k2 t0 t1 t2
      go_wp2
      go_loopw [19] (fun i wr => ∃ k : Nat, k ≤ L ∧ i = .int .i64 k ∧ (∀ j, (hj : j < es.length) → j < k → fitE vs.length rs.length es[j] = true) ∧ C3 wr w.heap.size (.slice (some ⟨a1, 0, none⟩) vs.length c1) (.slice (some ⟨a2, 0, none⟩) fs.length c2) (.slice (some ⟨a3, 0, none⟩) rs.length c3) ∧ Below w.heap.size w wr) (fun i _ => L - (intOf i).toNat)
      case atStart => exact ⟨0, Nat.zero_le _, rfl, fun j _ h0 => by omega, unhide HT, unhide HK⟩
      case round =>
        clear HT HK
        obtain ⟨k, hk, rfl, ha, ht, hb⟩ := hrel
        have HA := hide ha
        have HT := hide ht
        have HB := hide hb
        clear ha
        by_cases hlt : k < L
        · have hk' : k < es.length := by rw [← unhide HL]; exact hlt
          obtain ⟨g1, g2, _, _, d1, d2, d3, i1, i2⟩ := ((unhide HE).call hb).2.1 k hk'
          have I1 := hide i1.1
          have I2 := hide i2.1
          have EF : Hid (fitE vs.length rs.length es[k] = fitB vs.length rs.length es[k].1 es[k].2.1 es[k].2.2) := by unfold Hid; rfl
          clear i1 i2
          generalize es[k].1 = li at d1 EF
          generalize es[k].2.1 = xs at d2 I1 EF
          generalize es[k].2.2 = ys at d3 I2 EF
          have HE3 : Hid (∀ t, C3 (wr.alloc (Obj.cells #[.bool li, .slice (some ⟨g1, 0, none⟩) xs.length xs.length, .slice (some ⟨g2, 0, none⟩) ys.length ys.length] t)) wr.heap.size (.bool li) (.slice (some ⟨g1, 0, none⟩) xs.length xs.length) (.slice (some ⟨g2, 0, none⟩) ys.length ys.length)) := fun t => C3.new wr _ _ _ t
          have HT3 : Hid (∀ o, C3 (wr.alloc o) w.heap.size (.slice (some ⟨a1, 0, none⟩) vs.length c1) (.slice (some ⟨a2, 0, none⟩) fs.length c2) (.slice (some ⟨a3, 0, none⟩) rs.length c3)) := fun o => ht.alloc o
          have HB3 : Hid (∀ o, Below wr.heap.size wr (wr.alloc o)) := fun o => (Below.refl _ _).alloc (Nat.le_refl _) o
          clear hb ht
          go_wp2_with fail
          refine (fits_c _ _ a1 a2 a3 c1 c2 c3 vs fs rs li g1 g2 xs.length ys.length xs ys _ (unhide HT3 _) (unhide HE3 _) dl.1 dl.2.2 ((unhide I1).call (unhide HB3 _)) ((unhide I2).call (unhide HB3 _))).mono ?_
          rintro e w1 ⟨rfl, bq⟩
          have HQT := hide ((unhide HT3 _).call bq)
          have HQ := hide (((unhide HB).trans ((unhide HB3 _).mono (unhide HB).size)).trans (bq.mono (Nat.le_trans (unhide HB).size (unhide HB3 _).size)))
          clear bq d1 d2 d3 HT3 HE3 HB3
          cases hfit : fitB vs.length rs.length li xs ys
          · have E : Hid (r = false) := by unfold Hid; rw [unhide HRR]; exact tabB_bad k hk' (by rw [unhide EF, hfit])
            go_wp2
            go_ret
            exact ⟨by rw [unhide E]; rfl, unhide HQ⟩
          · have E : Hid (fitE vs.length rs.length es[k] = true) := by unfold Hid; rw [unhide EF, hfit]
            clear EF
            go_wp2
            go_roundw
            case rel => exact ⟨k + 1, by omega, by go_num, fun j hj h1 => by
              by_cases e : j = k
              · subst e; exact unhide E
              · exact unhide HA j hj (by omega), unhide HQT, unhide HQ⟩
            case measure => simp [intOf]; omega
        · obtain rfl : k = L := by omega
          have E : Hid (r = true) := by unfold Hid; rw [unhide HRR]; exact tabB_all hd (by rw [← unhide HL]; exact unhide HN) (fun j hj => unhide HA j hj (by rw [unhide HL]; exact hj))
          clear hb ht
          go_wp2
          go_ret
          exact ⟨by rw [unhide E]; rfl, unhide HB⟩
    · have E : Hid (r = false) := by
        unfold Hid; rw [unhide HRR]; unfold tabB
        have : decide (es.length = 2 ^ fs.length) = false := decide_eq_false (by rw [← unhide HL, ← unhide HN]; exact hs)
        rw [this, Bool.false_and, Bool.and_false]
      have g : ((L : Int) != (N : Int)) = true := by simp; omega
      go_enter Tryz.func61, Tryz.ntmps61
      go_wp2_with fail
      generalize w.alloc (Obj.cells #[.slice (some ⟨a1, 0, none⟩) vs.length c1, .slice (some ⟨a2, 0, none⟩) fs.length c2, .slice (some ⟨a3, 0, none⟩) rs.length c3] 40) = u at HT HK ⊢
      refine (iDeclOk_c a1 a2 a3 c1 c2 c3 vs fs rs _ ((unhide HW).call (unhide HK)) ((unhide HV).call (unhide HK)) ((unhide HF).call (unhide HK)) ((unhide HR).call (unhide HK)) hz).mono ?_
      rintro e u1 ⟨rfl, k1⟩
      rw [hd]
      have HT := hide ((unhide HT).call k1)
      have HK := hide ((unhide HK).trans (k1.mono (unhide HK).size))
      clear k1
      have t0 := (unhide HT).1
      have t1 := (unhide HT).2.1
      have t2 := (unhide HT).2.2.1
      go_wp2_with fail
      refine (leafCount_c _ _ _ fs.length c2 dl.2.1 _).mono ?_
      rintro e u2 ⟨rfl, k2⟩
      rw [← unhide HN]
      have HK := hide ((unhide HK).trans (k2.mono (unhide HK).size))
      clear k2 t0 t1 t2
      go_wp2
      go_ret
      exact ⟨by rw [unhide E]; rfl, unhide HK⟩
  · have hd' : declB vs fs rs = false := by simpa using hd
    have E : Hid (r = false) := by unfold Hid; rw [unhide HRR]; unfold tabB; rw [hd', Bool.false_and]
    go_enter Tryz.func61, Tryz.ntmps61
    go_wp2_with fail
    generalize w.alloc (Obj.cells #[.slice (some ⟨a1, 0, none⟩) vs.length c1, .slice (some ⟨a2, 0, none⟩) fs.length c2, .slice (some ⟨a3, 0, none⟩) rs.length c3] 40) = u at HT HK ⊢
    refine (iDeclOk_c a1 a2 a3 c1 c2 c3 vs fs rs _ ((unhide HW).call (unhide HK)) ((unhide HV).call (unhide HK)) ((unhide HF).call (unhide HK)) ((unhide HR).call (unhide HK)) hz).mono ?_
    rintro e u1 ⟨rfl, k1⟩
    rw [hd']
    have HK := hide ((unhide HK).trans (k1.mono (unhide HK).size))
    clear k1
    go_wp2
    go_ret
    exact ⟨by rw [unhide E]; rfl, unhide HK⟩
end Go.Proofs.YthldhjifnpfmiaaGreatDoor
