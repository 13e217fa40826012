/- Whether parts are right. -/
import Derived.Test.YthldhjifnpfmiaaGreatDoorParD
namespace Go.Proofs.YthldhjifnpfmiaaGreatDoor
open Go.RowKit
set_option linter.unusedSimpArgs false
set_option linter.unusedVariables false

theorem bel_of_eq {u v : World} (h : v = u) : Below u.heap.size u v := by rw [h]; exact Below.refl _ _
def liveB (es : List ER) : Bool := es.any (·.1)
theorem liveB_at {es : List ER} (k : Nat) (hk : k < es.length) (h : es[k].1 = true) : liveB es = true := by
  unfold liveB
  rw [List.any_eq_true]
  exact ⟨es[k], List.getElem_mem hk, h⟩
theorem liveB_none {es : List ER} (h : ∀ k, (hk : k < es.length) → es[k].1 = false) : liveB es = false := by
  unfold liveB
  rw [List.any_eq_false]
  intro x hx
  obtain ⟨i, hi, rfl⟩ := List.getElem_of_mem hx
  simp [h i hi]
def partOk (vs fs : List ByteArray) (rs : List (ByteArray × Int)) (p : PR) : Bool := tokB p.1 && (tabB vs fs rs p.2 && liveB p.2)
def risAt (ps : List PR) (k : Nat) : Bool := k == 0 || decide (tokC (ps.getD (k - 1) ([], [])).1 (ps.getD k ([], [])).1 < 0)
def okAt (vs fs : List ByteArray) (rs : List (ByteArray × Int)) (ps : List PR) (k : Nat) : Bool := partOk vs fs rs (ps.getD k ([], [])) && risAt ps k
def partsB (vs fs : List ByteArray) (rs : List (ByteArray × Int)) (ps : List PR) : Bool := declB vs fs rs && (decide (ps.length ≤ 100) && (List.range ps.length).all (okAt vs fs rs ps))
theorem partsB_bad {vs fs : List ByteArray} {rs : List (ByteArray × Int)} {ps : List PR} (k : Nat) (hk : k < ps.length) (h : okAt vs fs rs ps k = false) : partsB vs fs rs ps = false := by
  unfold partsB
  have : (List.range ps.length).all (okAt vs fs rs ps) = false := by
    rw [List.all_eq_false]
    exact ⟨k, List.mem_range.2 hk, by simp [h]⟩
  rw [this, Bool.and_false, Bool.and_false]
theorem partsB_all {vs fs : List ByteArray} {rs : List (ByteArray × Int)} {ps : List PR} (hd : declB vs fs rs = true) (hl : ps.length ≤ 100) (h : ∀ k, k < ps.length → okAt vs fs rs ps k = true) : partsB vs fs rs ps = true := by
  unfold partsB
  have : (List.range ps.length).all (okAt vs fs rs ps) = true := by
    rw [List.all_eq_true]
    intro x hx
    exact h x (List.mem_range.1 hx)
  rw [this, hd]
  simp [hl]
theorem getD_at (ps : List PR) (k : Nat) (hk : k < ps.length) : ps.getD k ([], []) = ps[k] := by rw [List.getD_eq_getElem?_getD, List.getElem?_eq_getElem hk, Option.getD_some]
theorem okAt_0 {vs fs : List ByteArray} {rs : List (ByteArray × Int)} {ps : List PR} (hk : 0 < ps.length) : okAt vs fs rs ps 0 = partOk vs fs rs ps[0] := by unfold okAt risAt; rw [getD_at _ _ hk]; simp
theorem okAt_s {vs fs : List ByteArray} {rs : List (ByteArray × Int)} {ps : List PR} (j : Nat) (hk : j + 1 < ps.length) : okAt vs fs rs ps (j + 1) = (partOk vs fs rs ps[j + 1] && decide (tokC (ps[j]'(by omega)).1 ps[j + 1].1 < 0)) := by
  unfold okAt risAt
  rw [Nat.add_sub_cancel, getD_at _ _ hk, getD_at _ j (by omega)]
  simp
theorem okAt_part {vs fs : List ByteArray} {rs : List (ByteArray × Int)} {ps : List PR} {k : Nat} (hk : k < ps.length) (h : okAt vs fs rs ps k = true) : partOk vs fs rs ps[k] = true := by
  unfold okAt at h
  rw [getD_at _ _ hk, Bool.and_eq_true] at h
  exact h.1
set_option maxHeartbeats 1000000 in
theorem l9Live_c (b c : Nat) (es : List ER) (w : World) (h : OwnE w b es) : Calls Tryz.prog 54 #[.slice (some ⟨b, 0, none⟩) es.length c] w fun e w' => e = .returned (.bool (liveB es)) ∧ w' = w := by
  have hl := h.1
  obtain ⟨r, hr⟩ : ∃ r, r = liveB es := ⟨_, rfl⟩
  rw [← hr]
  have HR := hide hr
  have HE := hide h
  obtain ⟨L, hL⟩ : ∃ L, L = es.length := ⟨_, rfl⟩
  have HL := hide hL
  rw [← hL] at hl ⊢
  have hl' : (L : Int) ≤ 1048576 := by omega
  clear h hr hL
  go_enter Tryz.func54, Tryz.ntmps54
  go_wp2
  go_loopw [3] (fun i wr => ∃ k : Nat, k ≤ L ∧ i = .int .i64 k ∧ (∀ j, (hj : j < es.length) → j < k → es[j].1 = false) ∧ wr = w) (fun i _ => L - (intOf i).toNat)
  case atStart => exact ⟨0, Nat.zero_le _, rfl, fun j _ h0 => by omega, rfl⟩
  case round =>
    obtain ⟨k, hk, rfl, ha, rfl⟩ := hrel
    have HA := hide ha
    clear ha
    by_cases hlt : k < L
    · have hk' : k < es.length := by rw [← unhide HL]; exact hlt
      obtain ⟨g1, g2, _, _, d1, _⟩ := (unhide HE).2.1 k hk'
      cases hq : es[k].1
      · rw [hq] at d1
        have HQ := hide hq
        clear hq
        go_wp2
        go_roundw
        case rel => exact ⟨k + 1, by omega, by go_num, fun j hj h1 => by
          by_cases e : j = k
          · subst e; exact unhide HQ
          · exact unhide HA j hj (by omega), trivial⟩
        case measure => simp [intOf]; omega
      · rw [hq] at d1
        have E : Hid (r = true) := by unfold Hid; rw [unhide HR]; exact liveB_at k hk' hq
        clear hq
        go_wp2
        go_ret
        exact ⟨by rw [unhide E]; rfl, rfl⟩
    · obtain rfl : k = L := by omega
      have E : Hid (r = false) := by unfold Hid; rw [unhide HR]; exact liveB_none (fun j hj => unhide HA j hj (by rw [unhide HL]; exact hj))
      go_wp2
      go_ret
      exact ⟨by rw [unhide E]; rfl, rfl⟩
theorem live1_c (li : Bool) (x y : Value) (w : World) : Calls Tryz.prog 82 #[.agg #[.bool li, x, y]] w fun e w' => e = .returned (.bool li) ∧ Below w.heap.size w w' := by
  go_enter Tryz.func82, Tryz.ntmps82
  go_wp2
  go_ret
  exact ⟨rfl, (Below.refl _ _).alloc (Nat.le_refl _) _⟩
set_option maxHeartbeats 1000000 in
theorem idxf_c (b c : Nat) (es : List ER) (w : World) (h : OwnE w b es) : Calls Tryz.prog 99 #[.slice (some ⟨b, 0, none⟩) es.length c, .func (.func 82) #[] #[]] w fun e w' => ∃ n : Int, e = .returned (.int .i64 n) ∧ decide (0 ≤ n) = liveB es ∧ Below w.heap.size w w' := by
  have hl := h.1
  obtain ⟨r, hr⟩ : ∃ r, r = liveB es := ⟨_, rfl⟩
  rw [← hr]
  have HR := hide hr
  have HE := hide h
  obtain ⟨L, hL⟩ : ∃ L, L = es.length := ⟨_, rfl⟩
  have HL := hide hL
  rw [← hL] at hl ⊢
  have hl' : (L : Int) ≤ 1048576 := by omega
  clear h hr hL
  go_enter Tryz.func99, Tryz.ntmps99
  go_wp2
  go_loopw [8] (fun i wr => ∃ k : Nat, k ≤ L ∧ i = .int .i64 k ∧ (∀ j, (hj : j < es.length) → j < k → es[j].1 = false) ∧ Below w.heap.size w wr) (fun i _ => L - (intOf i).toNat)
  case atStart => exact ⟨0, Nat.zero_le _, rfl, fun j _ h0 => by omega, Below.refl _ _⟩
  case round =>
    obtain ⟨k, hk, rfl, ha, hb⟩ := hrel
    have HA := hide ha
    have HB := hide hb
    clear ha
    by_cases hlt : k < L
    · have hk' : k < es.length := by rw [← unhide HL]; exact hlt
      obtain ⟨g1, g2, _, _, d1, d2, d3, _⟩ := ((unhide HE).call hb).2.1 k hk'
      clear hb
      cases hq : es[k].1
      · rw [hq] at d1
        have HQ := hide hq
        clear hq
        go_wp2_with fail
        refine (live1_c _ _ _ _).mono ?_
        rintro e w2 ⟨rfl, b2⟩
        have B2 := hide ((unhide HB).trans (b2.mono (unhide HB).size))
        clear b2 d1 d2 d3
        go_wp2
        go_roundw
        case rel => exact ⟨k + 1, by omega, by go_num, fun j hj h1 => by
          by_cases e : j = k
          · subst e; exact unhide HQ
          · exact unhide HA j hj (by omega), unhide B2⟩
        case measure => simp [intOf]; omega
      · rw [hq] at d1
        have E : Hid (r = true) := by unfold Hid; rw [unhide HR]; exact liveB_at k hk' hq
        clear hq
        go_wp2_with fail
        refine (live1_c _ _ _ _).mono ?_
        rintro e w2 ⟨rfl, b2⟩
        have B2 := hide ((unhide HB).trans (b2.mono (unhide HB).size))
        clear b2 d1 d2 d3
        go_wp2
        go_ret
        exact ⟨k, rfl, by rw [unhide E]; exact decide_eq_true (by omega), unhide B2⟩
    · obtain rfl : k = L := by omega
      have E : Hid (r = false) := by unfold Hid; rw [unhide HR]; exact liveB_none (fun j hj => unhide HA j hj (by rw [unhide HL]; exact hj))
      clear hb
      go_wp2
      go_ret
      exact ⟨-1, rfl, by rw [unhide E]; rfl, unhide HB⟩
theorem someLive_c (b c : Nat) (es : List ER) (w : World) (h : OwnE w b es) : Calls Tryz.prog 62 #[.slice (some ⟨b, 0, none⟩) es.length c] w fun e w' => e = .returned (.bool (liveB es)) ∧ Below w.heap.size w w' := by
  have HE := hide h
  clear h
  have cf : Calls Tryz.prog 81 #[.slice (some ⟨b, 0, none⟩) es.length c, .func (.func 82) #[] #[]] w fun e w' => e = .returned (.bool (liveB es)) ∧ Below w.heap.size w w' := by
    go_enter Tryz.func81, Tryz.ntmps81
    go_wp2_with fail
    refine (idxf_c b c es _ (unhide HE)).mono ?_
    rintro e w1 ⟨n, rfl, hn, b1⟩
    have HN := hide hn
    have B1 := hide b1
    clear hn b1
    go_wp2
    go_ret
    exact ⟨by rw [← unhide HN]; rfl, unhide B1⟩
  have CF := hide cf
  clear cf
  go_enter Tryz.func62, Tryz.ntmps62
  go_wp2_with fail
  refine (unhide CF).mono ?_
  rintro e w1 ⟨rfl, b1⟩
  have B1 := hide b1
  clear b1
  go_wp2
  go_ret
  exact ⟨rfl, unhide B1⟩
/-- A struct of three cells and three more cells; below all is as it was. -/
@[reducible] def M6 (w0 : World) (a : Nat) (x y z : Value) (p q s : Addr) (u v t : Value) (W : World) : Prop := W.cell? ⟨a, 0, none⟩ = some x ∧ W.cell? ⟨a, 1, none⟩ = some y ∧ W.cell? ⟨a, 2, none⟩ = some z ∧ W.cell? p = some u ∧ W.cell? q = some v ∧ W.cell? s = some t ∧ Hid (C3 W a x y z ∧ Below w0.heap.size w0 W)
theorem M6.of {w0 W : World} {a : Nat} {x y z : Value} {p q s : Addr} {u v t : Value} (h : C3 W a x y z) (k : Below w0.heap.size w0 W) (h1 : W.cell? p = some u) (h2 : W.cell? q = some v) (h3 : W.cell? s = some t) : M6 w0 a x y z p q s u v t W := ⟨h.1, h.2.1, h.2.2.1, h1, h2, h3, h, k⟩
theorem M6.c3 {w0 W : World} {a : Nat} {x y z : Value} {p q s : Addr} {u v t : Value} (h : M6 w0 a x y z p q s u v t W) : C3 W a x y z := (unhide h.2.2.2.2.2.2).1
theorem M6.bel {w0 W : World} {a : Nat} {x y z : Value} {p q s : Addr} {u v t : Value} (h : M6 w0 a x y z p q s u v t W) : Below w0.heap.size w0 W := (unhide h.2.2.2.2.2.2).2
theorem M6.call {w0 W V : World} {a : Nat} {x y z : Value} {p q s : Addr} {u v t : Value} (h : M6 w0 a x y z p q s u v t W) (hb : Below W.heap.size W V) : M6 w0 a x y z p q s u v t V :=
  M6.of (h.c3.call hb) (h.bel.trans (hb.mono h.bel.size)) ((hb.cell (World.block_lt_of_cell? W _ h.2.2.2.1)).trans h.2.2.2.1) ((hb.cell (World.block_lt_of_cell? W _ h.2.2.2.2.1)).trans h.2.2.2.2.1) ((hb.cell (World.block_lt_of_cell? W _ h.2.2.2.2.2.1)).trans h.2.2.2.2.2.1)
end Go.Proofs.YthldhjifnpfmiaaGreatDoor
