/- Tables, rows of bounds: the laws' copies of them. -/
import Derived.Test.YthldhjifnpfmiaaGreatDoorEnvH
namespace Go.Proofs.YthldhjifnpfmiaaGreatDoor
open Go.RowKit
set_option linter.unusedSimpArgs false

/-- Bounds: whether they are live, and both rows of intervals. -/
abbrev ER := Bool × List (Int × Int) × List (Int × Int)
/-- So many bounds at an address. -/
def Envs (w : World) (a : Option Addr) (es : List ER) : Prop :=
  es.length ≤ 1048576 ∧ (es.length = 0 ∨ ∃ cb co, a = some ⟨cb, co, none⟩ ∧ ∀ i, (h : i < es.length) → ∃ xa xc ya yc, w.cell? ⟨cb, co + i * 3, none⟩ = some (.bool es[i].1) ∧ w.cell? ⟨cb, co + i * 3 + 1, none⟩ = some (.slice xa es[i].2.1.length xc) ∧ w.cell? ⟨cb, co + i * 3 + 2, none⟩ = some (.slice ya es[i].2.2.length yc) ∧ Ivs w xa es[i].2.1 ∧ Ivs w ya es[i].2.2)
theorem Envs.call {w w1 : World} {a : Option Addr} {es : List ER} (h : Envs w a es) (hb : Below w.heap.size w w1) : Envs w1 a es := by
  refine ⟨h.1, ?_⟩
  rcases h.2 with h0 | ⟨cb, co, rfl, hc⟩
  · exact .inl h0
  · refine .inr ⟨cb, co, rfl, fun i hi => ?_⟩
    obtain ⟨xa, xc, ya, yc, h1, h2, h3, h4, h5⟩ := hc i hi
    exact ⟨xa, xc, ya, yc, (hb.cell (World.block_lt_of_cell? w _ h1)).trans h1, (hb.cell (World.block_lt_of_cell? w _ h2)).trans h2, (hb.cell (World.block_lt_of_cell? w _ h3)).trans h3, h4.call hb, h5.call hb⟩
/-- What one place of a row of the call's own holds. -/
def AtE (w : World) (g i : Nat) (e : ER) : Prop := ∃ g1 g2, g < g1 ∧ g < g2 ∧ w.cell? ⟨g, i * 3, none⟩ = some (.bool e.1) ∧ w.cell? ⟨g, i * 3 + 1, none⟩ = some (.slice (some ⟨g1, 0, none⟩) e.2.1.length e.2.1.length) ∧ w.cell? ⟨g, i * 3 + 2, none⟩ = some (.slice (some ⟨g2, 0, none⟩) e.2.2.length e.2.2.length) ∧ OwnV w g1 e.2.1 ∧ OwnV w g2 e.2.2
theorem AtE.call {w w1 : World} {g i : Nat} {e : ER} (h : AtE w g i e) (hb : Below w.heap.size w w1) : AtE w1 g i e := by
  obtain ⟨g1, g2, q1, q2, c1, c2, c3, o1, o2⟩ := h
  exact ⟨g1, g2, q1, q2, (hb.cell (World.block_lt_of_cell? w _ c1)).trans c1, (hb.cell (World.block_lt_of_cell? w _ c2)).trans c2, (hb.cell (World.block_lt_of_cell? w _ c3)).trans c3, o1.call hb, o2.call hb⟩
/-- A row of bounds of the call's own. -/
def OwnE (w : World) (b : Nat) (es : List ER) : Prop := es.length ≤ 1048576 ∧ (∀ i, (h : i < es.length) → AtE w b i es[i]) ∧ (∀ o, w.frozen? ⟨b, o, none⟩ = false) ∧ b < w.heap.size
theorem OwnE.call {w w1 : World} {b : Nat} {es : List ER} (h : OwnE w b es) (hb : Below w.heap.size w w1) : OwnE w1 b es :=
  ⟨h.1, fun i hi => (h.2.1 i hi).call hb, fun o => (hb.frozen (by exact h.2.2.2)).trans (h.2.2.1 o), Nat.lt_of_lt_of_le h.2.2.2 hb.size⟩
theorem OwnE.envs {w : World} {b : Nat} {es : List ER} (h : OwnE w b es) : Envs w (some ⟨b, 0, none⟩) es :=
  ⟨h.1, .inr ⟨b, 0, rfl, fun i hi => by
    obtain ⟨g1, g2, _, _, c1, c2, c3, o1, o2⟩ := h.2.1 i hi
    rw [Nat.zero_add]
    exact ⟨_, _, _, _, c1, c2, c3, o1.1, o2.1⟩⟩⟩
/-- A row of bounds of the call's own that is filled up to k. -/
def FillE (w : World) (g : Nat) (es : List ER) (k : Nat) (wr : World) : Prop :=
  (∀ i, (h : i < es.length) → i < k → AtE wr g i es[i]) ∧ (∀ i, i < es.length → k ≤ i → wr.cell? ⟨g, i * 3, none⟩ = some (.bool false) ∧ wr.cell? ⟨g, i * 3 + 1, none⟩ = some (.slice none 0 0) ∧ wr.cell? ⟨g, i * 3 + 2, none⟩ = some (.slice none 0 0)) ∧ (∀ o, wr.frozen? ⟨g, o, none⟩ = false) ∧ g < wr.heap.size ∧ w.heap.size ≤ g ∧ Below w.heap.size w wr
theorem FillE.call {w wr w1 : World} {g k : Nat} {es : List ER} (h : FillE w g es k wr) (hb : Below wr.heap.size wr w1) : FillE w g es k w1 := by
  obtain ⟨h1, h2, h3, h4, h5, h6⟩ := h
  have c : ∀ o, w1.cell? ⟨g, o, none⟩ = wr.cell? ⟨g, o, none⟩ := fun o => hb.cell (by exact h4)
  exact ⟨fun i hi hk => (h1 i hi hk).call hb, fun i hi hk => by rw [c, c, c]; exact h2 i hi hk, fun o => (hb.frozen (by exact h4)).trans (h3 o), Nat.lt_of_lt_of_le h4 hb.size, h5, h6.trans (hb.mono h6.size)⟩
theorem FillE.step {w wr : World} {g k g1 g2 : Nat} {es : List ER} (h : FillE w g es k wr) (hk : k < es.length) (q1 : g < g1) (q2 : g < g2) (o1 : OwnV wr g1 es[k].2.1) (o2 : OwnV wr g2 es[k].2.2) :
    FillE w g es (k + 1) (((wr.setCell ⟨g, k * 3, none⟩ (.bool es[k].1)).setCell ⟨g, k * 3 + 1, none⟩ (.slice (some ⟨g1, 0, none⟩) es[k].2.1.length es[k].2.1.length)).setCell ⟨g, k * 3 + 2, none⟩ (.slice (some ⟨g2, 0, none⟩) es[k].2.2.length es[k].2.2.length)) := by
  obtain ⟨h1, h2, h3, h4, h5, h6⟩ := h
  have c := h2 k hk (Nat.le_refl _)
  generalize hv0 : (.bool es[k].1 : Value) = v0
  generalize hv1 : (.slice (some ⟨g1, 0, none⟩) es[k].2.1.length es[k].2.1.length : Value) = v1
  generalize hv2 : (.slice (some ⟨g2, 0, none⟩) es[k].2.2.length es[k].2.2.length : Value) = v2
  have o : ∀ j, j ≠ k * 3 → j ≠ k * 3 + 1 → j ≠ k * 3 + 2 → (((wr.setCell ⟨g, k * 3, none⟩ v0).setCell ⟨g, k * 3 + 1, none⟩ v1).setCell ⟨g, k * 3 + 2, none⟩ v2).cell? ⟨g, j, none⟩ = wr.cell? ⟨g, j, none⟩ := fun j j1 j2 j3 => by
    rw [World.cell?_setCell_other _ _ _ _ (fun hh => j3 (congrArg Addr.off hh).symm), World.cell?_setCell_other _ _ _ _ (fun hh => j2 (congrArg Addr.off hh).symm), World.cell?_setCell_other _ _ _ _ (fun hh => j1 (congrArg Addr.off hh).symm)]
  have ow : ∀ {b : Nat} {xs : List (Int × Int)}, g < b → OwnV wr b xs → OwnV (((wr.setCell ⟨g, k * 3, none⟩ v0).setCell ⟨g, k * 3 + 1, none⟩ v1).setCell ⟨g, k * 3 + 2, none⟩ v2) b xs := fun hb ho => ((ho.set (by omega)).set (by omega)).set (by omega)
  refine ⟨fun i hi hik => ?_, fun i hi hik => ?_, fun o => by rw [World.frozen?_setCell, World.frozen?_setCell, World.frozen?_setCell]; exact h3 o, by simpa [World.setCell] using h4, h5, ((h6.setCell (by exact h5) _).setCell (by exact h5) _).setCell (by exact h5) _⟩
  · by_cases e : i = k
    · subst e
      refine ⟨g1, g2, q1, q2, ?_, ?_, ?_, ow q1 o1, ow q2 o2⟩
      · rw [World.cell?_setCell_other _ _ _ _ (fun hh => by have hh' : i * 3 + 2 = i * 3 := congrArg Addr.off hh; omega), World.cell?_setCell_other _ _ _ _ (fun hh => by have hh' : i * 3 + 1 = i * 3 := congrArg Addr.off hh; omega), hv0]
        exact World.cell?_setCell_same _ _ _ c.1
      · rw [World.cell?_setCell_other _ _ _ _ (fun hh => by have hh' : i * 3 + 2 = i * 3 + 1 := congrArg Addr.off hh; omega), hv1]
        refine World.cell?_setCell_same _ _ _ (?_ : _ = some (.slice none 0 0))
        rw [World.cell?_setCell_other _ _ _ _ (fun hh => by have hh' : i * 3 = i * 3 + 1 := congrArg Addr.off hh; omega)]
        exact c.2.1
      · rw [hv2]
        refine World.cell?_setCell_same _ _ _ (?_ : _ = some (.slice none 0 0))
        rw [World.cell?_setCell_other _ _ _ _ (fun hh => by have hh' : i * 3 + 1 = i * 3 + 2 := congrArg Addr.off hh; omega), World.cell?_setCell_other _ _ _ _ (fun hh => by have hh' : i * 3 = i * 3 + 2 := congrArg Addr.off hh; omega)]
        exact c.2.2
    · obtain ⟨f1, f2, p1, p2, d1, d2, d3, u1, u2⟩ := h1 i hi (by omega)
      exact ⟨f1, f2, p1, p2, by rw [o _ (by omega) (by omega) (by omega)]; exact d1, by rw [o _ (by omega) (by omega) (by omega)]; exact d2, by rw [o _ (by omega) (by omega) (by omega)]; exact d3, ow p1 u1, ow p2 u2⟩
  · rw [o _ (by omega) (by omega) (by omega), o _ (by omega) (by omega) (by omega), o _ (by omega) (by omega) (by omega)]
    exact h2 i hi (by omega)
theorem envInfo : (Tryz.prog.info? 69).map (fun i => (i.zero, i.size, i.bytes)) = some (some (.agg #[.bool false, .slice none 0 0, .slice none 0 0]), 3, 56) := by kernel_rfl
theorem made3 (n k : Nat) (a b c : Value) (h : k < n) : (madeCells #[a, b, c] (n * 3)).toList[k * 3]? = some a ∧ (madeCells #[a, b, c] (n * 3)).toList[k * 3 + 1]? = some b ∧ (madeCells #[a, b, c] (n * 3)).toList[k * 3 + 2]? = some c := by
  have e1 : k * 3 % 3 = 0 := by omega
  have e2 : (k * 3 + 1) % 3 = 1 := by omega
  have e3 : (k * 3 + 2) % 3 = 2 := by omega
  have h1 : k * 3 < n * 3 := by omega
  have h2 : k * 3 + 1 < n * 3 := by omega
  have h3 : k * 3 + 2 < n * 3 := by omega
  refine ⟨?_, ?_, ?_⟩
  · simp [madeCells, h1, e1]
  · simp [madeCells, h2, e2]
  · simp [madeCells, h3, e3]
theorem makeE_c (n : Nat) (hn : n ≤ 1048576) (es : List ER) (hz : es.length = n) (w : World) : ∃ w1, (Instr.makeSlice 70 (.int .i64 (n : Int)) (.int .i64 (n : Int))).run Tryz.prog w = .ok (.slice (some ⟨w.heap.size, 0, none⟩) n n) w1 ∧ FillE w w.heap.size es 0 w1 := by
  obtain ⟨inf, hi, hz0, hz1, hz2⟩ := info_parts envInfo
  obtain ⟨w1, hr, ho, hg⟩ := run_make_full (P := Tryz.prog) w w.heap.size 70 69 inf (.agg #[.bool false, .slice none 0 0, .slice none 0 0]) 3 Tryz.underlying70 hi hz0 hz1 .i64 .i64 n (by rw [hz2]; omega) (by unfold maxLen; omega) (Nat.le_refl _)
  refine ⟨w1, hr, fun i hi h0 => by omega, fun i hi _ => ?_, fun o => ho.frozenAt o, (ho.lt w.heap.size rfl).2, Nat.le_refl _, (Below.refl _ _).grown hg (Nat.le_refl _) (fun j hj => by simp at hj)⟩
  have m := made3 n i (.bool false) (.slice none 0 0) (.slice none 0 0) (by omega)
  rw [ho.cellAt (i * 3) (by omega), ho.cellAt (i * 3 + 1) (by omega), ho.cellAt (i * 3 + 2) (by omega)]
  exact m
set_option maxHeartbeats 1000000 in
theorem toEnvS_c (a : Option Addr) (cap : Nat) (es : List ER) (w : World) (h : Envs w a es) : Calls Tryz.prog 59 #[.slice a es.length cap] w fun e w' => e = .returned (.slice (some ⟨w.heap.size, 0, none⟩) es.length es.length) ∧ OwnE w' w.heap.size es ∧ Below w.heap.size w w' := by
  have hl := h.1
  obtain ⟨L, hL⟩ : ∃ L, L = es.length := ⟨_, rfl⟩
  rw [← hL] at hl ⊢
  have HL := hide hL
  have HH := hide h
  obtain ⟨w1, hmk, hf⟩ := makeE_c L hl es hL.symm w
  have HF := hide hf
  have hl' : (L : Int) ≤ 1048576 := by omega
  clear h hL hf
  go_enter Tryz.func59, Tryz.ntmps59
  go_wp2
  go_loopw [4] (fun i wr => ∃ k : Nat, k ≤ L ∧ i = .int .i64 k ∧ FillE w w.heap.size es k wr) (fun i _ => L - (intOf i).toNat)
  case atStart => exact ⟨0, Nat.zero_le _, rfl, unhide HF⟩
  case round =>
    clear HF hmk
    obtain ⟨k, hk, rfl, hf⟩ := hrel
    by_cases hlt : k < L
    · have hk' : k < es.length := by rw [← unhide HL]; exact hlt
      rcases ((unhide HH).call hf.2.2.2.2.2).2 with h0 | ⟨cb, co, rfl, hc⟩
      · omega
      obtain ⟨xa, xc, ya, yc, d1, d2, d3, i1, i2⟩ := hc k hk'
      have I1 := hide i1
      have I2 := hide i2
      have HQ := hide hf
      clear hc hf i1 i2
      go_wp2_with fail
      refine (toEnv_c es[k].1 xa ya xc yc es[k].2.1 es[k].2.2 _ (unhide I1) (unhide I2)).mono ?_
      rintro e w2 ⟨b1, b2, rfl, o1, o2, ⟨l1, l2⟩, hb⟩
      have hf := (unhide HQ).call hb
      have HS := hide (hf.step hk' (Nat.lt_of_lt_of_le (unhide HQ).2.2.2.1 l1) (Nat.lt_trans (Nat.lt_of_lt_of_le (unhide HQ).2.2.2.1 l1) l2) o1 o2)
      have c1 := (hf.2.1 k hk' (Nat.le_refl _)).1
      have c2 := (hf.2.1 k hk' (Nat.le_refl _)).2.1
      have c3 := (hf.2.1 k hk' (Nat.le_refl _)).2.2
      have f1 := hf.2.2.1 (k * 3)
      have f2 := hf.2.2.1 (k * 3 + 1)
      have f3 := hf.2.2.1 (k * 3 + 2)
      clear hf hb o1 o2 l1 l2 HQ d1 d2 d3
      go_wp2
      go_roundw
      case rel => exact ⟨k + 1, by omega, by go_num, unhide HS⟩
      case measure => simp [intOf]; omega
    · obtain rfl : k = L := by omega
      have HF := hide hf
      clear hf
      go_wp2
      go_ret
      exact ⟨rfl, ⟨by rw [← unhide HL]; exact hl, fun i hi => (unhide HF).1 i hi (by rw [unhide HL]; exact hi), (unhide HF).2.2.1, (unhide HF).2.2.2.1⟩, (unhide HF).2.2.2.2.2⟩
end Go.Proofs.YthldhjifnpfmiaaGreatDoor
