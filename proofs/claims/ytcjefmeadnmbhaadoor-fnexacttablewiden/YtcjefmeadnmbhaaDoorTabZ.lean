/- Texts that go together: TabC, TabD, TabE, TabL. -/
import Derived.Test.YtcjefmeadnmbhaaDoorEnvH
import Derived.Test.YtcjefmeadnmbhaaDoorLawE
import Derived.Deep.DeepCutAuto
/- Tables, rows of bounds: the laws' copies of them. -/
namespace Go.Proofs.YtcjefmeadnmbhaaDoor
open Go.RowKit
set_option linter.unusedSimpArgs false

/-- Bounds: whether they are live, and both rows of intervals. -/
abbrev ER := Bool × List (Int × Int) × List (Int × Int)
/-- So many bounds at an address. -/
def Envs (w : World) (a : Option Addr) (es : List ER) : Prop :=
  es.length ≤ 1048576 ∧ (es.length = 0 ∨ ∃ cb co, a = some ⟨cb, co, none⟩ ∧ ∀ i, (h : i < es.length) → ∃ xa xc ya yc, w.cell? ⟨cb, co + i * 3, none⟩ = some (.bool es[i].1) ∧ w.cell? ⟨cb, co + i * 3 + 1, none⟩ = some (.slice xa es[i].2.1.length xc) ∧ w.cell? ⟨cb, co + i * 3 + 2, none⟩ = some (.slice ya es[i].2.2.length yc) ∧ Ivs w xa es[i].2.1 ∧ Ivs w ya es[i].2.2)
theorem Envs.call {w w1 : World} {a : Option Addr} {es : List ER} (h : Envs w a es) (hb : Below w.heap.size w w1) : Envs w1 a es := by
  refine ⟨h.1, ?_⟩
  rcases h.2 with h0 | ⟨cb, co, rfl, hc⟩
  · exact .inl h0
  · refine .inr ⟨cb, co, rfl, fun i hi => ?_⟩
    obtain ⟨xa, xc, ya, yc, h1, h2, h3, h4, h5⟩ := hc i hi
    exact ⟨xa, xc, ya, yc, (hb.cell (World.block_lt_of_cell? w _ h1)).trans h1, (hb.cell (World.block_lt_of_cell? w _ h2)).trans h2, (hb.cell (World.block_lt_of_cell? w _ h3)).trans h3, h4.call hb, h5.call hb⟩
/-- What one place of a row of the call's own holds. -/
def AtE (w : World) (g i : Nat) (e : ER) : Prop := ∃ g1 g2, g < g1 ∧ g < g2 ∧ w.cell? ⟨g, i * 3, none⟩ = some (.bool e.1) ∧ w.cell? ⟨g, i * 3 + 1, none⟩ = some (.slice (some ⟨g1, 0, none⟩) e.2.1.length e.2.1.length) ∧ w.cell? ⟨g, i * 3 + 2, none⟩ = some (.slice (some ⟨g2, 0, none⟩) e.2.2.length e.2.2.length) ∧ OwnV w g1 e.2.1 ∧ OwnV w g2 e.2.2
theorem AtE.call {w w1 : World} {g i : Nat} {e : ER} (h : AtE w g i e) (hb : Below w.heap.size w w1) : AtE w1 g i e := by
  obtain ⟨g1, g2, q1, q2, c1, c2, c3, o1, o2⟩ := h
  exact ⟨g1, g2, q1, q2, (hb.cell (World.block_lt_of_cell? w _ c1)).trans c1, (hb.cell (World.block_lt_of_cell? w _ c2)).trans c2, (hb.cell (World.block_lt_of_cell? w _ c3)).trans c3, o1.call hb, o2.call hb⟩
/-- A row of bounds of the call's own. -/
def OwnE (w : World) (b : Nat) (es : List ER) : Prop := es.length ≤ 1048576 ∧ (∀ i, (h : i < es.length) → AtE w b i es[i]) ∧ (∀ o, w.frozen? ⟨b, o, none⟩ = false) ∧ b < w.heap.size
theorem OwnE.call {w w1 : World} {b : Nat} {es : List ER} (h : OwnE w b es) (hb : Below w.heap.size w w1) : OwnE w1 b es :=
  ⟨h.1, fun i hi => (h.2.1 i hi).call hb, fun o => (hb.frozen (by exact h.2.2.2)).trans (h.2.2.1 o), Nat.lt_of_lt_of_le h.2.2.2 hb.size⟩
theorem OwnE.envs {w : World} {b : Nat} {es : List ER} (h : OwnE w b es) : Envs w (some ⟨b, 0, none⟩) es :=
  ⟨h.1, .inr ⟨b, 0, rfl, fun i hi => by
    obtain ⟨g1, g2, _, _, c1, c2, c3, o1, o2⟩ := h.2.1 i hi
    rw [Nat.zero_add]
    exact ⟨_, _, _, _, c1, c2, c3, o1.1, o2.1⟩⟩⟩
/-- A row of bounds of the call's own that is filled up to k. -/
def FillE (w : World) (g : Nat) (es : List ER) (k : Nat) (wr : World) : Prop :=
  (∀ i, (h : i < es.length) → i < k → AtE wr g i es[i]) ∧ (∀ i, i < es.length → k ≤ i → wr.cell? ⟨g, i * 3, none⟩ = some (.bool false) ∧ wr.cell? ⟨g, i * 3 + 1, none⟩ = some (.slice none 0 0) ∧ wr.cell? ⟨g, i * 3 + 2, none⟩ = some (.slice none 0 0)) ∧ (∀ o, wr.frozen? ⟨g, o, none⟩ = false) ∧ g < wr.heap.size ∧ w.heap.size ≤ g ∧ Below w.heap.size w wr
theorem FillE.call {w wr w1 : World} {g k : Nat} {es : List ER} (h : FillE w g es k wr) (hb : Below wr.heap.size wr w1) : FillE w g es k w1 := by
  obtain ⟨h1, h2, h3, h4, h5, h6⟩ := h
  have c : ∀ o, w1.cell? ⟨g, o, none⟩ = wr.cell? ⟨g, o, none⟩ := fun o => hb.cell (by exact h4)
  exact ⟨fun i hi hk => (h1 i hi hk).call hb, fun i hi hk => by rw [c, c, c]; exact h2 i hi hk, fun o => (hb.frozen (by exact h4)).trans (h3 o), Nat.lt_of_lt_of_le h4 hb.size, h5, h6.trans (hb.mono h6.size)⟩
theorem FillE.step {w wr : World} {g k g1 g2 : Nat} {es : List ER} (h : FillE w g es k wr) (hk : k < es.length) (q1 : g < g1) (q2 : g < g2) (o1 : OwnV wr g1 es[k].2.1) (o2 : OwnV wr g2 es[k].2.2) :
    FillE w g es (k + 1) (((wr.setCell ⟨g, k * 3, none⟩ (.bool es[k].1)).setCell ⟨g, k * 3 + 1, none⟩ (.slice (some ⟨g1, 0, none⟩) es[k].2.1.length es[k].2.1.length)).setCell ⟨g, k * 3 + 2, none⟩ (.slice (some ⟨g2, 0, none⟩) es[k].2.2.length es[k].2.2.length)) := by
  obtain ⟨h1, h2, h3, h4, h5, h6⟩ := h
  have c := h2 k hk (Nat.le_refl _)
  generalize hv0 : (.bool es[k].1 : Value) = v0
  generalize hv1 : (.slice (some ⟨g1, 0, none⟩) es[k].2.1.length es[k].2.1.length : Value) = v1
  generalize hv2 : (.slice (some ⟨g2, 0, none⟩) es[k].2.2.length es[k].2.2.length : Value) = v2
  have o : ∀ j, j ≠ k * 3 → j ≠ k * 3 + 1 → j ≠ k * 3 + 2 → (((wr.setCell ⟨g, k * 3, none⟩ v0).setCell ⟨g, k * 3 + 1, none⟩ v1).setCell ⟨g, k * 3 + 2, none⟩ v2).cell? ⟨g, j, none⟩ = wr.cell? ⟨g, j, none⟩ := fun j j1 j2 j3 => by
    rw [World.cell?_setCell_other _ _ _ _ (fun hh => j3 (congrArg Addr.off hh).symm), World.cell?_setCell_other _ _ _ _ (fun hh => j2 (congrArg Addr.off hh).symm), World.cell?_setCell_other _ _ _ _ (fun hh => j1 (congrArg Addr.off hh).symm)]
  have ow : ∀ {b : Nat} {xs : List (Int × Int)}, g < b → OwnV wr b xs → OwnV (((wr.setCell ⟨g, k * 3, none⟩ v0).setCell ⟨g, k * 3 + 1, none⟩ v1).setCell ⟨g, k * 3 + 2, none⟩ v2) b xs := fun hb ho => ((ho.set (by omega)).set (by omega)).set (by omega)
  refine ⟨fun i hi hik => ?_, fun i hi hik => ?_, fun o => by rw [World.frozen?_setCell, World.frozen?_setCell, World.frozen?_setCell]; exact h3 o, by simpa [World.setCell] using h4, h5, ((h6.setCell (by exact h5) _).setCell (by exact h5) _).setCell (by exact h5) _⟩
  · by_cases e : i = k
    · subst e
      refine ⟨g1, g2, q1, q2, ?_, ?_, ?_, ow q1 o1, ow q2 o2⟩
      · rw [World.cell?_setCell_other _ _ _ _ (fun hh => by have hh' : i * 3 + 2 = i * 3 := congrArg Addr.off hh; omega), World.cell?_setCell_other _ _ _ _ (fun hh => by have hh' : i * 3 + 1 = i * 3 := congrArg Addr.off hh; omega), hv0]
        exact World.cell?_setCell_same _ _ _ c.1
      · rw [World.cell?_setCell_other _ _ _ _ (fun hh => by have hh' : i * 3 + 2 = i * 3 + 1 := congrArg Addr.off hh; omega), hv1]
        refine World.cell?_setCell_same _ _ _ (?_ : _ = some (.slice none 0 0))
        rw [World.cell?_setCell_other _ _ _ _ (fun hh => by have hh' : i * 3 = i * 3 + 1 := congrArg Addr.off hh; omega)]
        exact c.2.1
      · rw [hv2]
        refine World.cell?_setCell_same _ _ _ (?_ : _ = some (.slice none 0 0))
        rw [World.cell?_setCell_other _ _ _ _ (fun hh => by have hh' : i * 3 + 1 = i * 3 + 2 := congrArg Addr.off hh; omega), World.cell?_setCell_other _ _ _ _ (fun hh => by have hh' : i * 3 = i * 3 + 2 := congrArg Addr.off hh; omega)]
        exact c.2.2
    · obtain ⟨f1, f2, p1, p2, d1, d2, d3, u1, u2⟩ := h1 i hi (by omega)
      exact ⟨f1, f2, p1, p2, by rw [o _ (by omega) (by omega) (by omega)]; exact d1, by rw [o _ (by omega) (by omega) (by omega)]; exact d2, by rw [o _ (by omega) (by omega) (by omega)]; exact d3, ow p1 u1, ow p2 u2⟩
  · rw [o _ (by omega) (by omega) (by omega), o _ (by omega) (by omega) (by omega), o _ (by omega) (by omega) (by omega)]
    exact h2 i hi (by omega)
theorem envInfo : (Tryd.prog.info? 44).map (fun i => (i.zero, i.size, i.bytes)) = some (some (.agg #[.bool false, .slice none 0 0, .slice none 0 0]), 3, 56) := by kernel_rfl
theorem made3 (n k : Nat) (a b c : Value) (h : k < n) : (madeCells #[a, b, c] (n * 3)).toList[k * 3]? = some a ∧ (madeCells #[a, b, c] (n * 3)).toList[k * 3 + 1]? = some b ∧ (madeCells #[a, b, c] (n * 3)).toList[k * 3 + 2]? = some c := by
  have e1 : k * 3 % 3 = 0 := by omega
  have e2 : (k * 3 + 1) % 3 = 1 := by omega
  have e3 : (k * 3 + 2) % 3 = 2 := by omega
  have h1 : k * 3 < n * 3 := by omega
  have h2 : k * 3 + 1 < n * 3 := by omega
  have h3 : k * 3 + 2 < n * 3 := by omega
  refine ⟨?_, ?_, ?_⟩
  · simp [madeCells, h1, e1]
  · simp [madeCells, h2, e2]
  · simp [madeCells, h3, e3]
theorem makeE_c (n : Nat) (hn : n ≤ 1048576) (es : List ER) (hz : es.length = n) (w : World) : ∃ w1, (Instr.makeSlice 54 (.int .i64 (n : Int)) (.int .i64 (n : Int))).run Tryd.prog w = .ok (.slice (some ⟨w.heap.size, 0, none⟩) n n) w1 ∧ FillE w w.heap.size es 0 w1 := by
  obtain ⟨inf, hi, hz0, hz1, hz2⟩ := info_parts envInfo
  obtain ⟨w1, hr, ho, hg⟩ := run_make_full (P := Tryd.prog) w w.heap.size 54 44 inf (.agg #[.bool false, .slice none 0 0, .slice none 0 0]) 3 Tryd.underlying54 hi hz0 hz1 .i64 .i64 n (by rw [hz2]; omega) (by unfold maxLen; omega) (Nat.le_refl _)
  refine ⟨w1, hr, fun i hi h0 => by omega, fun i hi _ => ?_, fun o => ho.frozenAt o, (ho.lt w.heap.size rfl).2, Nat.le_refl _, (Below.refl _ _).grown hg (Nat.le_refl _) (fun j hj => by simp at hj)⟩
  have m := made3 n i (.bool false) (.slice none 0 0) (.slice none 0 0) (by omega)
  rw [ho.cellAt (i * 3) (by omega), ho.cellAt (i * 3 + 1) (by omega), ho.cellAt (i * 3 + 2) (by omega)]
  exact m
set_option maxHeartbeats 1000000 in
theorem toEnvS_c (a : Option Addr) (cap : Nat) (es : List ER) (w : World) (h : Envs w a es) : Calls Tryd.prog 19 #[.slice a es.length cap] w fun e w' => e = .returned (.slice (some ⟨w.heap.size, 0, none⟩) es.length es.length) ∧ OwnE w' w.heap.size es ∧ Below w.heap.size w w' := by
  have hl := h.1
  obtain ⟨L, hL⟩ : ∃ L, L = es.length := ⟨_, rfl⟩
  rw [← hL] at hl ⊢
  have HL := hide hL
  have HH := hide h
  obtain ⟨w1, hmk, hf⟩ := makeE_c L hl es hL.symm w
  have HF := hide hf
  have hl' : (L : Int) ≤ 1048576 := by omega
  clear h hL hf
  go_enter Tryd.func19, Tryd.ntmps19
  go_wp2
  go_loopw [4] (fun i wr => ∃ k : Nat, k ≤ L ∧ i = .int .i64 k ∧ FillE w w.heap.size es k wr) (fun i _ => L - (intOf i).toNat)
  case atStart => exact ⟨0, Nat.zero_le _, rfl, unhide HF⟩
  case round =>
    clear HF hmk
    obtain ⟨k, hk, rfl, hf⟩ := hrel
    by_cases hlt : k < L
    · have hk' : k < es.length := by rw [← unhide HL]; exact hlt
      rcases ((unhide HH).call hf.2.2.2.2.2).2 with h0 | ⟨cb, co, rfl, hc⟩
      · omega
      obtain ⟨xa, xc, ya, yc, d1, d2, d3, i1, i2⟩ := hc k hk'
      have I1 := hide i1
      have I2 := hide i2
      have HQ := hide hf
      clear hc hf i1 i2
      go_wp2_with fail
      refine (toEnv_c es[k].1 xa ya xc yc es[k].2.1 es[k].2.2 _ (unhide I1) (unhide I2)).mono ?_
      rintro e w2 ⟨b1, b2, rfl, o1, o2, ⟨l1, l2⟩, hb⟩
      have hf := (unhide HQ).call hb
      have HS := hide (hf.step hk' (Nat.lt_of_lt_of_le (unhide HQ).2.2.2.1 l1) (Nat.lt_trans (Nat.lt_of_lt_of_le (unhide HQ).2.2.2.1 l1) l2) o1 o2)
      have c1 := (hf.2.1 k hk' (Nat.le_refl _)).1
      have c2 := (hf.2.1 k hk' (Nat.le_refl _)).2.1
      have c3 := (hf.2.1 k hk' (Nat.le_refl _)).2.2
      have f1 := hf.2.2.1 (k * 3)
      have f2 := hf.2.2.1 (k * 3 + 1)
      have f3 := hf.2.2.1 (k * 3 + 2)
      clear hf hb o1 o2 l1 l2 HQ d1 d2 d3
      go_wp2
      go_roundw
      case rel => exact ⟨k + 1, by omega, by go_num, unhide HS⟩
      case measure => simp [intOf]; omega
    · obtain rfl : k = L := by omega
      have HF := hide hf
      clear hf
      go_wp2
      go_ret
      exact ⟨rfl, ⟨by rw [← unhide HL]; exact hl, fun i hi => (unhide HF).1 i hi (by rw [unhide HL]; exact hi), (unhide HF).2.2.1, (unhide HF).2.2.2.1⟩, (unhide HF).2.2.2.2.2⟩
end Go.Proofs.YtcjefmeadnmbhaaDoor

/- Tables: their sizes, how they are compared; whether one is right. -/
namespace Go.Proofs.YtcjefmeadnmbhaaDoor
open Go.RowKit
set_option linter.unusedSimpArgs false

def szEL : List ER → Int → Int
  | [], l => l
  | e :: es, l => if szE e.2.1.length e.2.2.length l < 0 then -1 else szEL es (szE e.2.1.length e.2.2.length l)
theorem szEL_drop (es : List ER) (k : Nat) (h : k < es.length) (l : Int) : szEL (es.drop k) l = if szE es[k].2.1.length es[k].2.2.length l < 0 then -1 else szEL (es.drop (k + 1)) (szE es[k].2.1.length es[k].2.2.length l) := by
  rw [List.drop_eq_getElem_cons h]; rfl
def szES (es : List ER) (l : Int) : Int := if l - es.length < 0 then -1 else szEL es (l - es.length)
theorem szEL_le : ∀ (es : List ER) (l : Int), 0 ≤ l → szEL es l ≤ l ∧ -1 ≤ szEL es l ∧ (0 ≤ szEL es l → ∀ i, (h : i < es.length) → (es[i].2.1.length : Int) ≤ l ∧ (es[i].2.2.length : Int) ≤ l)
  | [], l, h => ⟨Int.le_refl _, by show -1 ≤ l; omega, fun _ i hi => by cases hi⟩
  | e :: es, l, h => by
    have q := szE_le e.2.1.length e.2.2.length l h
    by_cases g : szE e.2.1.length e.2.2.length l < 0
    · have E : szEL (e :: es) l = -1 := if_pos g
      rw [E]
      exact ⟨by omega, by omega, fun k => by omega⟩
    · have E : szEL (e :: es) l = szEL es (szE e.2.1.length e.2.2.length l) := if_neg g
      rw [E]
      have r := szEL_le es _ (show 0 ≤ szE e.2.1.length e.2.2.length l by omega)
      refine ⟨by omega, r.2.1, fun k i hi => ?_⟩
      cases i with
      | zero => exact q.2.2 (by omega)
      | succ i =>
        have := r.2.2 k i (by simpa using hi)
        rw [List.getElem_cons_succ]
        omega
theorem szES_le (es : List ER) (l : Int) (h : 0 ≤ l) : szES es l ≤ l ∧ -1 ≤ szES es l ∧ (0 ≤ szES es l → (es.length : Int) ≤ l ∧ ∀ i, (h : i < es.length) → (es[i].2.1.length : Int) ≤ l ∧ (es[i].2.2.length : Int) ≤ l) := by
  unfold szES
  by_cases g : l - es.length < 0
  · rw [if_pos g]
    exact ⟨by omega, by omega, fun k => by omega⟩
  · rw [if_neg g]
    have r := szEL_le es (l - es.length) (by omega)
    refine ⟨by omega, r.2.1, fun k => ⟨by omega, fun i hi => ?_⟩⟩
    have := r.2.2 k i hi
    omega
/-- Rows of bounds of any length that a machine has. -/
def EnvsA (w : World) (a : Option Addr) (es : List ER) : Prop :=
  es.length ≤ 9223372036854775807 ∧ (es.length = 0 ∨ ∃ cb co, a = some ⟨cb, co, none⟩ ∧ ∀ i, (h : i < es.length) → ∃ xa xc ya yc, w.cell? ⟨cb, co + i * 3, none⟩ = some (.bool es[i].1) ∧ w.cell? ⟨cb, co + i * 3 + 1, none⟩ = some (.slice xa es[i].2.1.length xc) ∧ w.cell? ⟨cb, co + i * 3 + 2, none⟩ = some (.slice ya es[i].2.2.length yc) ∧ IvsA w xa es[i].2.1 ∧ IvsA w ya es[i].2.2)
theorem EnvsA.call {w w1 : World} {a : Option Addr} {es : List ER} (h : EnvsA w a es) (hb : Below w.heap.size w w1) : EnvsA w1 a es := by
  refine ⟨h.1, ?_⟩
  rcases h.2 with h0 | ⟨cb, co, rfl, hc⟩
  · exact .inl h0
  · refine .inr ⟨cb, co, rfl, fun i hi => ?_⟩
    obtain ⟨xa, xc, ya, yc, h1, h2, h3, h4, h5⟩ := hc i hi
    exact ⟨xa, xc, ya, yc, (hb.cell (World.block_lt_of_cell? w _ h1)).trans h1, (hb.cell (World.block_lt_of_cell? w _ h2)).trans h2, (hb.cell (World.block_lt_of_cell? w _ h3)).trans h3, h4.call hb, h5.call hb⟩
theorem Envs.ofA {w : World} {a : Option Addr} {es : List ER} (h : EnvsA w a es) (hl : (es.length : Int) ≤ 1048576) (hs : ∀ i, (h : i < es.length) → (es[i].2.1.length : Int) ≤ 1048576 ∧ (es[i].2.2.length : Int) ≤ 1048576) : Envs w a es := by
  refine ⟨by omega, ?_⟩
  rcases h.2 with h0 | ⟨cb, co, rfl, hc⟩
  · exact .inl h0
  · refine .inr ⟨cb, co, rfl, fun i hi => ?_⟩
    obtain ⟨xa, xc, ya, yc, h1, h2, h3, h4, h5⟩ := hc i hi
    exact ⟨xa, xc, ya, yc, h1, h2, h3, Ivs.ofA h4 (hs i hi).1, Ivs.ofA h5 (hs i hi).2⟩
set_option maxHeartbeats 1000000 in
theorem szEnvS_c (a : Option Addr) (cap : Nat) (es : List ER) (left : Int) (h0 : 0 ≤ left) (h1 : left ≤ 1048576) (w : World) (h : EnvsA w a es) : Calls Tryd.prog 17 #[.slice a es.length cap, .int .i64 left] w fun e w' => e = .returned (.int .i64 (szES es left)) ∧ Below w.heap.size w w' := by
  have hl := h.1
  obtain ⟨L, hL⟩ : ∃ L, L = es.length := ⟨_, rfl⟩
  have HZ := hide (show szES es left = if left - L < 0 then -1 else szEL es (left - L) by rw [hL]; unfold szES; rfl)
  rw [← hL] at hl ⊢
  have HL := hide hL
  have HH := hide h
  have hl' : (L : Int) ≤ 9223372036854775807 := by omega
  clear h hL
  by_cases hn : left - L < 0
  · rw [unhide HZ, if_pos hn]
    go_enter Tryd.func17, Tryd.ntmps17
    go_wp2
    go_ret
    exact ⟨rfl, Below.refl _ _⟩
  · rw [unhide HZ, if_neg hn]
    clear HZ
    obtain ⟨R, hR⟩ : ∃ R, R = szEL es (left - L) := ⟨_, rfl⟩
    rw [← hR]
    have HR := hide hR
    clear hR
    go_enter Tryd.func17, Tryd.ntmps17
    go_wp2
    go_loopw [1, 5] (fun l i wr => ∃ (k : Nat) (m : Int), k ≤ L ∧ 0 ≤ m ∧ m ≤ 1048576 ∧ i = .int .i64 k ∧ l = .int .i64 m ∧ szEL (es.drop k) m = R ∧ Below w.heap.size w wr) (fun _ i _ => L - (intOf i).toNat)
    case atStart => exact ⟨0, left - L, Nat.zero_le _, by omega, by omega, rfl, rfl, by rw [List.drop_zero, unhide HR], Below.refl _ _⟩
    case round =>
      obtain ⟨k, m, hk, m0, m1, rfl, rfl, he, hb⟩ := hrel
      have HE := hide he
      have HB := hide hb
      clear he
      by_cases hlt : k < L
      · have hk' : k < es.length := by rw [← unhide HL]; exact hlt
        rcases ((unhide HH).call hb).2 with h0 | ⟨cb, co, rfl, hc⟩
        · omega
        obtain ⟨xa, xc, ya, yc, d1, d2, d3, i1, i2⟩ := hc k hk'
        have s1 := i1.1
        have s2 := i2.1
        have HD := hide (szEL_drop es k hk' m)
        have HW := hide (szE_le es[k].2.1.length es[k].2.2.length m m0)
        clear hc hb i1 i2
        generalize es[k].1 = li at d1
        generalize es[k].2.1.length = x at d2 s1 HD HW
        generalize es[k].2.2.length = y at d3 s2 HD HW
        go_wp2_with fail
        refine (szEnv_c li xa ya xc yc x y m m0 m1 _ s1 s2).mono ?_
        rintro e w2 ⟨rfl, b2⟩
        have B2 := hide ((unhide HB).trans (b2.mono (unhide HB).size))
        clear b2 d1 d2 d3
        have q1 := (unhide HW).1
        have q2 := (unhide HW).2.1
        generalize szE x y m = z at HD q1 q2
        by_cases hm : z < 0
        · have HX := hide (show R = -1 by rw [← unhide HE, unhide HD, if_pos hm])
          go_wp2
          go_ret
          exact ⟨by rw [unhide HX]; rfl, unhide B2⟩
        · have HX := hide (show szEL (es.drop (k + 1)) z = R by rw [← unhide HE, unhide HD, if_neg hm])
          go_wp2
          go_roundw
          case rel => exact ⟨k + 1, z, by omega, by omega, by omega, by go_num, rfl, unhide HX, unhide B2⟩
          case measure => simp [intOf]; omega
      · have HX := hide (show R = m by rw [← unhide HE, List.drop_of_length_le (by have := unhide HL; omega)]; rfl)
        clear hb
        go_wp2
        go_ret
        exact ⟨by rw [unhide HX]; rfl, unhide HB⟩
@[reducible] def H6' (w0 : World) (a b : Nat) (o p : Nat) (x y z p1 q r : Value) (w : World) : Prop := w.cell? ⟨a, o, none⟩ = some x ∧ w.cell? ⟨a, o + 1, none⟩ = some y ∧ w.cell? ⟨a, o + 2, none⟩ = some z ∧ w.cell? ⟨b, p, none⟩ = some p1 ∧ w.cell? ⟨b, p + 1, none⟩ = some q ∧ w.cell? ⟨b, p + 2, none⟩ = some r ∧ Below w0.heap.size w0 w
theorem H6'.drew {w0 w : World} {a b o p : Nat} {x y z p1 q r : Value} (h : H6' w0 a b o p x y z p1 q r w) : H6' w0 a b o p x y z p1 q r w.drew := ⟨h.1, h.2.1, h.2.2.1, h.2.2.2.1, h.2.2.2.2.1, h.2.2.2.2.2.1, h.2.2.2.2.2.2.drew⟩
theorem H6'.call {w0 w w1 : World} {a b o p : Nat} {x y z p1 q r : Value} (hb : Below w.heap.size w w1) (h : H6' w0 a b o p x y z p1 q r w) : H6' w0 a b o p x y z p1 q r w1 :=
  ⟨(hb.cell (World.block_lt_of_cell? w _ h.1)).trans h.1, (hb.cell (World.block_lt_of_cell? w _ h.2.1)).trans h.2.1, (hb.cell (World.block_lt_of_cell? w _ h.2.2.1)).trans h.2.2.1, (hb.cell (World.block_lt_of_cell? w _ h.2.2.2.1)).trans h.2.2.2.1, (hb.cell (World.block_lt_of_cell? w _ h.2.2.2.2.1)).trans h.2.2.2.2.1, (hb.cell (World.block_lt_of_cell? w _ h.2.2.2.2.2.1)).trans h.2.2.2.2.2.1, h.2.2.2.2.2.2.trans (hb.mono h.2.2.2.2.2.2.size)⟩
set_option maxHeartbeats 1000000 in
theorem eqEnvS_c (a b : Option Addr) (c d : Nat) (es : List ER) (w : World) (h : Envs w a es) (h2 : Envs w b es) : Calls Tryd.prog 21 #[.slice a es.length c, .slice b es.length d] w fun e w' => e = .returned (.bool true) ∧ Below w.heap.size w w' := by
  have hl := h.1
  obtain ⟨L, hL⟩ : ∃ L, L = es.length := ⟨_, rfl⟩
  rw [← hL] at hl ⊢
  have HL := hide hL
  have HH := hide h
  have HG := hide h2
  have hl' : (L : Int) ≤ 1048576 := by omega
  clear h h2 hL
  go_enter Tryd.func21, Tryd.ntmps21
  go_wp2
  go_loopw [5] (fun i wr => ∃ k : Nat, k ≤ L ∧ i = .int .i64 k ∧ Below w.heap.size w wr) (fun i _ => L - (intOf i).toNat)
  case atStart => exact ⟨0, Nat.zero_le _, rfl, Below.refl _ _⟩
  case round =>
    obtain ⟨k, hk, rfl, hb⟩ := hrel
    have HB := hide hb
    by_cases hlt : k < L
    · have hk' : k < es.length := by rw [← unhide HL]; exact hlt
      rcases ((unhide HH).call hb).2 with h0 | ⟨cb, co, rfl, hc⟩
      · omega
      rcases ((unhide HG).call hb).2 with h0 | ⟨eb, eo, rfl, hd⟩
      · omega
      obtain ⟨xa, xc, ya, yc, d1, d2, d3, i1, i2⟩ := hc k hk'
      obtain ⟨xa', xc', ya', yc', f1, f2, f3, j1, j2⟩ := hd k hk'
      have I1 := hide i1
      have I2 := hide i2
      have J1 := hide j1
      have J2 := hide j2
      clear hc hd i1 i2 j1 j2
      generalize es[k].1 = li at d1 f1
      generalize es[k].2.1 = xs at d2 f2 I1 J1
      generalize es[k].2.2 = ys at d3 f3 I2 J2
      have hk6 : H6' w cb eb (co + k * 3) (eo + k * 3) (.bool li) (.slice xa xs.length xc) (.slice ya ys.length yc) (.bool li) (.slice xa' xs.length xc') (.slice ya' ys.length yc') wr := ⟨d1, d2, d3, f1, f2, f3, hb⟩
      clear hb
      go_wp2
      go_region_held3 (H6' w cb eb (co + k * 3) (eo + k * 3) (.bool li) (.slice xa xs.length xc) (.slice ya ys.length yc) (.bool li) (.slice xa' xs.length xc') (.slice ya' ys.length yc'))
        (first | exact H6'.drew (by assumption) | exact hq)
        (first | (go_at_call 15; refine (eqEnv_c li xa ya xa' ya' xc yc xc' yc' xs ys _ ((unhide I1).call (bdrew wr 1)) ((unhide I2).call (bdrew wr 1)) ((unhide J1).call (bdrew wr 1)) ((unhide J2).call (bdrew wr 1))).mono ?_; rintro e w1 ⟨rfl, bq⟩; have hq := H6'.call bq (H6'.drew hk6)))
      have HQ := hide hq.2.2.2.2.2.2
      clear hq hk6 d1 d2 d3 f1 f2 f3
      rename_i hHeld
      clear hHeld
      go_wp2
      go_roundw
      case rel => exact ⟨k + 1, by omega, by go_num, unhide HQ⟩
      case measure => simp [intOf]; omega
    · clear hb
      go_wp2
      go_ret
      exact ⟨rfl, unhide HB⟩
end Go.Proofs.YtcjefmeadnmbhaaDoor

/- Whether a table is right. -/
namespace Go.Proofs.YtcjefmeadnmbhaaDoor
open Go.RowKit
set_option linter.unusedSimpArgs false

def fitE (m n : Nat) (e : ER) : Bool := fitB m n e.1 e.2.1 e.2.2
def tabB (vs fs : List ByteArray) (rs : List (ByteArray × Int)) (es : List ER) : Bool := declB vs fs rs && (decide (es.length = 2 ^ fs.length) && es.all (fitE vs.length rs.length))
theorem tabB_bad {vs fs : List ByteArray} {rs : List (ByteArray × Int)} {es : List ER} (k : Nat) (hk : k < es.length) (h : fitE vs.length rs.length es[k] = false) : tabB vs fs rs es = false := by
  unfold tabB
  have : es.all (fitE vs.length rs.length) = false := by
    rw [List.all_eq_false]
    exact ⟨es[k], List.getElem_mem hk, by simp [h]⟩
  rw [this, Bool.and_false, Bool.and_false]
theorem tabB_all {vs fs : List ByteArray} {rs : List (ByteArray × Int)} {es : List ER} (hd : declB vs fs rs = true) (hl : es.length = 2 ^ fs.length) (h : ∀ j, (hj : j < es.length) → fitE vs.length rs.length es[j] = true) : tabB vs fs rs es = true := by
  unfold tabB
  have : es.all (fitE vs.length rs.length) = true := by
    rw [List.all_eq_true]
    intro x hx
    obtain ⟨i, hi, rfl⟩ := List.getElem_of_mem hx
    exact h i hi
  rw [this, hd]
  simp [hl]
theorem l8Size_c (v1 v3 : Value) (oa : Option Addr) (n c2 : Nat) (hn : n ≤ 3) (w : World) : Calls Tryd.prog 76 #[.agg #[v1, .slice oa n c2, v3]] w fun e w' => e = .returned (.int .i64 ((2 ^ n : Nat) : Int)) ∧ Below w.heap.size w w' := by
  rcases (show n = 0 ∨ n = 1 ∨ n = 2 ∨ n = 3 by omega) with rfl | rfl | rfl | rfl
  all_goals
    go_enter Tryd.func76, Tryd.ntmps76
    go_wp2
    go_ret
    exact ⟨rfl, (Below.refl _ _).alloc (Nat.le_refl _) _⟩
theorem leafCount_c (v1 v3 : Value) (oa : Option Addr) (n c2 : Nat) (hn : n ≤ 3) (w : World) : Calls Tryd.prog 96 #[.agg #[v1, .slice oa n c2, v3]] w fun e w' => e = .returned (.int .i64 ((2 ^ n : Nat) : Int)) ∧ Below w.heap.size w w' := by
  rcases (show n = 0 ∨ n = 1 ∨ n = 2 ∨ n = 3 by omega) with rfl | rfl | rfl | rfl
  all_goals
    go_enter Tryd.func96, Tryd.ntmps96
    go_wp2
    go_ret
    exact ⟨rfl, (Below.refl _ _).alloc (Nat.le_refl _) _⟩
@[reducible] def H6d (w0 : World) (a b p : Nat) (x y z p1 q r : Value) (w : World) : Prop := w.cell? ⟨a, 0, none⟩ = some x ∧ w.cell? ⟨a, 1, none⟩ = some y ∧ w.cell? ⟨a, 2, none⟩ = some z ∧ w.cell? ⟨b, p, none⟩ = some p1 ∧ w.cell? ⟨b, p + 1, none⟩ = some q ∧ w.cell? ⟨b, p + 2, none⟩ = some r ∧ C3 w a x y z ∧ Below w0.heap.size w0 w
theorem H6d.drew {w0 w : World} {a b p : Nat} {x y z p1 q r : Value} (h : H6d w0 a b p x y z p1 q r w) : H6d w0 a b p x y z p1 q r w.drew := ⟨h.1, h.2.1, h.2.2.1, h.2.2.2.1, h.2.2.2.2.1, h.2.2.2.2.2.1, h.2.2.2.2.2.2.1, h.2.2.2.2.2.2.2.drew⟩
theorem H6d.call {w0 w w1 : World} {a b p : Nat} {x y z p1 q r : Value} (hb : Below w.heap.size w w1) (h : H6d w0 a b p x y z p1 q r w) : H6d w0 a b p x y z p1 q r w1 :=
  ⟨(hb.cell (World.block_lt_of_cell? w _ h.1)).trans h.1, (hb.cell (World.block_lt_of_cell? w _ h.2.1)).trans h.2.1, (hb.cell (World.block_lt_of_cell? w _ h.2.2.1)).trans h.2.2.1, (hb.cell (World.block_lt_of_cell? w _ h.2.2.2.1)).trans h.2.2.2.1, (hb.cell (World.block_lt_of_cell? w _ h.2.2.2.2.1)).trans h.2.2.2.2.1, (hb.cell (World.block_lt_of_cell? w _ h.2.2.2.2.2.1)).trans h.2.2.2.2.2.1, h.2.2.2.2.2.2.1.call hb, h.2.2.2.2.2.2.2.trans (hb.mono h.2.2.2.2.2.2.2.size)⟩
set_option maxRecDepth 20000 in
set_option maxHeartbeats 2000000 in
theorem sTableOk_c (a1 a2 a3 c1 c2 c3 : Nat) (vs fs : List ByteArray) (rs : List (ByteArray × Int)) (b c : Nat) (es : List ER) (w : World) (hv : Strs w (some ⟨a1, 0, none⟩) vs) (hf : Strs w (some ⟨a2, 0, none⟩) fs) (hr : Arrs w (some ⟨a3, 0, none⟩) rs)
    (hz : ∀ x ∈ namesOf vs fs rs, x.size ≤ 1048576) (he : OwnE w b es) :
    Calls Tryd.prog 52 #[.agg #[.slice (some ⟨a1, 0, none⟩) vs.length c1, .slice (some ⟨a2, 0, none⟩) fs.length c2, .slice (some ⟨a3, 0, none⟩) rs.length c3], .slice (some ⟨b, 0, none⟩) es.length c] w fun e w' => e = .returned (.bool (tabB vs fs rs es)) ∧ Below w.heap.size w w' := by
  have HV := hide hv
  have HF := hide hf
  have HR := hide hr
  have HE := hide he
  have hl := he.1
  have HT := hide (C3.new w (.slice (some ⟨a1, 0, none⟩) vs.length c1) (.slice (some ⟨a2, 0, none⟩) fs.length c2) (.slice (some ⟨a3, 0, none⟩) rs.length c3) 40)
  have HK := hide ((Below.refl _ w).alloc (Nat.le_refl _) (Obj.cells #[.slice (some ⟨a1, 0, none⟩) vs.length c1, .slice (some ⟨a2, 0, none⟩) fs.length c2, .slice (some ⟨a3, 0, none⟩) rs.length c3] 40))
  obtain ⟨r, hr'⟩ : ∃ r, r = tabB vs fs rs es := ⟨_, rfl⟩
  rw [← hr']
  have HRR := hide hr'
  clear hv hf hr he hr'
  by_cases hd : declB vs fs rs = true
  · have dl := declB_len hd
    obtain ⟨N, hN⟩ : ∃ N, N = 2 ^ fs.length := ⟨_, rfl⟩
    have HN := hide hN
    have hl' : (es.length : Int) ≤ 1048576 := by omega
    obtain ⟨L, hL⟩ : ∃ L, L = es.length := ⟨_, rfl⟩
    have HL := hide hL
    rw [← hL] at hl hl' ⊢
    clear hN hL
    by_cases hs : L = N
    · subst hs
      go_enter Tryd.func52, Tryd.ntmps52
      go_wp2_with fail
      generalize w.alloc (Obj.cells #[.slice (some ⟨a1, 0, none⟩) vs.length c1, .slice (some ⟨a2, 0, none⟩) fs.length c2, .slice (some ⟨a3, 0, none⟩) rs.length c3] 40) = u at HT HK ⊢
      refine (sDeclOk_c a1 a2 a3 c1 c2 c3 vs fs rs _ ((unhide HV).call (unhide HK)) ((unhide HF).call (unhide HK)) ((unhide HR).call (unhide HK)) hz).mono ?_
      rintro e u1 ⟨rfl, k1⟩
      rw [hd]
      have HT := hide ((unhide HT).call k1)
      have HK := hide ((unhide HK).trans (k1.mono (unhide HK).size))
      clear k1
      have t0 := (unhide HT).1
      have t1 := (unhide HT).2.1
      have t2 := (unhide HT).2.2.1
      go_wp2_with fail
      refine (l8Size_c _ _ _ fs.length c2 dl.2.1 _).mono ?_
      rintro e u2 ⟨rfl, k2⟩
      rw [← unhide HN]
      have HT := hide ((unhide HT).call k2)
      have HK := hide ((unhide HK).trans (k2.mono (unhide HK).size))
      clear k2 t0 t1 t2
      go_wp2
      go_loopw [5] (fun i wr => ∃ k : Nat, k ≤ L ∧ i = .int .i64 k ∧ (∀ j, (hj : j < es.length) → j < k → fitE vs.length rs.length es[j] = true) ∧ C3 wr w.heap.size (.slice (some ⟨a1, 0, none⟩) vs.length c1) (.slice (some ⟨a2, 0, none⟩) fs.length c2) (.slice (some ⟨a3, 0, none⟩) rs.length c3) ∧ Below w.heap.size w wr) (fun i _ => L - (intOf i).toNat)
      case atStart => exact ⟨0, Nat.zero_le _, rfl, fun j _ h0 => by omega, unhide HT, unhide HK⟩
      case round =>
        clear HT HK
        obtain ⟨k, hk, rfl, ha, ht, hb⟩ := hrel
        have HA := hide ha
        have HT := hide ht
        have HB := hide hb
        clear ha
        by_cases hlt : k < L
        · have hk' : k < es.length := by rw [← unhide HL]; exact hlt
          obtain ⟨g1, g2, _, _, d1, d2, d3, i1, i2⟩ := ((unhide HE).call hb).2.1 k hk'
          have I1 := hide i1.1
          have I2 := hide i2.1
          have EF : Hid (fitE vs.length rs.length es[k] = fitB vs.length rs.length es[k].1 es[k].2.1 es[k].2.2) := by unfold Hid; rfl
          clear i1 i2
          generalize es[k].1 = li at d1 EF
          generalize es[k].2.1 = xs at d2 I1 EF
          generalize es[k].2.2 = ys at d3 I2 EF
          have hk6 : H6d w w.heap.size b (k * 3) (.slice (some ⟨a1, 0, none⟩) vs.length c1) (.slice (some ⟨a2, 0, none⟩) fs.length c2) (.slice (some ⟨a3, 0, none⟩) rs.length c3) (.bool li) (.slice (some ⟨g1, 0, none⟩) xs.length xs.length) (.slice (some ⟨g2, 0, none⟩) ys.length ys.length) wr := ⟨ht.1, ht.2.1, ht.2.2.1, d1, d2, d3, ht, hb⟩
          have EB : Hid (envB vs fs rs li xs ys = fitB vs.length rs.length li xs ys) := by unfold Hid envB; rw [hd, Bool.true_and]
          clear hb ht
          go_wp2
          go_region_held3 (H6d w w.heap.size b (k * 3) (.slice (some ⟨a1, 0, none⟩) vs.length c1) (.slice (some ⟨a2, 0, none⟩) fs.length c2) (.slice (some ⟨a3, 0, none⟩) rs.length c3) (.bool li) (.slice (some ⟨g1, 0, none⟩) xs.length xs.length) (.slice (some ⟨g2, 0, none⟩) ys.length ys.length))
            (first | exact H6d.drew (by assumption) | exact hq)
            (first | (go_at_call 36; refine (sEnvOk_c a1 a2 a3 c1 c2 c3 vs fs rs li g1 g2 xs.length ys.length xs ys _ ((unhide HV).call (unhide HB).drew) ((unhide HF).call (unhide HB).drew) ((unhide HR).call (unhide HB).drew) hz ((unhide I1).call (bdrew wr 1)) ((unhide I2).call (bdrew wr 1))).mono ?_; rintro e w1 ⟨rfl, bq⟩; have hq := H6d.call bq (H6d.drew hk6)))
          have HQ := hide hq.2.2.2.2.2.2.2
          have HQT := hide hq.2.2.2.2.2.2.1
          rw [unhide EB]
          clear hq hk6 d1 d2 d3 EB
          rename_i hHeld
          clear hHeld
          cases hfit : fitB vs.length rs.length li xs ys
          · have E : Hid (r = false) := by unfold Hid; rw [unhide HRR]; exact tabB_bad k hk' (by rw [unhide EF, hfit])
            go_wp2
            go_ret
            exact ⟨by rw [unhide E]; rfl, unhide HQ⟩
          · have E : Hid (fitE vs.length rs.length es[k] = true) := by unfold Hid; rw [unhide EF, hfit]
            clear EF
            go_wp2
            go_roundw
            case rel => exact ⟨k + 1, by omega, by go_num, fun j hj h1 => by
              by_cases e : j = k
              · subst e; exact unhide E
              · exact unhide HA j hj (by omega), unhide HQT, unhide HQ⟩
            case measure => simp [intOf]; omega
        · obtain rfl : k = L := by omega
          have E : Hid (r = true) := by unfold Hid; rw [unhide HRR]; exact tabB_all hd (by rw [← unhide HL]; exact unhide HN) (fun j hj => unhide HA j hj (by rw [unhide HL]; exact hj))
          clear hb ht
          go_wp2
          go_ret
          exact ⟨by rw [unhide E]; rfl, unhide HB⟩
    · have E : Hid (r = false) := by
        unfold Hid; rw [unhide HRR]; unfold tabB
        have : decide (es.length = 2 ^ fs.length) = false := decide_eq_false (by rw [← unhide HL, ← unhide HN]; exact hs)
        rw [this, Bool.false_and, Bool.and_false]
      have g : ((L : Int) != (N : Int)) = true := by simp; omega
      go_enter Tryd.func52, Tryd.ntmps52
      go_wp2_with fail
      generalize w.alloc (Obj.cells #[.slice (some ⟨a1, 0, none⟩) vs.length c1, .slice (some ⟨a2, 0, none⟩) fs.length c2, .slice (some ⟨a3, 0, none⟩) rs.length c3] 40) = u at HT HK ⊢
      refine (sDeclOk_c a1 a2 a3 c1 c2 c3 vs fs rs _ ((unhide HV).call (unhide HK)) ((unhide HF).call (unhide HK)) ((unhide HR).call (unhide HK)) hz).mono ?_
      rintro e u1 ⟨rfl, k1⟩
      rw [hd]
      have HT := hide ((unhide HT).call k1)
      have HK := hide ((unhide HK).trans (k1.mono (unhide HK).size))
      clear k1
      have t0 := (unhide HT).1
      have t1 := (unhide HT).2.1
      have t2 := (unhide HT).2.2.1
      go_wp2_with fail
      refine (l8Size_c _ _ _ fs.length c2 dl.2.1 _).mono ?_
      rintro e u2 ⟨rfl, k2⟩
      rw [← unhide HN]
      have HK := hide ((unhide HK).trans (k2.mono (unhide HK).size))
      clear k2 t0 t1 t2
      go_wp2
      go_ret
      exact ⟨by rw [unhide E]; rfl, unhide HK⟩
  · have hd' : declB vs fs rs = false := by simpa using hd
    have E : Hid (r = false) := by unfold Hid; rw [unhide HRR]; unfold tabB; rw [hd', Bool.false_and]
    go_enter Tryd.func52, Tryd.ntmps52
    go_wp2_with fail
    generalize w.alloc (Obj.cells #[.slice (some ⟨a1, 0, none⟩) vs.length c1, .slice (some ⟨a2, 0, none⟩) fs.length c2, .slice (some ⟨a3, 0, none⟩) rs.length c3] 40) = u at HT HK ⊢
    refine (sDeclOk_c a1 a2 a3 c1 c2 c3 vs fs rs _ ((unhide HV).call (unhide HK)) ((unhide HF).call (unhide HK)) ((unhide HR).call (unhide HK)) hz).mono ?_
    rintro e u1 ⟨rfl, k1⟩
    rw [hd']
    have HK := hide ((unhide HK).trans (k1.mono (unhide HK).size))
    clear k1
    go_wp2
    go_ret
    exact ⟨by rw [unhide E]; rfl, unhide HK⟩
set_option maxRecDepth 20000 in
set_option maxHeartbeats 2000000 in
theorem iTableOk_c (a1 a2 a3 c1 c2 c3 : Nat) (vs fs : List ByteArray) (rs : List (ByteArray × Int)) (b c : Nat) (es : List ER) (w : World) (hw : KW w) (hv : Strs w (some ⟨a1, 0, none⟩) vs) (hf : Strs w (some ⟨a2, 0, none⟩) fs) (hr : Arrs w (some ⟨a3, 0, none⟩) rs)
    (hz : ∀ x ∈ namesOf vs fs rs, x.size ≤ 1048576) (he : OwnE w b es) :
    Calls Tryd.prog 78 #[.agg #[.slice (some ⟨a1, 0, none⟩) vs.length c1, .slice (some ⟨a2, 0, none⟩) fs.length c2, .slice (some ⟨a3, 0, none⟩) rs.length c3], .slice (some ⟨b, 0, none⟩) es.length c] w fun e w' => e = .returned (.bool (tabB vs fs rs es)) ∧ Below w.heap.size w w' := by
  have HW := hide hw
  have HV := hide hv
  have HF := hide hf
  have HR := hide hr
  have HE := hide he
  have hl := he.1
  have HT := hide (C3.new w (.slice (some ⟨a1, 0, none⟩) vs.length c1) (.slice (some ⟨a2, 0, none⟩) fs.length c2) (.slice (some ⟨a3, 0, none⟩) rs.length c3) 40)
  have HK := hide ((Below.refl _ w).alloc (Nat.le_refl _) (Obj.cells #[.slice (some ⟨a1, 0, none⟩) vs.length c1, .slice (some ⟨a2, 0, none⟩) fs.length c2, .slice (some ⟨a3, 0, none⟩) rs.length c3] 40))
  obtain ⟨r, hr'⟩ : ∃ r, r = tabB vs fs rs es := ⟨_, rfl⟩
  rw [← hr']
  have HRR := hide hr'
  clear hv hf hr he hr' hw
  by_cases hd : declB vs fs rs = true
  · have dl := declB_len hd
    obtain ⟨N, hN⟩ : ∃ N, N = 2 ^ fs.length := ⟨_, rfl⟩
    have HN := hide hN
    have hl' : (es.length : Int) ≤ 1048576 := by omega
    obtain ⟨L, hL⟩ : ∃ L, L = es.length := ⟨_, rfl⟩
    have HL := hide hL
    rw [← hL] at hl hl' ⊢
    clear hN hL
    by_cases hs : L = N
    · subst hs
      go_enter Tryd.func78, Tryd.ntmps78
      go_wp2_with fail
      generalize w.alloc (Obj.cells #[.slice (some ⟨a1, 0, none⟩) vs.length c1, .slice (some ⟨a2, 0, none⟩) fs.length c2, .slice (some ⟨a3, 0, none⟩) rs.length c3] 40) = u at HT HK ⊢
      refine (iDeclOk_c a1 a2 a3 c1 c2 c3 vs fs rs _ ((unhide HW).call (unhide HK)) ((unhide HV).call (unhide HK)) ((unhide HF).call (unhide HK)) ((unhide HR).call (unhide HK)) hz).mono ?_
      rintro e u1 ⟨rfl, k1⟩
      rw [hd]
      have HT := hide ((unhide HT).call k1)
      have HK := hide ((unhide HK).trans (k1.mono (unhide HK).size))
      clear k1
      have t0 := (unhide HT).1
      have t1 := (unhide HT).2.1
      have t2 := (unhide HT).2.2.1
      go_wp2_with fail
      refine (leafCount_c _ _ _ fs.length c2 dl.2.1 _).mono ?_
      rintro e u2 ⟨rfl, k2⟩
      rw [← unhide HN]
      have HT := hide ((unhide HT).call k2)
      have HK := hide ((unhide HK).trans (k2.mono (unhide HK).size))
      clear k2 t0 t1 t2
      go_wp2
      go_loopw [19] (fun i wr => ∃ k : Nat, k ≤ L ∧ i = .int .i64 k ∧ (∀ j, (hj : j < es.length) → j < k → fitE vs.length rs.length es[j] = true) ∧ C3 wr w.heap.size (.slice (some ⟨a1, 0, none⟩) vs.length c1) (.slice (some ⟨a2, 0, none⟩) fs.length c2) (.slice (some ⟨a3, 0, none⟩) rs.length c3) ∧ Below w.heap.size w wr) (fun i _ => L - (intOf i).toNat)
      case atStart => exact ⟨0, Nat.zero_le _, rfl, fun j _ h0 => by omega, unhide HT, unhide HK⟩
      case round =>
        clear HT HK
        obtain ⟨k, hk, rfl, ha, ht, hb⟩ := hrel
        have HA := hide ha
        have HT := hide ht
        have HB := hide hb
        clear ha
        by_cases hlt : k < L
        · have hk' : k < es.length := by rw [← unhide HL]; exact hlt
          obtain ⟨g1, g2, _, _, d1, d2, d3, i1, i2⟩ := ((unhide HE).call hb).2.1 k hk'
          have I1 := hide i1.1
          have I2 := hide i2.1
          have EF : Hid (fitE vs.length rs.length es[k] = fitB vs.length rs.length es[k].1 es[k].2.1 es[k].2.2) := by unfold Hid; rfl
          clear i1 i2
          generalize es[k].1 = li at d1 EF
          generalize es[k].2.1 = xs at d2 I1 EF
          generalize es[k].2.2 = ys at d3 I2 EF
          have HE3 : Hid (∀ t, C3 (wr.alloc (Obj.cells #[.bool li, .slice (some ⟨g1, 0, none⟩) xs.length xs.length, .slice (some ⟨g2, 0, none⟩) ys.length ys.length] t)) wr.heap.size (.bool li) (.slice (some ⟨g1, 0, none⟩) xs.length xs.length) (.slice (some ⟨g2, 0, none⟩) ys.length ys.length)) := fun t => C3.new wr _ _ _ t
          have HT3 : Hid (∀ o, C3 (wr.alloc o) w.heap.size (.slice (some ⟨a1, 0, none⟩) vs.length c1) (.slice (some ⟨a2, 0, none⟩) fs.length c2) (.slice (some ⟨a3, 0, none⟩) rs.length c3)) := fun o => ht.alloc o
          have HB3 : Hid (∀ o, Below wr.heap.size wr (wr.alloc o)) := fun o => (Below.refl _ _).alloc (Nat.le_refl _) o
          clear hb ht
          go_wp2_with fail
          refine (fits_c _ _ a1 a2 a3 c1 c2 c3 vs fs rs li g1 g2 xs.length ys.length xs ys _ (unhide HT3 _) (unhide HE3 _) dl.1 dl.2.2 ((unhide I1).call (unhide HB3 _)) ((unhide I2).call (unhide HB3 _))).mono ?_
          rintro e w1 ⟨rfl, bq⟩
          have HQT := hide ((unhide HT3 _).call bq)
          have HQ := hide (((unhide HB).trans ((unhide HB3 _).mono (unhide HB).size)).trans (bq.mono (Nat.le_trans (unhide HB).size (unhide HB3 _).size)))
          clear bq d1 d2 d3 HT3 HE3 HB3
          cases hfit : fitB vs.length rs.length li xs ys
          · have E : Hid (r = false) := by unfold Hid; rw [unhide HRR]; exact tabB_bad k hk' (by rw [unhide EF, hfit])
            go_wp2
            go_ret
            exact ⟨by rw [unhide E]; rfl, unhide HQ⟩
          · have E : Hid (fitE vs.length rs.length es[k] = true) := by unfold Hid; rw [unhide EF, hfit]
            clear EF
            go_wp2
            go_roundw
            case rel => exact ⟨k + 1, by omega, by go_num, fun j hj h1 => by
              by_cases e : j = k
              · subst e; exact unhide E
              · exact unhide HA j hj (by omega), unhide HQT, unhide HQ⟩
            case measure => simp [intOf]; omega
        · obtain rfl : k = L := by omega
          have E : Hid (r = true) := by unfold Hid; rw [unhide HRR]; exact tabB_all hd (by rw [← unhide HL]; exact unhide HN) (fun j hj => unhide HA j hj (by rw [unhide HL]; exact hj))
          clear hb ht
          go_wp2
          go_ret
          exact ⟨by rw [unhide E]; rfl, unhide HB⟩
    · have E : Hid (r = false) := by
        unfold Hid; rw [unhide HRR]; unfold tabB
        have : decide (es.length = 2 ^ fs.length) = false := decide_eq_false (by rw [← unhide HL, ← unhide HN]; exact hs)
        rw [this, Bool.false_and, Bool.and_false]
      have g : ((L : Int) != (N : Int)) = true := by simp; omega
      go_enter Tryd.func78, Tryd.ntmps78
      go_wp2_with fail
      generalize w.alloc (Obj.cells #[.slice (some ⟨a1, 0, none⟩) vs.length c1, .slice (some ⟨a2, 0, none⟩) fs.length c2, .slice (some ⟨a3, 0, none⟩) rs.length c3] 40) = u at HT HK ⊢
      refine (iDeclOk_c a1 a2 a3 c1 c2 c3 vs fs rs _ ((unhide HW).call (unhide HK)) ((unhide HV).call (unhide HK)) ((unhide HF).call (unhide HK)) ((unhide HR).call (unhide HK)) hz).mono ?_
      rintro e u1 ⟨rfl, k1⟩
      rw [hd]
      have HT := hide ((unhide HT).call k1)
      have HK := hide ((unhide HK).trans (k1.mono (unhide HK).size))
      clear k1
      have t0 := (unhide HT).1
      have t1 := (unhide HT).2.1
      have t2 := (unhide HT).2.2.1
      go_wp2_with fail
      refine (leafCount_c _ _ _ fs.length c2 dl.2.1 _).mono ?_
      rintro e u2 ⟨rfl, k2⟩
      rw [← unhide HN]
      have HK := hide ((unhide HK).trans (k2.mono (unhide HK).size))
      clear k2 t0 t1 t2
      go_wp2
      go_ret
      exact ⟨by rw [unhide E]; rfl, unhide HK⟩
  · have hd' : declB vs fs rs = false := by simpa using hd
    have E : Hid (r = false) := by unfold Hid; rw [unhide HRR]; unfold tabB; rw [hd', Bool.false_and]
    go_enter Tryd.func78, Tryd.ntmps78
    go_wp2_with fail
    generalize w.alloc (Obj.cells #[.slice (some ⟨a1, 0, none⟩) vs.length c1, .slice (some ⟨a2, 0, none⟩) fs.length c2, .slice (some ⟨a3, 0, none⟩) rs.length c3] 40) = u at HT HK ⊢
    refine (iDeclOk_c a1 a2 a3 c1 c2 c3 vs fs rs _ ((unhide HW).call (unhide HK)) ((unhide HV).call (unhide HK)) ((unhide HF).call (unhide HK)) ((unhide HR).call (unhide HK)) hz).mono ?_
    rintro e u1 ⟨rfl, k1⟩
    rw [hd']
    have HK := hide ((unhide HK).trans (k1.mono (unhide HK).size))
    clear k1
    go_wp2
    go_ret
    exact ⟨by rw [unhide E]; rfl, unhide HK⟩
end Go.Proofs.YtcjefmeadnmbhaaDoor

/- Rows of bounds that came in; the walks of the laws of tables. -/
namespace Go.Proofs.YtcjefmeadnmbhaaDoor
open Go.ChangeShapes Go.WideShapes Go.ChangeAt Go.RowKit
set_option linter.unusedSimpArgs false
set_option linter.unusedVariables false

theorem three_list {α : Type} {l : List α} (h : l.length = 3) : ∃ a b c, l = [a, b, c] := by
  match l, h with
  | [a, b, c], _ => exact ⟨a, b, c, rfl⟩
theorem openE3 {H : Type} {enc : TypeId × Value → H} {W : World} {fuel : Nat} {v : Value} {y : DataW H × List MemPlace} (h : DataW.trod enc Tryd.prog W 0 (fun _ => true) true fuel 52 [v] = some y) : ∃ a cap es, v = .slice a (List.length es) cap ∧ EnvsA W a es := by
  rcases Deep.open_slice Tryd.underlying52 h with ⟨hcs, _⟩ | ⟨a, len, cap, m, n, D, Pl, hcs, hb, hl, hm, hmm, _, hx⟩
  · simp at hcs
    subst hcs
    exact ⟨none, 0, [], rfl, by simp, .inl rfl⟩
  · simp at hcs hmm
    subst hcs hmm
    have ml : maxLen ≤ 9223372036854775807 := by decide
    have ce : Tryd.prog.cellsOf 28 = 3 := by kernel_rfl
    have cb : Tryd.prog.cellsOf 4 = 1 := by kernel_rfl
    have cv : Tryd.prog.cellsOf 26 = 1 := by kernel_rfl
    have each : ∀ i, i < len → ∃ q : ER × (Option Addr × Nat) × (Option Addr × Nat), W.cell? (a.add (i * 3)) = some (.bool q.1.1) ∧ W.cell? (a.add (i * 3 + 1)) = some (.slice q.2.1.1 q.1.2.1.length q.2.1.2) ∧ W.cell? (a.add (i * 3 + 2)) = some (.slice q.2.2.1 q.1.2.2.length q.2.2.2) ∧ IvsA W q.2.1.1 q.1.2.1 ∧ IvsA W q.2.2.1 q.1.2.2 := fun i hi => by
      obtain ⟨cs', h1, h2⟩ := hx i (by omega)
      rw [ce] at h1
      obtain ⟨_, hlen, hcell⟩ := World.cells?_some h1
      obtain ⟨xs, k, hk, hxy, _, hxl, hf⟩ := DataW.trod_struct Tryd.underlying28 h2
      obtain ⟨y0, y1, y2, rfl⟩ := three_list (by simpa using hxl)
      obtain ⟨v0, v1, v2, rfl⟩ := three_list hlen
      · have g0 : DataW.trod enc Tryd.prog W 0 (fun _ => true) true k 4 [v0] = some y0 := by
          have g : DataW.trod enc Tryd.prog W 0 (fun _ => true) true k 4 (([v0, v1, v2].drop 0).take (Tryd.prog.cellsOf 4)) = some y0 := hf 0 _ rfl
          rw [cb] at g
          exact g
        have g1 : DataW.trod enc Tryd.prog W 0 (fun _ => true) true k 26 [v1] = some y1 := by
          have g : DataW.trod enc Tryd.prog W 0 (fun _ => true) true k 26 (([v0, v1, v2].drop 1).take (Tryd.prog.cellsOf 26)) = some y1 := hf 1 _ rfl
          rw [cv] at g
          exact g
        have g2 : DataW.trod enc Tryd.prog W 0 (fun _ => true) true k 26 [v2] = some y2 := by
          have g : DataW.trod enc Tryd.prog W 0 (fun _ => true) true k 26 (([v0, v1, v2].drop 2).take (Tryd.prog.cellsOf 26)) = some y2 := hf 2 _ rfl
          rw [cv] at g
          exact g
        have e0 := hcell 0 (by omega)
        have e1 := hcell 1 (by omega)
        have e2 := hcell 2 (by omega)
        rw [Deep.add_add] at e0 e1 e2
        obtain ⟨li, rfl⟩ := openT g0
        obtain ⟨xa, xc, x1, rfl, f1⟩ := openV g1
        obtain ⟨ya, yc, x2, rfl, f2⟩ := openV g2
        exact ⟨((li, x1, x2), (xa, xc), (ya, yc)), by simpa using e0, by simpa using e1, by simpa using e2, f1, f2⟩
    obtain ⟨Q, hQ⟩ := Deep.choose_lt each
    refine ⟨some a, m, (List.range len).map fun i => (Q i).1, by simp, by simp; omega, ?_⟩
    by_cases h0 : len = 0
    · exact .inl (by simp [h0])
    · have c0 := (hQ 0 (by omega)).1
      have ea := addr_none (by simpa using c0)
      refine .inr ⟨a.block, a.off, by rw [← ea], fun i hi => ?_⟩
      simp at hi
      obtain ⟨c1, c2, c3, f1, f2⟩ := hQ i (by omega)
      rw [ea, Addr.add_lit] at c1 c2 c3
      exact ⟨(Q i).2.1.1, (Q i).2.1.2, (Q i).2.2.1, (Q i).2.2.2, by simpa using c1, by simpa [Nat.add_assoc] using c2, by simpa [Nat.add_assoc] using c3, by simpa using f1, by simpa using f2⟩
end Go.Proofs.YtcjefmeadnmbhaaDoor

