/- Rows of parts: copies, sizes, how they are compared. -/
import Derived.Test.YthldhjifnpfmiaaGreatDoorParC
namespace Go.Proofs.YthldhjifnpfmiaaGreatDoor
open Go.RowKit
set_option linter.unusedSimpArgs false

theorem OwnE.other {w : World} {b c p : Nat} {v : Value} {es : List ER} (h : OwnE w b es) (hc : c < b) : OwnE (w.setCell ⟨c, p, none⟩ v) b es := h.set hc
/-- A row of parts of the call's own that is filled up to k. -/
def FillP (w : World) (g : Nat) (ps : List PR) (k : Nat) (wr : World) : Prop :=
  (∀ i, (h : i < ps.length) → i < k → AtP wr g i ps[i]) ∧ (∀ i, i < ps.length → k ≤ i → wr.cell? ⟨g, i * 2, none⟩ = some (.slice none 0 0) ∧ wr.cell? ⟨g, i * 2 + 1, none⟩ = some (.slice none 0 0)) ∧ (∀ o, wr.frozen? ⟨g, o, none⟩ = false) ∧ g < wr.heap.size ∧ w.heap.size ≤ g ∧ Below w.heap.size w wr
theorem FillP.call {w wr w1 : World} {g k : Nat} {ps : List PR} (h : FillP w g ps k wr) (hb : Below wr.heap.size wr w1) : FillP w g ps k w1 := by
  obtain ⟨h1, h2, h3, h4, h5, h6⟩ := h
  have c : ∀ o, w1.cell? ⟨g, o, none⟩ = wr.cell? ⟨g, o, none⟩ := fun o => hb.cell (by exact h4)
  exact ⟨fun i hi hk => (h1 i hi hk).call hb, fun i hi hk => by rw [c, c]; exact h2 i hi hk, fun o => (hb.frozen (by exact h4)).trans (h3 o), Nat.lt_of_lt_of_le h4 hb.size, h5, h6.trans (hb.mono h6.size)⟩
theorem FillP.step {w wr : World} {g k g1 g2 : Nat} {ps : List PR} (h : FillP w g ps k wr) (hk : k < ps.length) (q1 : g < g1) (q2 : g < g2) (o1 : OwnV wr g1 ps[k].1) (o2 : OwnE wr g2 ps[k].2) :
    FillP w g ps (k + 1) ((wr.setCell ⟨g, k * 2, none⟩ (.slice (some ⟨g1, 0, none⟩) ps[k].1.length ps[k].1.length)).setCell ⟨g, k * 2 + 1, none⟩ (.slice (some ⟨g2, 0, none⟩) ps[k].2.length ps[k].2.length)) := by
  obtain ⟨h1, h2, h3, h4, h5, h6⟩ := h
  have c := h2 k hk (Nat.le_refl _)
  generalize hv0 : (.slice (some ⟨g1, 0, none⟩) ps[k].1.length ps[k].1.length : Value) = v0
  generalize hv1 : (.slice (some ⟨g2, 0, none⟩) ps[k].2.length ps[k].2.length : Value) = v1
  have o : ∀ j, j ≠ k * 2 → j ≠ k * 2 + 1 → ((wr.setCell ⟨g, k * 2, none⟩ v0).setCell ⟨g, k * 2 + 1, none⟩ v1).cell? ⟨g, j, none⟩ = wr.cell? ⟨g, j, none⟩ := fun j j1 j2 => by
    rw [World.cell?_setCell_other _ _ _ _ (fun hh => j2 (congrArg Addr.off hh).symm), World.cell?_setCell_other _ _ _ _ (fun hh => j1 (congrArg Addr.off hh).symm)]
  have ow : ∀ {b : Nat} {xs : List (Int × Int)}, g < b → OwnV wr b xs → OwnV ((wr.setCell ⟨g, k * 2, none⟩ v0).setCell ⟨g, k * 2 + 1, none⟩ v1) b xs := fun hb ho => (ho.set (by omega)).set (by omega)
  have oe : ∀ {b : Nat} {es : List ER}, g < b → OwnE wr b es → OwnE ((wr.setCell ⟨g, k * 2, none⟩ v0).setCell ⟨g, k * 2 + 1, none⟩ v1) b es := fun hb ho => (ho.set hb).set hb
  refine ⟨fun i hi hik => ?_, fun i hi hik => ?_, fun o => by rw [World.frozen?_setCell, World.frozen?_setCell]; exact h3 o, by simpa [World.setCell] using h4, h5, (h6.setCell (by exact h5) _).setCell (by exact h5) _⟩
  · by_cases e : i = k
    · subst e
      refine ⟨g1, g2, q1, q2, ?_, ?_, ow q1 o1, oe q2 o2⟩
      · rw [World.cell?_setCell_other _ _ _ _ (fun hh => by have hh' : i * 2 + 1 = i * 2 := congrArg Addr.off hh; omega), hv0]
        exact World.cell?_setCell_same _ _ _ c.1
      · rw [hv1]
        refine World.cell?_setCell_same _ _ _ (?_ : _ = some (.slice none 0 0))
        rw [World.cell?_setCell_other _ _ _ _ (fun hh => by have hh' : i * 2 = i * 2 + 1 := congrArg Addr.off hh; omega)]
        exact c.2
    · obtain ⟨f1, f2, p1, p2, d1, d2, u1, u2⟩ := h1 i hi (by omega)
      exact ⟨f1, f2, p1, p2, by rw [o _ (by omega) (by omega)]; exact d1, by rw [o _ (by omega) (by omega)]; exact d2, ow p1 u1, oe p2 u2⟩
  · rw [o _ (by omega) (by omega), o _ (by omega) (by omega)]
    exact h2 i hi (by omega)
theorem parInfo : (Tryz.prog.info? 72).map (fun i => (i.zero, i.size, i.bytes)) = some (some (.agg #[.slice none 0 0, .slice none 0 0]), 2, 48) := by kernel_rfl
theorem makeP_c (n : Nat) (hn : n ≤ 1048576) (ps : List PR) (hz : ps.length = n) (w : World) : ∃ w1, (Instr.makeSlice 42 (.int .i64 (n : Int)) (.int .i64 (n : Int))).run Tryz.prog w = .ok (.slice (some ⟨w.heap.size, 0, none⟩) n n) w1 ∧ FillP w w.heap.size ps 0 w1 := by
  obtain ⟨inf, hi, hz0, hz1, hz2⟩ := info_parts parInfo
  obtain ⟨w1, hr, ho, hg⟩ := run_make_full (P := Tryz.prog) w w.heap.size 42 72 inf (.agg #[.slice none 0 0, .slice none 0 0]) 2 Tryz.underlying42 hi hz0 hz1 .i64 .i64 n (by rw [hz2]; omega) (by unfold maxLen; omega) (Nat.le_refl _)
  refine ⟨w1, hr, fun i hi h0 => by omega, fun i hi _ => ?_, fun o => ho.frozenAt o, (ho.lt w.heap.size rfl).2, Nat.le_refl _, (Below.refl _ _).grown hg (Nat.le_refl _) (fun j hj => by simp at hj)⟩
  have m := made2 n i (.slice none 0 0) (.slice none 0 0) (by omega)
  rw [ho.cellAt (i * 2) (by omega), ho.cellAt (i * 2 + 1) (by omega)]
  exact m
set_option maxHeartbeats 1000000 in
theorem toPartS_c (a : Option Addr) (cap : Nat) (ps : List PR) (w : World) (h : Parts w a ps) : Calls Tryz.prog 10 #[.slice a ps.length cap] w fun e w' => e = .returned (.slice (some ⟨w.heap.size, 0, none⟩) ps.length ps.length) ∧ OwnP w' w.heap.size ps ∧ Below w.heap.size w w' := by
  have hl := h.1
  obtain ⟨L, hL⟩ : ∃ L, L = ps.length := ⟨_, rfl⟩
  rw [← hL] at hl ⊢
  have HL := hide hL
  have HH := hide h
  obtain ⟨w1, hmk, hf⟩ := makeP_c L hl ps hL.symm w
  have HF := hide hf
  have hl' : (L : Int) ≤ 1048576 := by omega
  clear h hL hf
  go_enter Tryz.func10, Tryz.ntmps10
  go_wp2
  go_loopw [4] (fun i wr => ∃ k : Nat, k ≤ L ∧ i = .int .i64 k ∧ FillP w w.heap.size ps k wr) (fun i _ => L - (intOf i).toNat)
  case atStart => exact ⟨0, Nat.zero_le _, rfl, unhide HF⟩
  case round =>
    clear HF hmk
    obtain ⟨k, hk, rfl, hf⟩ := hrel
    by_cases hlt : k < L
    · have hk' : k < ps.length := by rw [← unhide HL]; exact hlt
      rcases ((unhide HH).call hf.2.2.2.2.2).2 with h0 | ⟨cb, co, rfl, hc⟩
      · omega
      obtain ⟨xa, xc, ya, yc, d1, d2, i1, i2⟩ := hc k hk'
      have I1 := hide i1
      have I2 := hide i2
      have HQ := hide hf
      clear hc hf i1 i2
      go_wp2_with fail
      refine (toPart_c xa ya xc yc ps[k].1 ps[k].2 _ (unhide I1) (unhide I2)).mono ?_
      rintro e w2 ⟨b1, b2, rfl, o1, o2, ⟨l1, l2⟩, hb⟩
      have hf := (unhide HQ).call hb
      have HS := hide (hf.step hk' (Nat.lt_of_lt_of_le (unhide HQ).2.2.2.1 l1) (Nat.lt_trans (Nat.lt_of_lt_of_le (unhide HQ).2.2.2.1 l1) l2) o1 o2)
      have c1 := (hf.2.1 k hk' (Nat.le_refl _)).1
      have c2 := (hf.2.1 k hk' (Nat.le_refl _)).2
      have f1 := hf.2.2.1 (k * 2)
      have f2 := hf.2.2.1 (k * 2 + 1)
      clear hf hb o1 o2 l1 l2 HQ d1 d2
      go_wp2
      go_roundw
      case rel => exact ⟨k + 1, by omega, by go_num, unhide HS⟩
      case measure => simp [intOf]; omega
    · obtain rfl : k = L := by omega
      have HF := hide hf
      clear hf
      go_wp2
      go_ret
      exact ⟨rfl, ⟨by rw [← unhide HL]; exact hl, fun i hi => (unhide HF).1 i hi (by rw [unhide HL]; exact hi), (unhide HF).2.2.1, (unhide HF).2.2.2.1⟩, (unhide HF).2.2.2.2.2⟩
/-- How much of a size is left. -/
def szP1 (p : PR) (l : Int) : Int := if sz1 p.1.length l < 0 then -1 else szES p.2 (sz1 p.1.length l)
theorem szP1_le (p : PR) (l : Int) (h : 0 ≤ l) : szP1 p l ≤ l ∧ -1 ≤ szP1 p l ∧ (0 ≤ szP1 p l → (p.1.length : Int) ≤ l ∧ (p.2.length : Int) ≤ l ∧ ∀ i, (h : i < p.2.length) → (p.2[i].2.1.length : Int) ≤ l ∧ (p.2[i].2.2.length : Int) ≤ l) := by
  unfold szP1
  have h1 := sz1_le p.1.length l h
  split
  · exact ⟨by omega, by omega, fun k => by omega⟩
  · have h2 := szES_le p.2 (sz1 p.1.length l) (by omega)
    refine ⟨by omega, by omega, fun k => ⟨h1.2.2 (by omega), ?_, fun i hi => ?_⟩⟩
    · have := (h2.2.2 k).1
      omega
    · have := (h2.2.2 k).2 i hi
      omega
def szPL : List PR → Int → Int
  | [], l => l
  | e :: es, l => if szP1 e l < 0 then -1 else szPL es (szP1 e l)
theorem szPL_drop (es : List PR) (k : Nat) (h : k < es.length) (l : Int) : szPL (es.drop k) l = if szP1 es[k] l < 0 then -1 else szPL (es.drop (k + 1)) (szP1 es[k] l) := by
  rw [List.drop_eq_getElem_cons h]; rfl
def PLim (p : PR) (l : Int) : Prop := (p.1.length : Int) ≤ l ∧ (p.2.length : Int) ≤ l ∧ ∀ i, (h : i < p.2.length) → (p.2[i].2.1.length : Int) ≤ l ∧ (p.2[i].2.2.length : Int) ≤ l
theorem PLim.mono {p : PR} {l m : Int} (h : PLim p l) (hm : l ≤ m) : PLim p m := ⟨by have := h.1; omega, by have := h.2.1; omega, fun i hi => by have := h.2.2 i hi; omega⟩
theorem szPL_le : ∀ (es : List PR) (l : Int), 0 ≤ l → szPL es l ≤ l ∧ -1 ≤ szPL es l ∧ (0 ≤ szPL es l → ∀ i, (h : i < es.length) → PLim es[i] l)
  | [], l, h => ⟨Int.le_refl _, by show -1 ≤ l; omega, fun _ i hi => by cases hi⟩
  | e :: es, l, h => by
    have q := szP1_le e l h
    by_cases g : szP1 e l < 0
    · have E : szPL (e :: es) l = -1 := if_pos g
      rw [E]
      exact ⟨by omega, by omega, fun k => by omega⟩
    · have E : szPL (e :: es) l = szPL es (szP1 e l) := if_neg g
      rw [E]
      have r := szPL_le es _ (show 0 ≤ szP1 e l by omega)
      refine ⟨by omega, r.2.1, fun k i hi => ?_⟩
      cases i with
      | zero => exact q.2.2 (by omega)
      | succ i =>
        have := r.2.2 k i (by simpa using hi)
        rw [List.getElem_cons_succ]
        exact this.mono q.1
def szPS (es : List PR) (l : Int) : Int := if l - es.length < 0 then -1 else szPL es (l - es.length)
theorem szPS_le (es : List PR) (l : Int) (h : 0 ≤ l) : szPS es l ≤ l ∧ -1 ≤ szPS es l ∧ (0 ≤ szPS es l → (es.length : Int) ≤ l ∧ ∀ i, (h : i < es.length) → PLim es[i] l) := by
  unfold szPS
  by_cases g : l - es.length < 0
  · rw [if_pos g]
    exact ⟨by omega, by omega, fun k => by omega⟩
  · rw [if_neg g]
    have r := szPL_le es (l - es.length) (by omega)
    exact ⟨by omega, r.2.1, fun k => ⟨by omega, fun i hi => (r.2.2 k i hi).mono (by omega)⟩⟩
/-- Rows of parts of any length that a machine has. -/
def PartsA (w : World) (a : Option Addr) (ps : List PR) : Prop :=
  ps.length ≤ 9223372036854775807 ∧ (ps.length = 0 ∨ ∃ cb co, a = some ⟨cb, co, none⟩ ∧ ∀ i, (h : i < ps.length) → ∃ xa xc ya yc, w.cell? ⟨cb, co + i * 2, none⟩ = some (.slice xa ps[i].1.length xc) ∧ w.cell? ⟨cb, co + i * 2 + 1, none⟩ = some (.slice ya ps[i].2.length yc) ∧ IvsA w xa ps[i].1 ∧ EnvsA w ya ps[i].2)
theorem PartsA.call {w w1 : World} {a : Option Addr} {ps : List PR} (h : PartsA w a ps) (hb : Below w.heap.size w w1) : PartsA w1 a ps := by
  refine ⟨h.1, ?_⟩
  rcases h.2 with h0 | ⟨cb, co, rfl, hc⟩
  · exact .inl h0
  · refine .inr ⟨cb, co, rfl, fun i hi => ?_⟩
    obtain ⟨xa, xc, ya, yc, h1, h2, h4, h5⟩ := hc i hi
    exact ⟨xa, xc, ya, yc, (hb.cell (World.block_lt_of_cell? w _ h1)).trans h1, (hb.cell (World.block_lt_of_cell? w _ h2)).trans h2, h4.call hb, h5.call hb⟩
theorem Parts.ofA {w : World} {a : Option Addr} {ps : List PR} (h : PartsA w a ps) (hl : (ps.length : Int) ≤ 1048576) (hs : ∀ i, (h : i < ps.length) → PLim ps[i] 1048576) : Parts w a ps := by
  refine ⟨by omega, ?_⟩
  rcases h.2 with h0 | ⟨cb, co, rfl, hc⟩
  · exact .inl h0
  · refine .inr ⟨cb, co, rfl, fun i hi => ?_⟩
    obtain ⟨xa, xc, ya, yc, h1, h2, h4, h5⟩ := hc i hi
    exact ⟨xa, xc, ya, yc, h1, h2, Ivs.ofA h4 (hs i hi).1, Envs.ofA h5 (hs i hi).2.1 (hs i hi).2.2⟩
set_option maxHeartbeats 1000000 in
theorem szPart_c (xa ya : Option Addr) (xc yc : Nat) (p : PR) (left : Int) (h0 : 0 ≤ left) (h1 : left ≤ 1048576) (w : World) (hx : IvsA w xa p.1) (hy : EnvsA w ya p.2) :
    Calls Tryz.prog 20 #[.agg #[.slice xa p.1.length xc, .slice ya p.2.length yc], .int .i64 left] w fun e w' => e = .returned (.int .i64 (szP1 p left)) ∧ Below w.heap.size w w' := by
  have q1 := sz1_le p.1.length left h0
  have hm := hx.1
  have HY := hide hy
  have HT := hide (C2.new w (.slice xa p.1.length xc) (.slice ya p.2.length yc) 58)
  have HB := hide ((Below.refl _ w).alloc (Nat.le_refl _) (Obj.cells #[.slice xa p.1.length xc, .slice ya p.2.length yc] 58))
  clear hx hy
  go_enter Tryz.func20, Tryz.ntmps20
  go_wp2_with fail
  generalize w.alloc (Obj.cells #[.slice xa p.1.length xc, .slice ya p.2.length yc] 58) = u at HT HB ⊢
  refine (szEntryS_c _ p.1.length _ _ hm h0 h1 _).mono ?_
  rintro e w1 ⟨rfl, rfl⟩
  have HZ := hide (show szP1 p left = if sz1 p.1.length left < 0 then -1 else szES p.2 (sz1 p.1.length left) from rfl)
  generalize sz1 p.1.length left = l1 at q1 HZ
  by_cases n1 : l1 < 0
  · have HE := hide (show szP1 p left = -1 by rw [unhide HZ, if_pos n1])
    go_wp2
    go_ret
    exact ⟨by rw [unhide HE]; rfl, unhide HB⟩
  have m1 : 0 ≤ l1 := by omega
  have q2 := szES_le p.2 l1 m1
  have t1 := (unhide HT).2.1
  go_wp2_with fail
  refine (szEnvS_c ya yc p.2 l1 m1 (by omega) _ ((unhide HY).call (unhide HB))).mono ?_
  rintro e w2 ⟨rfl, b2⟩
  have HB2 := hide ((unhide HB).trans (b2.mono (unhide HB).size))
  clear b2 t1
  have HZ2 := hide (show szP1 p left = szES p.2 l1 by rw [unhide HZ, if_neg (by omega)])
  clear HZ
  have q3 := q2.1
  have q4 := q2.2.1
  clear q2
  generalize szES p.2 l1 = l2 at q3 q4 HZ2
  by_cases n2 : l2 < 0
  · have HE := hide (show szP1 p left = -1 by rw [unhide HZ2]; omega)
    go_wp2
    go_ret
    exact ⟨by rw [unhide HE]; rfl, unhide HB2⟩
  · go_wp2
    go_ret
    exact ⟨by rw [unhide HZ2]; rfl, unhide HB2⟩
set_option maxHeartbeats 1000000 in
theorem szPartS_c (a : Option Addr) (cap : Nat) (es : List PR) (left : Int) (h0 : 0 ≤ left) (h1 : left ≤ 1048576) (w : World) (h : PartsA w a es) : Calls Tryz.prog 5 #[.slice a es.length cap, .int .i64 left] w fun e w' => e = .returned (.int .i64 (szPS es left)) ∧ Below w.heap.size w w' := by
  have hl := h.1
  obtain ⟨L, hL⟩ : ∃ L, L = es.length := ⟨_, rfl⟩
  have HZ := hide (show szPS es left = if left - L < 0 then -1 else szPL es (left - L) by rw [hL]; unfold szPS; rfl)
  rw [← hL] at hl ⊢
  have HL := hide hL
  have HH := hide h
  have hl' : (L : Int) ≤ 9223372036854775807 := by omega
  clear h hL
  by_cases hn : left - L < 0
  · rw [unhide HZ, if_pos hn]
    go_enter Tryz.func5, Tryz.ntmps5
    go_wp2
    go_ret
    exact ⟨rfl, Below.refl _ _⟩
  · rw [unhide HZ, if_neg hn]
    clear HZ
    obtain ⟨R, hR⟩ : ∃ R, R = szPL es (left - L) := ⟨_, rfl⟩
    rw [← hR]
    have HR := hide hR
    clear hR
    go_enter Tryz.func5, Tryz.ntmps5
    go_wp2
    go_loopw [1, 5] (fun l i wr => ∃ (k : Nat) (m : Int), k ≤ L ∧ 0 ≤ m ∧ m ≤ 1048576 ∧ i = .int .i64 k ∧ l = .int .i64 m ∧ szPL (es.drop k) m = R ∧ Below w.heap.size w wr) (fun _ i _ => L - (intOf i).toNat)
    case atStart => exact ⟨0, left - L, Nat.zero_le _, by omega, by omega, rfl, rfl, by rw [List.drop_zero, unhide HR], Below.refl _ _⟩
    case round =>
      obtain ⟨k, m, hk, m0, m1, rfl, rfl, he, hb⟩ := hrel
      have HE := hide he
      have HB := hide hb
      clear he
      by_cases hlt : k < L
      · have hk' : k < es.length := by rw [← unhide HL]; exact hlt
        rcases ((unhide HH).call hb).2 with h0 | ⟨cb, co, rfl, hc⟩
        · omega
        obtain ⟨xa, xc, ya, yc, d1, d2, i1, i2⟩ := hc k hk'
        have I1 := hide i1
        have I2 := hide i2
        have HD := hide (szPL_drop es k hk' m)
        have HW := hide (szP1_le es[k] m m0)
        clear hc hb i1 i2
        generalize es[k] = p at d1 d2 I1 I2 HD HW
        go_wp2_with fail
        refine (szPart_c xa ya xc yc p m m0 m1 _ (unhide I1) (unhide I2)).mono ?_
        rintro e w2 ⟨rfl, b2⟩
        have B2 := hide ((unhide HB).trans (b2.mono (unhide HB).size))
        clear b2 d1 d2
        have q1 := (unhide HW).1
        have q2 := (unhide HW).2.1
        clear HW
        generalize szP1 p m = z at HD q1 q2
        by_cases hm : z < 0
        · have HX := hide (show R = -1 by rw [← unhide HE, unhide HD, if_pos hm])
          go_wp2
          go_ret
          exact ⟨by rw [unhide HX]; rfl, unhide B2⟩
        · have HX := hide (show szPL (es.drop (k + 1)) z = R by rw [← unhide HE, unhide HD, if_neg hm])
          go_wp2
          go_roundw
          case rel => exact ⟨k + 1, z, by omega, by omega, by omega, by go_num, rfl, unhide HX, unhide B2⟩
          case measure => simp [intOf]; omega
      · have HX := hide (show R = m by rw [← unhide HE, List.drop_of_length_le (by have := unhide HL; omega)]; rfl)
        clear hb
        go_wp2
        go_ret
        exact ⟨by rw [unhide HX]; rfl, unhide HB⟩
set_option maxHeartbeats 1000000 in
theorem eqPart_c (xa ya xa' ya' : Option Addr) (xc yc xc' yc' : Nat) (xs : List (Int × Int)) (es : List ER) (w : World) (hx : Ivs w xa xs) (hy : Envs w ya es) (hx' : Ivs w xa' xs) (hy' : Envs w ya' es) :
    Calls Tryz.prog 44 #[.agg #[.slice xa xs.length xc, .slice ya es.length yc], .agg #[.slice xa' xs.length xc', .slice ya' es.length yc']] w fun e w' => e = .returned (.bool true) ∧ Below w.heap.size w w' := by
  have X1 := hide hx
  have X2 := hide hy
  have X4 := hide hx'
  have X5 := hide hy'
  have T0 := (C2.new w (.slice xa xs.length xc) (.slice ya es.length yc) 72).alloc (Obj.cells #[.slice xa' xs.length xc', .slice ya' es.length yc'] 72)
  have T1 := C2.new (w.alloc (Obj.cells #[.slice xa xs.length xc, .slice ya es.length yc] 72)) (.slice xa' xs.length xc') (.slice ya' es.length yc') 72
  have K0 : Below w.heap.size w ((w.alloc (Obj.cells #[.slice xa xs.length xc, .slice ya es.length yc] 72)).alloc (Obj.cells #[.slice xa' xs.length xc', .slice ya' es.length yc'] 72)) := ((Below.refl _ _).alloc (Nat.le_refl _) _).alloc (by simp) _
  rw [show (w.alloc (Obj.cells #[.slice xa xs.length xc, .slice ya es.length yc] 72)).heap.size = w.heap.size + 1 by simp] at T1
  have HT0 := hide T0
  have HT1 := hide T1
  have HK := hide K0
  clear T0 T1 K0 hx hy hx' hy'
  go_enter Tryz.func44, Tryz.ntmps44
  go_wp2_with fail
  generalize (w.alloc (Obj.cells #[.slice xa xs.length xc, .slice ya es.length yc] 72)).alloc (Obj.cells #[.slice xa' xs.length xc', .slice ya' es.length yc'] 72) = u at HT0 HT1 HK ⊢
  refine (eqEntryS_c _ _ _ _ xs _ ((unhide X1).call (unhide HK)) ((unhide X4).call (unhide HK))).mono ?_
  rintro e u1 ⟨rfl, kb⟩
  have HT0 := hide ((unhide HT0).call kb)
  have HT1 := hide ((unhide HT1).call kb)
  have HK := hide ((unhide HK).trans (kb.mono (unhide HK).size))
  clear kb
  have c := (unhide HT0).2.1
  have d := (unhide HT1).2.1
  go_wp2_with fail
  clear c d
  refine (eqEnvS_c _ _ _ _ es _ ((unhide X2).call (unhide HK)) ((unhide X5).call (unhide HK))).mono ?_
  rintro e u2 ⟨rfl, kb⟩
  have HK := hide ((unhide HK).trans (kb.mono (unhide HK).size))
  clear kb
  go_wp2
  go_ret
  exact ⟨rfl, unhide HK⟩
set_option maxHeartbeats 1000000 in
theorem eqPartS_c (a b : Option Addr) (c d : Nat) (es : List PR) (w : World) (h : Parts w a es) (h2 : Parts w b es) : Calls Tryz.prog 15 #[.slice a es.length c, .slice b es.length d] w fun e w' => e = .returned (.bool true) ∧ Below w.heap.size w w' := by
  have hl := h.1
  obtain ⟨L, hL⟩ : ∃ L, L = es.length := ⟨_, rfl⟩
  rw [← hL] at hl ⊢
  have HL := hide hL
  have HH := hide h
  have HG := hide h2
  have hl' : (L : Int) ≤ 1048576 := by omega
  clear h h2 hL
  go_enter Tryz.func15, Tryz.ntmps15
  go_wp2
  go_loopw [5] (fun i wr => ∃ k : Nat, k ≤ L ∧ i = .int .i64 k ∧ Below w.heap.size w wr) (fun i _ => L - (intOf i).toNat)
  case atStart => exact ⟨0, Nat.zero_le _, rfl, Below.refl _ _⟩
  case round =>
    obtain ⟨k, hk, rfl, hb⟩ := hrel
    have HB := hide hb
    by_cases hlt : k < L
    · have hk' : k < es.length := by rw [← unhide HL]; exact hlt
      rcases ((unhide HH).call hb).2 with h0 | ⟨cb, co, rfl, hc⟩
      · omega
      rcases ((unhide HG).call hb).2 with h0 | ⟨eb, eo, rfl, hd⟩
      · omega
      obtain ⟨xa, xc, ya, yc, d1, d2, i1, i2⟩ := hc k hk'
      obtain ⟨xa', xc', ya', yc', f1, f2, j1, j2⟩ := hd k hk'
      have I1 := hide i1
      have I2 := hide i2
      have J1 := hide j1
      have J2 := hide j2
      clear hc hd i1 i2 j1 j2
      generalize es[k].1 = xs at d1 f1 I1 J1
      generalize es[k].2 = ys at d2 f2 I2 J2
      have hk4 : H4 w ⟨cb, co + k * 2, none⟩ ⟨cb, co + k * 2 + 1, none⟩ ⟨eb, eo + k * 2, none⟩ ⟨eb, eo + k * 2 + 1, none⟩ (.slice xa xs.length xc) (.slice ya ys.length yc) (.slice xa' xs.length xc') (.slice ya' ys.length yc') wr := ⟨d1, d2, f1, f2, hb⟩
      clear hb
      go_wp2
      go_region_held3 (H4 w ⟨cb, co + k * 2, none⟩ ⟨cb, co + k * 2 + 1, none⟩ ⟨eb, eo + k * 2, none⟩ ⟨eb, eo + k * 2 + 1, none⟩ (.slice xa xs.length xc) (.slice ya ys.length yc) (.slice xa' xs.length xc') (.slice ya' ys.length yc'))
        (first | exact H4.drew (by assumption) | exact hq)
        (first | (go_at_call 44; refine (eqPart_c xa ya xa' ya' xc yc xc' yc' xs ys _ ((unhide I1).call (bdrew wr 1)) ((unhide I2).call (bdrew wr 1)) ((unhide J1).call (bdrew wr 1)) ((unhide J2).call (bdrew wr 1))).mono ?_; rintro e w1 ⟨rfl, bq⟩; have hq := H4.call bq (H4.drew hk4)))
      have HQ := hide hq.2.2.2.2
      clear hq hk4 d1 d2 f1 f2
      rename_i hHeld
      clear hHeld
      go_wp2
      go_roundw
      case rel => exact ⟨k + 1, by omega, by go_num, unhide HQ⟩
      case measure => simp [intOf]; omega
    · clear hb
      go_wp2
      go_ret
      exact ⟨rfl, unhide HB⟩
end Go.Proofs.YthldhjifnpfmiaaGreatDoor
