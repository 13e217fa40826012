/- Rows of intervals; the laws' copies of them. -/
import Derived.Test.YthldhjifnpfmiaaGreatDoorArrC
namespace Go.Proofs.YthldhjifnpfmiaaGreatDoor
open Go.RowKit
set_option linter.unusedSimpArgs false

/-- So many intervals at an address. -/
def Ivs (w : World) (a : Option Addr) (xs : List (Int × Int)) : Prop :=
  xs.length ≤ 1048576 ∧ (xs.length = 0 ∨ ∃ cb co, a = some ⟨cb, co, none⟩ ∧ ∀ i, (h : i < xs.length) → w.cell? ⟨cb, co + i * 2, none⟩ = some (.int .i64 xs[i].1) ∧ w.cell? ⟨cb, co + i * 2 + 1, none⟩ = some (.int .i64 xs[i].2))
theorem Ivs.to {w w1 : World} {a : Option Addr} {xs : List (Int × Int)} {B : Nat} (h : Ivs w a xs) (hb : Below B w w1) (ha : ∀ x, a = some x → 0 < xs.length → x.block < B) : Ivs w1 a xs := by
  refine ⟨h.1, ?_⟩
  rcases h.2 with h0 | ⟨cb, co, rfl, hc⟩
  · exact .inl h0
  · refine .inr ⟨cb, co, rfl, fun i hi => ?_⟩
    have k := ha ⟨cb, co, none⟩ rfl (by omega)
    exact ⟨(hb.cell (by exact k)).trans (hc i hi).1, (hb.cell (by exact k)).trans (hc i hi).2⟩
theorem Ivs.lt {w : World} {a : Option Addr} {xs : List (Int × Int)} (h : Ivs w a xs) : ∀ x, a = some x → 0 < xs.length → x.block < w.heap.size := by
  intro x hx h0
  rcases h.2 with h1 | ⟨cb, co, rfl, hc⟩
  · omega
  · cases hx
    exact World.block_lt_of_cell? w _ (hc 0 h0).1
theorem Ivs.call {w w1 : World} {a : Option Addr} {xs : List (Int × Int)} (h : Ivs w a xs) (hb : Below w.heap.size w w1) : Ivs w1 a xs := h.to hb h.lt
/-- A row of intervals that fills a block of the call's own from its start. -/
def OwnV (w : World) (b : Nat) (xs : List (Int × Int)) : Prop := Ivs w (some ⟨b, 0, none⟩) xs ∧ (∀ o, w.frozen? ⟨b, o, none⟩ = false) ∧ b < w.heap.size
theorem OwnV.call {w w1 : World} {b : Nat} {xs : List (Int × Int)} (h : OwnV w b xs) (hb : Below w.heap.size w w1) : OwnV w1 b xs :=
  ⟨h.1.call hb, fun o => (hb.frozen (by exact h.2.2)).trans (h.2.1 o), Nat.lt_of_lt_of_le h.2.2 hb.size⟩
theorem OwnV.set {w : World} {b c p : Nat} {v : Value} {xs : List (Int × Int)} (h : OwnV w b xs) (hne : c ≠ b) : OwnV (w.setCell ⟨c, p, none⟩ v) b xs := by
  refine ⟨⟨h.1.1, ?_⟩, fun o => (World.frozen?_setCell _ _ _ _).trans (h.2.1 o), by simpa [World.setCell] using h.2.2⟩
  rcases h.1.2 with h0 | ⟨cb, co, e, hc⟩
  · exact .inl h0
  · cases e
    exact .inr ⟨b, 0, rfl, fun i hi => ⟨(World.cell?_setCell_other _ _ _ _ (fun e => hne (congrArg Addr.block e))).trans (hc i hi).1, (World.cell?_setCell_other _ _ _ _ (fun e => hne (congrArg Addr.block e))).trans (hc i hi).2⟩⟩
theorem toInterval_c (s : Int) (z : Int) (w : World) : Calls Tryz.prog 106 #[.agg #[.int .i64 s, .int .i64 z]] w fun e w' => e = .returned (.agg #[.int .i64 s, .int .i64 z]) ∧ Below w.heap.size w w' := by
  go_enter Tryz.func106, Tryz.ntmps106
  go_wp2
  exact bodyPost_ret (v := .agg #[.int .i64 s, .int .i64 z]) (by simp [results, Tryz.results106, go_sem]) rfl ⟨rfl, ((Below.refl _ _).alloc (Nat.le_refl _) _).alloc (by simp) _ |>.alloc (by simp; omega) _⟩
theorem eqInterval_c (s : Int) (z : Int) (w : World) : Calls Tryz.prog 109 #[.agg #[.int .i64 s, .int .i64 z], .agg #[.int .i64 s, .int .i64 z]] w fun e w' => e = .returned (.bool true) ∧ Below w.heap.size w w' := by
  go_enter Tryz.func109, Tryz.ntmps109
  go_wp2
  go_ret
  exact ⟨rfl, ((Below.refl _ _).alloc (Nat.le_refl _) _).alloc (by simp) _⟩
/-- A row of intervals of the call's own that is filled up to k. -/
def FillV (w : World) (g : Nat) (zs : List (Int × Int)) (k : Nat) (wr : World) : Prop :=
  (∀ i, (h : i < zs.length) → i < k → wr.cell? ⟨g, i * 2, none⟩ = some (.int .i64 zs[i].1) ∧ wr.cell? ⟨g, i * 2 + 1, none⟩ = some (.int .i64 zs[i].2)) ∧ (∀ i, i < zs.length → k ≤ i → wr.cell? ⟨g, i * 2, none⟩ = some (.int .i64 0) ∧ wr.cell? ⟨g, i * 2 + 1, none⟩ = some (.int .i64 0)) ∧ (∀ o, wr.frozen? ⟨g, o, none⟩ = false) ∧ g < wr.heap.size ∧ w.heap.size ≤ g ∧ Below w.heap.size w wr
theorem FillV.call {w wr w1 : World} {g k : Nat} {zs : List (Int × Int)} (h : FillV w g zs k wr) (hb : Below wr.heap.size wr w1) : FillV w g zs k w1 := by
  obtain ⟨h1, h2, h3, h4, h5, h6⟩ := h
  have c : ∀ o, w1.cell? ⟨g, o, none⟩ = wr.cell? ⟨g, o, none⟩ := fun o => hb.cell (by exact h4)
  refine ⟨fun i hi hk => by rw [c, c]; exact h1 i hi hk, fun i hi hk => by rw [c, c]; exact h2 i hi hk, fun o => (hb.frozen (by exact h4)).trans (h3 o), Nat.lt_of_lt_of_le h4 hb.size, h5, h6.trans (hb.mono h6.size)⟩
theorem FillV.step {w wr : World} {g k : Nat} {zs : List (Int × Int)} (h : FillV w g zs k wr) (hk : k < zs.length) : FillV w g zs (k + 1) ((wr.setCell ⟨g, k * 2, none⟩ (.int .i64 zs[k].1)).setCell ⟨g, k * 2 + 1, none⟩ (.int .i64 zs[k].2)) := by
  obtain ⟨h1, h2, h3, h4, h5, h6⟩ := h
  have c := h2 k hk (Nat.le_refl _)
  have o : ∀ j, j ≠ k * 2 → j ≠ k * 2 + 1 → ((wr.setCell ⟨g, k * 2, none⟩ (.int .i64 zs[k].1)).setCell ⟨g, k * 2 + 1, none⟩ (.int .i64 zs[k].2)).cell? ⟨g, j, none⟩ = wr.cell? ⟨g, j, none⟩ := fun j j1 j2 => by
    rw [World.cell?_setCell_other _ _ _ _ (fun hh => j2 (congrArg Addr.off hh).symm), World.cell?_setCell_other _ _ _ _ (fun hh => j1 (congrArg Addr.off hh).symm)]
  refine ⟨fun i hi hik => ?_, fun i hi hik => ?_, fun o => by rw [World.frozen?_setCell, World.frozen?_setCell]; exact h3 o, by simpa [World.setCell] using h4, h5, (h6.setCell (by exact h5) _).setCell (by exact h5) _⟩
  · by_cases e : i = k
    · subst e
      refine ⟨?_, World.cell?_setCell_same _ _ (.int .i64 zs[i].2) (?_ : _ = some (.int .i64 0))⟩
      · rw [World.cell?_setCell_other _ _ _ _ (fun hh => by have hh' : i * 2 + 1 = i * 2 := congrArg Addr.off hh; omega)]
        exact World.cell?_setCell_same _ _ _ c.1
      · rw [World.cell?_setCell_other _ _ _ _ (fun hh => by have hh' : i * 2 = i * 2 + 1 := congrArg Addr.off hh; omega)]
        exact c.2
    · rw [o _ (by omega) (by omega), o _ (by omega) (by omega)]
      exact h1 i hi (by omega)
  · rw [o _ (by omega) (by omega), o _ (by omega) (by omega)]
    exact h2 i hi (by omega)
theorem ivInfo : (Tryz.prog.info? 110).map (fun i => (i.zero, i.size, i.bytes)) = some (some (.agg #[.int .i64 0, .int .i64 0]), 2, 16) := by kernel_rfl
theorem makeV_c (n : Nat) (hn : n ≤ 1048576) (zs : List (Int × Int)) (hz : zs.length = n) (w : World) : ∃ w1, (Instr.makeSlice 67 (.int .i64 (n : Int)) (.int .i64 (n : Int))).run Tryz.prog w = .ok (.slice (some ⟨w.heap.size, 0, none⟩) n n) w1 ∧ FillV w w.heap.size zs 0 w1 := by
  obtain ⟨inf, hi, hz0, hz1, hz2⟩ := info_parts ivInfo
  obtain ⟨w1, hr, ho, hg⟩ := run_make_full (P := Tryz.prog) w w.heap.size 67 110 inf (.agg #[.int .i64 0, .int .i64 0]) 2 Tryz.underlying67 hi hz0 hz1 .i64 .i64 n (by rw [hz2]; omega) (by unfold maxLen; omega) (Nat.le_refl _)
  refine ⟨w1, hr, fun i hi h0 => by omega, fun i hi _ => ?_, fun o => ho.frozenAt o, (ho.lt w.heap.size rfl).2, Nat.le_refl _, (Below.refl _ _).grown hg (Nat.le_refl _) (fun j hj => by simp at hj)⟩
  have m := made2 n i (.int .i64 0) (.int .i64 0) (by omega)
  rw [ho.cellAt (i * 2) (by omega), ho.cellAt (i * 2 + 1) (by omega)]
  exact m
set_option maxHeartbeats 400000 in
theorem toIntervalS_c (a : Option Addr) (cap : Nat) (zs : List (Int × Int)) (w : World) (h : Ivs w a zs) : Calls Tryz.prog 92 #[.slice a zs.length cap] w fun e w' => e = .returned (.slice (some ⟨w.heap.size, 0, none⟩) zs.length zs.length) ∧ OwnV w' w.heap.size zs ∧ Below w.heap.size w w' := by
  have hl := h.1
  obtain ⟨L, hL⟩ : ∃ L, L = zs.length := ⟨_, rfl⟩
  rw [← hL] at hl ⊢
  have HL := hide hL
  have HH := hide h
  obtain ⟨w1, hmk, hf⟩ := makeV_c L hl zs hL.symm w
  have HF := hide hf
  have hl' : (L : Int) ≤ 1048576 := by omega
  clear h hL hf
  go_enter Tryz.func92, Tryz.ntmps92
  go_wp2
  go_loopw [4] (fun i wr => ∃ k : Nat, k ≤ L ∧ i = .int .i64 k ∧ FillV w w.heap.size zs k wr) (fun i _ => L - (intOf i).toNat)
  case atStart => exact ⟨0, Nat.zero_le _, rfl, unhide HF⟩
  case round =>
    clear HF hmk
    obtain ⟨k, hk, rfl, hf⟩ := hrel
    by_cases hlt : k < L
    · have hk' : k < zs.length := by rw [← unhide HL]; exact hlt
      obtain ⟨s, hs⟩ : ∃ s, s = zs[k].1 := ⟨_, rfl⟩
      obtain ⟨z, hz⟩ : ∃ z, z = zs[k].2 := ⟨_, rfl⟩
      rcases (unhide HH).2 with h0 | ⟨cb, co, rfl, hc⟩
      · omega
      have hlt' := (unhide HH).lt ⟨cb, co, none⟩ rfl (by omega)
      have c : wr.cell? ⟨cb, co + k * 2, none⟩ = some (.int .i64 s) := (hf.2.2.2.2.2.cell (by exact hlt')).trans (by rw [hs]; exact (hc k hk').1)
      have c1 : wr.cell? ⟨cb, co + k * 2 + 1, none⟩ = some (.int .i64 z) := (hf.2.2.2.2.2.cell (by exact hlt')).trans (by rw [hz]; exact (hc k hk').2)
      have HQ := hide hf
      have Hs := hide hs
      have Hz := hide hz
      clear hc hf hs hz
      go_wp2_with fail
      refine (toInterval_c _ _ _).mono ?_
      rintro e w2 ⟨rfl, hb⟩
      have hf := (unhide HQ).call hb
      have HS := hide (hf.step hk')
      rw [← unhide Hs, ← unhide Hz] at HS
      have c2 := (hf.2.1 k hk' (Nat.le_refl _)).1
      have c3 := (hf.2.1 k hk' (Nat.le_refl _)).2
      have f2 := hf.2.2.1 (k * 2)
      have f3 := hf.2.2.1 (k * 2 + 1)
      clear hf hb HQ c c1
      go_wp2
      go_roundw
      case rel => exact ⟨k + 1, by omega, by go_num, unhide HS⟩
      case measure => simp [intOf]; omega
    · obtain rfl : k = L := by omega
      have HF := hide hf
      clear hf
      go_wp2
      go_ret
      refine ⟨rfl, ⟨⟨by rw [← unhide HL]; exact hl, .inr ⟨w.heap.size, 0, rfl, fun i hi => ?_⟩⟩, (unhide HF).2.2.1, (unhide HF).2.2.2.1⟩, (unhide HF).2.2.2.2.2⟩
      rw [Nat.zero_add]
      exact (unhide HF).1 i hi (by rw [unhide HL]; exact hi)

set_option maxHeartbeats 400000 in
theorem eqIntervalS_c (a b : Option Addr) (c d : Nat) (zs : List (Int × Int)) (w : World) (h : Ivs w a zs) (h2 : Ivs w b zs) : Calls Tryz.prog 105 #[.slice a zs.length c, .slice b zs.length d] w fun e w' => e = .returned (.bool true) ∧ Below w.heap.size w w' := by
  have hl := h.1
  obtain ⟨L, hL⟩ : ∃ L, L = zs.length := ⟨_, rfl⟩
  rw [← hL] at hl ⊢
  have HL := hide hL
  have HH := hide h
  have HG := hide h2
  have hl' : (L : Int) ≤ 1048576 := by omega
  clear h h2 hL
  go_enter Tryz.func105, Tryz.ntmps105
  go_wp2
  go_loopw [5] (fun i wr => ∃ k : Nat, k ≤ L ∧ i = .int .i64 k ∧ Below w.heap.size w wr) (fun i _ => L - (intOf i).toNat)
  case atStart => exact ⟨0, Nat.zero_le _, rfl, Below.refl _ _⟩
  case round =>
    obtain ⟨k, hk, rfl, hb⟩ := hrel
    have HB := hide hb
    by_cases hlt : k < L
    · have hk' : k < zs.length := by rw [← unhide HL]; exact hlt
      obtain ⟨s, hs⟩ : ∃ s, s = zs[k].1 := ⟨_, rfl⟩
      obtain ⟨z, hz⟩ : ∃ z, z = zs[k].2 := ⟨_, rfl⟩
      rcases ((unhide HH).call hb).2 with h0 | ⟨cb, co, rfl, hc⟩
      · omega
      rcases ((unhide HG).call hb).2 with h0 | ⟨eb, eo, rfl, hd⟩
      · omega
      have c1 := (hc k hk').1
      have c2 := (hc k hk').2
      have c3 := (hd k hk').1
      have c4 := (hd k hk').2
      rw [← hs] at c1 c3
      rw [← hz] at c2 c4
      have hk4 : H4 w ⟨cb, co + k * 2, none⟩ ⟨cb, co + k * 2 + 1, none⟩ ⟨eb, eo + k * 2, none⟩ ⟨eb, eo + k * 2 + 1, none⟩ (.int .i64 s) (.int .i64 z) (.int .i64 s) (.int .i64 z) wr := ⟨c1, c2, c3, c4, hb⟩
      clear hs hz hc hd hb
      go_wp2
      go_region_held3 (H4 w ⟨cb, co + k * 2, none⟩ ⟨cb, co + k * 2 + 1, none⟩ ⟨eb, eo + k * 2, none⟩ ⟨eb, eo + k * 2 + 1, none⟩ (.int .i64 s) (.int .i64 z) (.int .i64 s) (.int .i64 z))
        (first | exact H4.drew (by assumption) | exact H4.call hb (by assumption))
        (first | (go_at_call 109; refine (eqInterval_c _ _ _).mono ?_; rintro e w1 ⟨rfl, hb⟩; have hq := H4.call hb (H4.drew hk4)))
      have HQ := hide hq.2.2.2.2
      clear hq hk4 c1 c2 c3 c4 hb
      go_wp2
      go_roundw
      case rel => exact ⟨k + 1, by omega, by go_num, unhide HQ⟩
      case measure => simp [intOf]; omega
    · clear hb
      go_wp2
      go_ret
      exact ⟨rfl, unhide HB⟩
/-- A row of intervals of any length that a machine has. -/
def IvsA (w : World) (a : Option Addr) (xs : List (Int × Int)) : Prop :=
  xs.length ≤ 9223372036854775807 ∧ (xs.length = 0 ∨ ∃ cb co, a = some ⟨cb, co, none⟩ ∧ ∀ i, (h : i < xs.length) → w.cell? ⟨cb, co + i * 2, none⟩ = some (.int .i64 xs[i].1) ∧ w.cell? ⟨cb, co + i * 2 + 1, none⟩ = some (.int .i64 xs[i].2))
theorem IvsA.call {w w1 : World} {a : Option Addr} {xs : List (Int × Int)} (h : IvsA w a xs) (hb : Below w.heap.size w w1) : IvsA w1 a xs := by
  refine ⟨h.1, ?_⟩
  rcases h.2 with h0 | ⟨cb, co, rfl, hc⟩
  · exact .inl h0
  · exact .inr ⟨cb, co, rfl, fun i hi => ⟨(hb.cell (World.block_lt_of_cell? w _ (hc i hi).1)).trans (hc i hi).1, (hb.cell (World.block_lt_of_cell? w _ (hc i hi).2)).trans (hc i hi).2⟩⟩
theorem Ivs.ofA {w : World} {a : Option Addr} {xs : List (Int × Int)} (h : IvsA w a xs) (hl : (xs.length : Int) ≤ 1048576) : Ivs w a xs := ⟨by omega, h.2⟩
def sz1 (n : Nat) (l : Int) : Int := if l - n < 0 then -1 else l - n
theorem sz1_le (n : Nat) (l : Int) (h : 0 ≤ l) : sz1 n l ≤ l ∧ -1 ≤ sz1 n l ∧ (0 ≤ sz1 n l → (n : Int) ≤ l) := by
  unfold sz1
  split <;> omega
theorem szIntervalS_c (a : Option Addr) (n cap : Nat) (left : Int) (hn : n ≤ 9223372036854775807) (h0 : 0 ≤ left) (h1 : left ≤ 1048576) (w : World) : Calls Tryz.prog 88 #[.slice a n cap, .int .i64 left] w fun e w' => e = .returned (.int .i64 (sz1 n left)) ∧ w' = w := by
  have hn' : (n : Int) ≤ 9223372036854775807 := by omega
  unfold sz1
  by_cases hm : left - n < 0
  · rw [if_pos hm]
    go_enter Tryz.func88, Tryz.ntmps88
    go_wp2
    go_ret
    exact ⟨rfl, rfl⟩
  · rw [if_neg hm]
    go_enter Tryz.func88, Tryz.ntmps88
    go_wp2
    go_ret
    exact ⟨rfl, rfl⟩
end Go.Proofs.YthldhjifnpfmiaaGreatDoor
