/- Texts that go together: HeldC, ArrC, IvsC, IntC, BoolC, StoC, StoD, ArrD, HeldD, DeclC, StoE, StoF, StoG, EnvC. -/
import Derived.Test.YtpdnnpnclgcpoaaDoorNaZ
import Derived.Deep.RegionHeld3
import Derived.Laws.OwnMore
import Derived.Deep.QuietTactic
import Derived.BigQuiet
/- Cells that stay over what a drawn region does. -/
namespace Go.Proofs.YtpdnnpnclgcpoaaDoor
open Go.RowKit
set_option linter.unusedSimpArgs false

@[reducible] def H1 (w0 : World) (a1 : Addr) (v1 : Value) (w : World) : Prop := w.cell? a1 = some v1 ∧ Below w0.heap.size w0 w
theorem H1.drew {w0 w : World} {a1 : Addr} {v1 : Value} (h : H1 w0 a1 v1 w) : H1 w0 a1 v1 w.drew := ⟨h.1, h.2.drew⟩
theorem H1.call {w0 w w1 : World} {a1 : Addr} {v1 : Value} (hb : Below w.heap.size w w1) (h : H1 w0 a1 v1 w) : H1 w0 a1 v1 w1 := ⟨(hb.cell (World.block_lt_of_cell? w _ h.1)).trans h.1, h.2.trans (hb.mono h.2.size)⟩
@[reducible] def H2 (w0 : World) (a1 a2 : Addr) (v1 v2 : Value) (w : World) : Prop := w.cell? a1 = some v1 ∧ w.cell? a2 = some v2 ∧ Below w0.heap.size w0 w
theorem H2.drew {w0 w : World} {a1 a2 : Addr} {v1 v2 : Value} (h : H2 w0 a1 a2 v1 v2 w) : H2 w0 a1 a2 v1 v2 w.drew := ⟨h.1, h.2.1, h.2.2.drew⟩
theorem H2.call {w0 w w1 : World} {a1 a2 : Addr} {v1 v2 : Value} (hb : Below w.heap.size w w1) (h : H2 w0 a1 a2 v1 v2 w) : H2 w0 a1 a2 v1 v2 w1 :=
  ⟨(hb.cell (World.block_lt_of_cell? w _ h.1)).trans h.1, (hb.cell (World.block_lt_of_cell? w _ h.2.1)).trans h.2.1, h.2.2.trans (hb.mono h.2.2.size)⟩
@[reducible] def H4 (w0 : World) (a1 a2 a3 a4 : Addr) (v1 v2 v3 v4 : Value) (w : World) : Prop := w.cell? a1 = some v1 ∧ w.cell? a2 = some v2 ∧ w.cell? a3 = some v3 ∧ w.cell? a4 = some v4 ∧ Below w0.heap.size w0 w
theorem H4.drew {w0 w : World} {a1 a2 a3 a4 : Addr} {v1 v2 v3 v4 : Value} (h : H4 w0 a1 a2 a3 a4 v1 v2 v3 v4 w) : H4 w0 a1 a2 a3 a4 v1 v2 v3 v4 w.drew := ⟨h.1, h.2.1, h.2.2.1, h.2.2.2.1, h.2.2.2.2.drew⟩
theorem H4.call {w0 w w1 : World} {a1 a2 a3 a4 : Addr} {v1 v2 v3 v4 : Value} (hb : Below w.heap.size w w1) (h : H4 w0 a1 a2 a3 a4 v1 v2 v3 v4 w) : H4 w0 a1 a2 a3 a4 v1 v2 v3 v4 w1 :=
  ⟨(hb.cell (World.block_lt_of_cell? w _ h.1)).trans h.1, (hb.cell (World.block_lt_of_cell? w _ h.2.1)).trans h.2.1, (hb.cell (World.block_lt_of_cell? w _ h.2.2.1)).trans h.2.2.1, (hb.cell (World.block_lt_of_cell? w _ h.2.2.2.1)).trans h.2.2.2.1, h.2.2.2.2.trans (hb.mono h.2.2.2.2.size)⟩
end Go.Proofs.YtpdnnpnclgcpoaaDoor

/- Rows of arrays' names and sizes; the laws' copies of them. -/
namespace Go.Proofs.YtpdnnpnclgcpoaaDoor
open Go.RowKit
set_option linter.unusedSimpArgs false

/-- So many arrays' names and sizes at an address. -/
def Arrs (w : World) (a : Option Addr) (xs : List (ByteArray × Int)) : Prop :=
  xs.length ≤ 1048576 ∧ (xs.length = 0 ∨ ∃ cb co, a = some ⟨cb, co, none⟩ ∧ ∀ i, (h : i < xs.length) → w.cell? ⟨cb, co + i * 2, none⟩ = some (.string xs[i].1) ∧ w.cell? ⟨cb, co + i * 2 + 1, none⟩ = some (.int .i64 xs[i].2))
theorem Arrs.to {w w1 : World} {a : Option Addr} {xs : List (ByteArray × Int)} {B : Nat} (h : Arrs w a xs) (hb : Below B w w1) (ha : ∀ x, a = some x → 0 < xs.length → x.block < B) : Arrs w1 a xs := by
  refine ⟨h.1, ?_⟩
  rcases h.2 with h0 | ⟨cb, co, rfl, hc⟩
  · exact .inl h0
  · refine .inr ⟨cb, co, rfl, fun i hi => ?_⟩
    have k := ha ⟨cb, co, none⟩ rfl (by omega)
    exact ⟨(hb.cell (by exact k)).trans (hc i hi).1, (hb.cell (by exact k)).trans (hc i hi).2⟩
theorem Arrs.lt {w : World} {a : Option Addr} {xs : List (ByteArray × Int)} (h : Arrs w a xs) : ∀ x, a = some x → 0 < xs.length → x.block < w.heap.size := by
  intro x hx h0
  rcases h.2 with h1 | ⟨cb, co, rfl, hc⟩
  · omega
  · cases hx
    exact World.block_lt_of_cell? w _ (hc 0 h0).1
theorem Arrs.call {w w1 : World} {a : Option Addr} {xs : List (ByteArray × Int)} (h : Arrs w a xs) (hb : Below w.heap.size w w1) : Arrs w1 a xs := h.to hb h.lt
/-- A row of arrays' names and sizes that fills a block of the call's own from its start. -/
def OwnA (w : World) (b : Nat) (xs : List (ByteArray × Int)) : Prop := Arrs w (some ⟨b, 0, none⟩) xs ∧ (∀ o, w.frozen? ⟨b, o, none⟩ = false) ∧ b < w.heap.size
theorem OwnA.call {w w1 : World} {b : Nat} {xs : List (ByteArray × Int)} (h : OwnA w b xs) (hb : Below w.heap.size w w1) : OwnA w1 b xs :=
  ⟨h.1.call hb, fun o => (hb.frozen (by exact h.2.2)).trans (h.2.1 o), Nat.lt_of_lt_of_le h.2.2 hb.size⟩
theorem OwnA.set {w : World} {b c p : Nat} {v : Value} {xs : List (ByteArray × Int)} (h : OwnA w b xs) (hne : c ≠ b) : OwnA (w.setCell ⟨c, p, none⟩ v) b xs := by
  refine ⟨⟨h.1.1, ?_⟩, fun o => (World.frozen?_setCell _ _ _ _).trans (h.2.1 o), by simpa [World.setCell] using h.2.2⟩
  rcases h.1.2 with h0 | ⟨cb, co, e, hc⟩
  · exact .inl h0
  · cases e
    exact .inr ⟨b, 0, rfl, fun i hi => ⟨(World.cell?_setCell_other _ _ _ _ (fun e => hne (congrArg Addr.block e))).trans (hc i hi).1, (World.cell?_setCell_other _ _ _ _ (fun e => hne (congrArg Addr.block e))).trans (hc i hi).2⟩⟩
/-- A row of arrays of the call's own that is filled up to k. -/
def FillA (w : World) (g : Nat) (zs : List (ByteArray × Int)) (k : Nat) (wr : World) : Prop :=
  (∀ i, (h : i < zs.length) → i < k → wr.cell? ⟨g, i * 2, none⟩ = some (.string zs[i].1) ∧ wr.cell? ⟨g, i * 2 + 1, none⟩ = some (.int .i64 zs[i].2)) ∧ (∀ i, i < zs.length → k ≤ i → wr.cell? ⟨g, i * 2, none⟩ = some (.string ⟨#[]⟩) ∧ wr.cell? ⟨g, i * 2 + 1, none⟩ = some (.int .i64 0)) ∧ (∀ o, wr.frozen? ⟨g, o, none⟩ = false) ∧ g < wr.heap.size ∧ w.heap.size ≤ g ∧ Below w.heap.size w wr
theorem FillA.call {w wr w1 : World} {g k : Nat} {zs : List (ByteArray × Int)} (h : FillA w g zs k wr) (hb : Below wr.heap.size wr w1) : FillA w g zs k w1 := by
  obtain ⟨h1, h2, h3, h4, h5, h6⟩ := h
  have c : ∀ o, w1.cell? ⟨g, o, none⟩ = wr.cell? ⟨g, o, none⟩ := fun o => hb.cell (by exact h4)
  refine ⟨fun i hi hk => by rw [c, c]; exact h1 i hi hk, fun i hi hk => by rw [c, c]; exact h2 i hi hk, fun o => (hb.frozen (by exact h4)).trans (h3 o), Nat.lt_of_lt_of_le h4 hb.size, h5, h6.trans (hb.mono h6.size)⟩
theorem FillA.step {w wr : World} {g k : Nat} {zs : List (ByteArray × Int)} (h : FillA w g zs k wr) (hk : k < zs.length) : FillA w g zs (k + 1) ((wr.setCell ⟨g, k * 2, none⟩ (.string zs[k].1)).setCell ⟨g, k * 2 + 1, none⟩ (.int .i64 zs[k].2)) := by
  obtain ⟨h1, h2, h3, h4, h5, h6⟩ := h
  have c := h2 k hk (Nat.le_refl _)
  have o : ∀ j, j ≠ k * 2 → j ≠ k * 2 + 1 → ((wr.setCell ⟨g, k * 2, none⟩ (.string zs[k].1)).setCell ⟨g, k * 2 + 1, none⟩ (.int .i64 zs[k].2)).cell? ⟨g, j, none⟩ = wr.cell? ⟨g, j, none⟩ := fun j j1 j2 => by
    rw [World.cell?_setCell_other _ _ _ _ (fun hh => j2 (congrArg Addr.off hh).symm), World.cell?_setCell_other _ _ _ _ (fun hh => j1 (congrArg Addr.off hh).symm)]
  refine ⟨fun i hi hik => ?_, fun i hi hik => ?_, fun o => by rw [World.frozen?_setCell, World.frozen?_setCell]; exact h3 o, by simpa [World.setCell] using h4, h5, (h6.setCell (by exact h5) _).setCell (by exact h5) _⟩
  · by_cases e : i = k
    · subst e
      refine ⟨?_, World.cell?_setCell_same _ _ (.int .i64 zs[i].2) (?_ : _ = some (.int .i64 0))⟩
      · rw [World.cell?_setCell_other _ _ _ _ (fun hh => by have hh' : i * 2 + 1 = i * 2 := congrArg Addr.off hh; omega)]
        exact World.cell?_setCell_same _ _ _ c.1
      · rw [World.cell?_setCell_other _ _ _ _ (fun hh => by have hh' : i * 2 = i * 2 + 1 := congrArg Addr.off hh; omega)]
        exact c.2
    · rw [o _ (by omega) (by omega), o _ (by omega) (by omega)]
      exact h1 i hi (by omega)
  · rw [o _ (by omega) (by omega), o _ (by omega) (by omega)]
    exact h2 i hi (by omega)
theorem arrInfo : (Tryd.prog.info? 95).map (fun i => (i.zero, i.size, i.bytes)) = some (some (.agg #[.string ⟨#[]⟩, .int .i64 0]), 2, 24) := by kernel_rfl
theorem made2 (n k : Nat) (a b : Value) (h : k < n) : (madeCells #[a, b] (n * 2)).toList[k * 2]? = some a ∧ (madeCells #[a, b] (n * 2)).toList[k * 2 + 1]? = some b := by
  have e1 : k * 2 % 2 = 0 := by omega
  have e2 : (k * 2 + 1) % 2 = 1 := by omega
  have h1 : k * 2 < n * 2 := by omega
  have h2 : k * 2 + 1 < n * 2 := by omega
  constructor
  · simp [madeCells, h1, e1]
  · simp [madeCells, h2, e2]
theorem makeA_c (n : Nat) (hn : n ≤ 1048576) (zs : List (ByteArray × Int)) (hz : zs.length = n) (w : World) : ∃ w1, (Instr.makeSlice 25 (.int .i64 (n : Int)) (.int .i64 (n : Int))).run Tryd.prog w = .ok (.slice (some ⟨w.heap.size, 0, none⟩) n n) w1 ∧ FillA w w.heap.size zs 0 w1 := by
  obtain ⟨inf, hi, hz0, hz1, hz2⟩ := info_parts arrInfo
  obtain ⟨w1, hr, ho, hg⟩ := run_make_full (P := Tryd.prog) w w.heap.size 25 95 inf (.agg #[.string ⟨#[]⟩, .int .i64 0]) 2 Tryd.underlying25 hi hz0 hz1 .i64 .i64 n (by rw [hz2]; omega) (by unfold maxLen; omega) (Nat.le_refl _)
  refine ⟨w1, hr, fun i hi h0 => by omega, fun i hi _ => ?_, fun o => ho.frozenAt o, (ho.lt w.heap.size rfl).2, Nat.le_refl _, (Below.refl _ _).grown hg (Nat.le_refl _) (fun j hj => by simp at hj)⟩
  have m := made2 n i (.string ⟨#[]⟩) (.int .i64 0) (by omega)
  rw [ho.cellAt (i * 2) (by omega), ho.cellAt (i * 2 + 1) (by omega)]
  exact m
end Go.Proofs.YtpdnnpnclgcpoaaDoor

/- Rows of intervals; the laws' copies of them. -/
namespace Go.Proofs.YtpdnnpnclgcpoaaDoor
open Go.RowKit
set_option linter.unusedSimpArgs false

/-- So many intervals at an address. -/
def Ivs (w : World) (a : Option Addr) (xs : List (Int × Int)) : Prop :=
  xs.length ≤ 1048576 ∧ (xs.length = 0 ∨ ∃ cb co, a = some ⟨cb, co, none⟩ ∧ ∀ i, (h : i < xs.length) → w.cell? ⟨cb, co + i * 2, none⟩ = some (.int .i64 xs[i].1) ∧ w.cell? ⟨cb, co + i * 2 + 1, none⟩ = some (.int .i64 xs[i].2))
theorem Ivs.to {w w1 : World} {a : Option Addr} {xs : List (Int × Int)} {B : Nat} (h : Ivs w a xs) (hb : Below B w w1) (ha : ∀ x, a = some x → 0 < xs.length → x.block < B) : Ivs w1 a xs := by
  refine ⟨h.1, ?_⟩
  rcases h.2 with h0 | ⟨cb, co, rfl, hc⟩
  · exact .inl h0
  · refine .inr ⟨cb, co, rfl, fun i hi => ?_⟩
    have k := ha ⟨cb, co, none⟩ rfl (by omega)
    exact ⟨(hb.cell (by exact k)).trans (hc i hi).1, (hb.cell (by exact k)).trans (hc i hi).2⟩
theorem Ivs.lt {w : World} {a : Option Addr} {xs : List (Int × Int)} (h : Ivs w a xs) : ∀ x, a = some x → 0 < xs.length → x.block < w.heap.size := by
  intro x hx h0
  rcases h.2 with h1 | ⟨cb, co, rfl, hc⟩
  · omega
  · cases hx
    exact World.block_lt_of_cell? w _ (hc 0 h0).1
theorem Ivs.call {w w1 : World} {a : Option Addr} {xs : List (Int × Int)} (h : Ivs w a xs) (hb : Below w.heap.size w w1) : Ivs w1 a xs := h.to hb h.lt
/-- A row of intervals that fills a block of the call's own from its start. -/
def OwnV (w : World) (b : Nat) (xs : List (Int × Int)) : Prop := Ivs w (some ⟨b, 0, none⟩) xs ∧ (∀ o, w.frozen? ⟨b, o, none⟩ = false) ∧ b < w.heap.size
theorem OwnV.call {w w1 : World} {b : Nat} {xs : List (Int × Int)} (h : OwnV w b xs) (hb : Below w.heap.size w w1) : OwnV w1 b xs :=
  ⟨h.1.call hb, fun o => (hb.frozen (by exact h.2.2)).trans (h.2.1 o), Nat.lt_of_lt_of_le h.2.2 hb.size⟩
theorem OwnV.set {w : World} {b c p : Nat} {v : Value} {xs : List (Int × Int)} (h : OwnV w b xs) (hne : c ≠ b) : OwnV (w.setCell ⟨c, p, none⟩ v) b xs := by
  refine ⟨⟨h.1.1, ?_⟩, fun o => (World.frozen?_setCell _ _ _ _).trans (h.2.1 o), by simpa [World.setCell] using h.2.2⟩
  rcases h.1.2 with h0 | ⟨cb, co, e, hc⟩
  · exact .inl h0
  · cases e
    exact .inr ⟨b, 0, rfl, fun i hi => ⟨(World.cell?_setCell_other _ _ _ _ (fun e => hne (congrArg Addr.block e))).trans (hc i hi).1, (World.cell?_setCell_other _ _ _ _ (fun e => hne (congrArg Addr.block e))).trans (hc i hi).2⟩⟩
/-- A row of intervals of the call's own that is filled up to k. -/
def FillV (w : World) (g : Nat) (zs : List (Int × Int)) (k : Nat) (wr : World) : Prop :=
  (∀ i, (h : i < zs.length) → i < k → wr.cell? ⟨g, i * 2, none⟩ = some (.int .i64 zs[i].1) ∧ wr.cell? ⟨g, i * 2 + 1, none⟩ = some (.int .i64 zs[i].2)) ∧ (∀ i, i < zs.length → k ≤ i → wr.cell? ⟨g, i * 2, none⟩ = some (.int .i64 0) ∧ wr.cell? ⟨g, i * 2 + 1, none⟩ = some (.int .i64 0)) ∧ (∀ o, wr.frozen? ⟨g, o, none⟩ = false) ∧ g < wr.heap.size ∧ w.heap.size ≤ g ∧ Below w.heap.size w wr
theorem FillV.call {w wr w1 : World} {g k : Nat} {zs : List (Int × Int)} (h : FillV w g zs k wr) (hb : Below wr.heap.size wr w1) : FillV w g zs k w1 := by
  obtain ⟨h1, h2, h3, h4, h5, h6⟩ := h
  have c : ∀ o, w1.cell? ⟨g, o, none⟩ = wr.cell? ⟨g, o, none⟩ := fun o => hb.cell (by exact h4)
  refine ⟨fun i hi hk => by rw [c, c]; exact h1 i hi hk, fun i hi hk => by rw [c, c]; exact h2 i hi hk, fun o => (hb.frozen (by exact h4)).trans (h3 o), Nat.lt_of_lt_of_le h4 hb.size, h5, h6.trans (hb.mono h6.size)⟩
theorem FillV.step {w wr : World} {g k : Nat} {zs : List (Int × Int)} (h : FillV w g zs k wr) (hk : k < zs.length) : FillV w g zs (k + 1) ((wr.setCell ⟨g, k * 2, none⟩ (.int .i64 zs[k].1)).setCell ⟨g, k * 2 + 1, none⟩ (.int .i64 zs[k].2)) := by
  obtain ⟨h1, h2, h3, h4, h5, h6⟩ := h
  have c := h2 k hk (Nat.le_refl _)
  have o : ∀ j, j ≠ k * 2 → j ≠ k * 2 + 1 → ((wr.setCell ⟨g, k * 2, none⟩ (.int .i64 zs[k].1)).setCell ⟨g, k * 2 + 1, none⟩ (.int .i64 zs[k].2)).cell? ⟨g, j, none⟩ = wr.cell? ⟨g, j, none⟩ := fun j j1 j2 => by
    rw [World.cell?_setCell_other _ _ _ _ (fun hh => j2 (congrArg Addr.off hh).symm), World.cell?_setCell_other _ _ _ _ (fun hh => j1 (congrArg Addr.off hh).symm)]
  refine ⟨fun i hi hik => ?_, fun i hi hik => ?_, fun o => by rw [World.frozen?_setCell, World.frozen?_setCell]; exact h3 o, by simpa [World.setCell] using h4, h5, (h6.setCell (by exact h5) _).setCell (by exact h5) _⟩
  · by_cases e : i = k
    · subst e
      refine ⟨?_, World.cell?_setCell_same _ _ (.int .i64 zs[i].2) (?_ : _ = some (.int .i64 0))⟩
      · rw [World.cell?_setCell_other _ _ _ _ (fun hh => by have hh' : i * 2 + 1 = i * 2 := congrArg Addr.off hh; omega)]
        exact World.cell?_setCell_same _ _ _ c.1
      · rw [World.cell?_setCell_other _ _ _ _ (fun hh => by have hh' : i * 2 = i * 2 + 1 := congrArg Addr.off hh; omega)]
        exact c.2
    · rw [o _ (by omega) (by omega), o _ (by omega) (by omega)]
      exact h1 i hi (by omega)
  · rw [o _ (by omega) (by omega), o _ (by omega) (by omega)]
    exact h2 i hi (by omega)
theorem ivInfo : (Tryd.prog.info? 81).map (fun i => (i.zero, i.size, i.bytes)) = some (some (.agg #[.int .i64 0, .int .i64 0]), 2, 16) := by kernel_rfl
theorem makeV_c (n : Nat) (hn : n ≤ 1048576) (zs : List (Int × Int)) (hz : zs.length = n) (w : World) : ∃ w1, (Instr.makeSlice 41 (.int .i64 (n : Int)) (.int .i64 (n : Int))).run Tryd.prog w = .ok (.slice (some ⟨w.heap.size, 0, none⟩) n n) w1 ∧ FillV w w.heap.size zs 0 w1 := by
  obtain ⟨inf, hi, hz0, hz1, hz2⟩ := info_parts ivInfo
  obtain ⟨w1, hr, ho, hg⟩ := run_make_full (P := Tryd.prog) w w.heap.size 41 81 inf (.agg #[.int .i64 0, .int .i64 0]) 2 Tryd.underlying41 hi hz0 hz1 .i64 .i64 n (by rw [hz2]; omega) (by unfold maxLen; omega) (Nat.le_refl _)
  refine ⟨w1, hr, fun i hi h0 => by omega, fun i hi _ => ?_, fun o => ho.frozenAt o, (ho.lt w.heap.size rfl).2, Nat.le_refl _, (Below.refl _ _).grown hg (Nat.le_refl _) (fun j hj => by simp at hj)⟩
  have m := made2 n i (.int .i64 0) (.int .i64 0) (by omega)
  rw [ho.cellAt (i * 2) (by omega), ho.cellAt (i * 2 + 1) (by omega)]
  exact m
/-- A row of intervals of any length that a machine has. -/
def IvsA (w : World) (a : Option Addr) (xs : List (Int × Int)) : Prop :=
  xs.length ≤ 9223372036854775807 ∧ (xs.length = 0 ∨ ∃ cb co, a = some ⟨cb, co, none⟩ ∧ ∀ i, (h : i < xs.length) → w.cell? ⟨cb, co + i * 2, none⟩ = some (.int .i64 xs[i].1) ∧ w.cell? ⟨cb, co + i * 2 + 1, none⟩ = some (.int .i64 xs[i].2))
theorem IvsA.call {w w1 : World} {a : Option Addr} {xs : List (Int × Int)} (h : IvsA w a xs) (hb : Below w.heap.size w w1) : IvsA w1 a xs := by
  refine ⟨h.1, ?_⟩
  rcases h.2 with h0 | ⟨cb, co, rfl, hc⟩
  · exact .inl h0
  · exact .inr ⟨cb, co, rfl, fun i hi => ⟨(hb.cell (World.block_lt_of_cell? w _ (hc i hi).1)).trans (hc i hi).1, (hb.cell (World.block_lt_of_cell? w _ (hc i hi).2)).trans (hc i hi).2⟩⟩
theorem Ivs.ofA {w : World} {a : Option Addr} {xs : List (Int × Int)} (h : IvsA w a xs) (hl : (xs.length : Int) ≤ 1048576) : Ivs w a xs := ⟨by omega, h.2⟩
def sz1 (n : Nat) (l : Int) : Int := if l - n < 0 then -1 else l - n
theorem sz1_le (n : Nat) (l : Int) (h : 0 ≤ l) : sz1 n l ≤ l ∧ -1 ≤ sz1 n l ∧ (0 ≤ sz1 n l → (n : Int) ≤ l) := by
  unfold sz1
  split <;> omega
end Go.Proofs.YtpdnnpnclgcpoaaDoor

/- Rows of numbers; the laws' copies of them. -/
namespace Go.Proofs.YtpdnnpnclgcpoaaDoor
open Go.RowKit
set_option linter.unusedSimpArgs false

/-- So many numbers at an address. -/
def Ints (w : World) (a : Option Addr) (xs : List Int) : Prop :=
  xs.length ≤ 1048576 ∧ (xs.length = 0 ∨ ∃ cb co, a = some ⟨cb, co, none⟩ ∧ ∀ i, (h : i < xs.length) → w.cell? ⟨cb, co + i, none⟩ = some (.int .i64 xs[i]))
theorem Ints.to {w w1 : World} {a : Option Addr} {xs : List Int} {B : Nat} (h : Ints w a xs) (hb : Below B w w1) (ha : ∀ x, a = some x → 0 < xs.length → x.block < B) : Ints w1 a xs := by
  refine ⟨h.1, ?_⟩
  rcases h.2 with h0 | ⟨cb, co, rfl, hc⟩
  · exact .inl h0
  · exact .inr ⟨cb, co, rfl, fun i hi => (hb.cell (by exact ha ⟨cb, co, none⟩ rfl (by omega))).trans (hc i hi)⟩
theorem Ints.lt {w : World} {a : Option Addr} {xs : List Int} (h : Ints w a xs) : ∀ x, a = some x → 0 < xs.length → x.block < w.heap.size := by
  intro x hx h0
  rcases h.2 with h1 | ⟨cb, co, rfl, hc⟩
  · omega
  · cases hx
    exact World.block_lt_of_cell? w _ (hc 0 h0)
theorem Ints.call {w w1 : World} {a : Option Addr} {xs : List Int} (h : Ints w a xs) (hb : Below w.heap.size w w1) : Ints w1 a xs := h.to hb h.lt
/-- A row of numbers that fills a block of the call's own from its start. -/
def OwnI (w : World) (b : Nat) (xs : List Int) : Prop := Ints w (some ⟨b, 0, none⟩) xs ∧ (∀ o, w.frozen? ⟨b, o, none⟩ = false) ∧ b < w.heap.size
theorem OwnI.call {w w1 : World} {b : Nat} {xs : List Int} (h : OwnI w b xs) (hb : Below w.heap.size w w1) : OwnI w1 b xs :=
  ⟨h.1.call hb, fun o => (hb.frozen (by exact h.2.2)).trans (h.2.1 o), Nat.lt_of_lt_of_le h.2.2 hb.size⟩
theorem OwnI.set {w : World} {b c p : Nat} {v : Value} {xs : List Int} (h : OwnI w b xs) (hne : c ≠ b) : OwnI (w.setCell ⟨c, p, none⟩ v) b xs := by
  refine ⟨⟨h.1.1, ?_⟩, fun o => (World.frozen?_setCell _ _ _ _).trans (h.2.1 o), by simpa [World.setCell] using h.2.2⟩
  rcases h.1.2 with h0 | ⟨cb, co, e, hc⟩
  · exact .inl h0
  · cases e
    exact .inr ⟨b, 0, rfl, fun i hi => (World.cell?_setCell_other _ _ _ _ (fun e => hne (congrArg Addr.block e))).trans (hc i hi)⟩
/-- A row of the call's own that is filled up to k. -/
def FillI (w : World) (g : Nat) (zs : List Int) (k : Nat) (wr : World) : Prop :=
  (∀ i, (h : i < zs.length) → i < k → wr.cell? ⟨g, i, none⟩ = some (.int .i64 zs[i])) ∧ (∀ i, i < zs.length → k ≤ i → wr.cell? ⟨g, i, none⟩ = some (.int .i64 0)) ∧ (∀ o, wr.frozen? ⟨g, o, none⟩ = false) ∧ g < wr.heap.size ∧ w.heap.size ≤ g ∧ Below w.heap.size w wr
theorem FillI.step {w wr : World} {g k : Nat} {zs : List Int} (h : FillI w g zs k wr) (hk : k < zs.length) : FillI w g zs (k + 1) (wr.setCell ⟨g, k, none⟩ (.int .i64 zs[k])) := by
  obtain ⟨h1, h2, h3, h4, h5, h6⟩ := h
  have c := h2 k hk (Nat.le_refl _)
  refine ⟨fun i hi hik => ?_, fun i hi hik => ?_, fun o => (World.frozen?_setCell _ _ _ _).trans (h3 o), by simpa [World.setCell] using h4, h5, h6.setCell (by exact h5) _⟩
  · by_cases e : i = k
    · subst e
      exact World.cell?_setCell_same _ _ _ c
    · rw [World.cell?_setCell_other _ _ _ _ (fun hh => by have hh' : k = i := congrArg Addr.off hh; omega)]
      exact h1 i hi (by omega)
  · rw [World.cell?_setCell_other _ _ _ _ (fun hh => by have hh' : k = i := congrArg Addr.off hh; omega)]
    exact h2 i hi (by omega)
theorem i64Info : (Tryd.prog.info? 2).map (fun i => (i.zero, i.size, i.bytes)) = some (some (.int .i64 0), 1, 8) := by kernel_rfl
theorem makeI_c (n : Nat) (hn : n ≤ 1048576) (zs : List Int) (hz : zs.length = n) (w : World) : ∃ w1, (Instr.makeSlice 31 (.int .i64 (n : Int)) (.int .i64 (n : Int))).run Tryd.prog w = .ok (.slice (some ⟨w.heap.size, 0, none⟩) n n) w1 ∧ FillI w w.heap.size zs 0 w1 := by
  obtain ⟨inf, hi, hz0, hz1, hz2⟩ := info_parts i64Info
  obtain ⟨w1, hr, ho, hg⟩ := run_make_full (P := Tryd.prog) w w.heap.size 31 2 inf (.int .i64 0) 1 Tryd.underlying31 hi hz0 hz1 .i64 .i64 n (by rw [hz2]; omega) (by unfold maxLen; omega) (Nat.le_refl _)
  refine ⟨w1, hr, fun i hi h0 => by omega, fun i hi _ => ?_, fun o => ho.frozenAt o, (ho.lt w.heap.size rfl).2, Nat.le_refl _, (Below.refl _ _).grown hg (Nat.le_refl _) (fun j hj => by simp at hj)⟩
  rw [ho.cellAt i (by omega)]
  rw [show (Value.int .i64 0).cells = #[.int .i64 0] from rfl, toList_madeCells_one, List.getElem?_replicate, if_pos (by omega)]

end Go.Proofs.YtpdnnpnclgcpoaaDoor

/- Rows of truths; the laws' copies of them. -/
namespace Go.Proofs.YtpdnnpnclgcpoaaDoor
open Go.RowKit
set_option linter.unusedSimpArgs false

/-- So many truths at an address. -/
def Bools (w : World) (a : Option Addr) (xs : List Bool) : Prop :=
  xs.length ≤ 1048576 ∧ (xs.length = 0 ∨ ∃ cb co, a = some ⟨cb, co, none⟩ ∧ ∀ i, (h : i < xs.length) → w.cell? ⟨cb, co + i, none⟩ = some (.bool xs[i]))
theorem Bools.to {w w1 : World} {a : Option Addr} {xs : List Bool} {B : Nat} (h : Bools w a xs) (hb : Below B w w1) (ha : ∀ x, a = some x → 0 < xs.length → x.block < B) : Bools w1 a xs := by
  refine ⟨h.1, ?_⟩
  rcases h.2 with h0 | ⟨cb, co, rfl, hc⟩
  · exact .inl h0
  · exact .inr ⟨cb, co, rfl, fun i hi => (hb.cell (by exact ha ⟨cb, co, none⟩ rfl (by omega))).trans (hc i hi)⟩
theorem Bools.lt {w : World} {a : Option Addr} {xs : List Bool} (h : Bools w a xs) : ∀ x, a = some x → 0 < xs.length → x.block < w.heap.size := by
  intro x hx h0
  rcases h.2 with h1 | ⟨cb, co, rfl, hc⟩
  · omega
  · cases hx
    exact World.block_lt_of_cell? w _ (hc 0 h0)
theorem Bools.call {w w1 : World} {a : Option Addr} {xs : List Bool} (h : Bools w a xs) (hb : Below w.heap.size w w1) : Bools w1 a xs := h.to hb h.lt
/-- A row of truths that fills a block of the call's own from its start. -/
def OwnB (w : World) (b : Nat) (xs : List Bool) : Prop := Bools w (some ⟨b, 0, none⟩) xs ∧ (∀ o, w.frozen? ⟨b, o, none⟩ = false) ∧ b < w.heap.size
theorem OwnB.call {w w1 : World} {b : Nat} {xs : List Bool} (h : OwnB w b xs) (hb : Below w.heap.size w w1) : OwnB w1 b xs :=
  ⟨h.1.call hb, fun o => (hb.frozen (by exact h.2.2)).trans (h.2.1 o), Nat.lt_of_lt_of_le h.2.2 hb.size⟩
theorem OwnB.set {w : World} {b c p : Nat} {v : Value} {xs : List Bool} (h : OwnB w b xs) (hne : c ≠ b) : OwnB (w.setCell ⟨c, p, none⟩ v) b xs := by
  refine ⟨⟨h.1.1, ?_⟩, fun o => (World.frozen?_setCell _ _ _ _).trans (h.2.1 o), by simpa [World.setCell] using h.2.2⟩
  rcases h.1.2 with h0 | ⟨cb, co, e, hc⟩
  · exact .inl h0
  · cases e
    exact .inr ⟨b, 0, rfl, fun i hi => (World.cell?_setCell_other _ _ _ _ (fun e => hne (congrArg Addr.block e))).trans (hc i hi)⟩
/-- A row of the call's own that is filled up to k. -/
def FillB (w : World) (g : Nat) (zs : List Bool) (k : Nat) (wr : World) : Prop :=
  (∀ i, (h : i < zs.length) → i < k → wr.cell? ⟨g, i, none⟩ = some (.bool zs[i])) ∧ (∀ i, i < zs.length → k ≤ i → wr.cell? ⟨g, i, none⟩ = some (.bool false)) ∧ (∀ o, wr.frozen? ⟨g, o, none⟩ = false) ∧ g < wr.heap.size ∧ w.heap.size ≤ g ∧ Below w.heap.size w wr
theorem FillB.step {w wr : World} {g k : Nat} {zs : List Bool} (h : FillB w g zs k wr) (hk : k < zs.length) : FillB w g zs (k + 1) (wr.setCell ⟨g, k, none⟩ (.bool zs[k])) := by
  obtain ⟨h1, h2, h3, h4, h5, h6⟩ := h
  have c := h2 k hk (Nat.le_refl _)
  refine ⟨fun i hi hik => ?_, fun i hi hik => ?_, fun o => (World.frozen?_setCell _ _ _ _).trans (h3 o), by simpa [World.setCell] using h4, h5, h6.setCell (by exact h5) _⟩
  · by_cases e : i = k
    · subst e
      exact World.cell?_setCell_same _ _ _ c
    · rw [World.cell?_setCell_other _ _ _ _ (fun hh => by have hh' : k = i := congrArg Addr.off hh; omega)]
      exact h1 i hi (by omega)
  · rw [World.cell?_setCell_other _ _ _ _ (fun hh => by have hh' : k = i := congrArg Addr.off hh; omega)]
    exact h2 i hi (by omega)
theorem boolInfo : (Tryd.prog.info? 4).map (fun i => (i.zero, i.size, i.bytes)) = some (some (.bool false), 1, 1) := by kernel_rfl
theorem makeB_c (n : Nat) (hn : n ≤ 1048576) (zs : List Bool) (hz : zs.length = n) (w : World) : ∃ w1, (Instr.makeSlice 32 (.int .i64 (n : Int)) (.int .i64 (n : Int))).run Tryd.prog w = .ok (.slice (some ⟨w.heap.size, 0, none⟩) n n) w1 ∧ FillB w w.heap.size zs 0 w1 := by
  obtain ⟨inf, hi, hz0, hz1, hz2⟩ := info_parts boolInfo
  obtain ⟨w1, hr, ho, hg⟩ := run_make_full (P := Tryd.prog) w w.heap.size 32 4 inf (.bool false) 1 Tryd.underlying32 hi hz0 hz1 .i64 .i64 n (by rw [hz2]; omega) (by unfold maxLen; omega) (Nat.le_refl _)
  refine ⟨w1, hr, fun i hi h0 => by omega, fun i hi _ => ?_, fun o => ho.frozenAt o, (ho.lt w.heap.size rfl).2, Nat.le_refl _, (Below.refl _ _).grown hg (Nat.le_refl _) (fun j hj => by simp at hj)⟩
  rw [ho.cellAt i (by omega)]
  rw [show (Value.bool false).cells = #[.bool false] from rfl, toList_madeCells_one, List.getElem?_replicate, if_pos (by omega)]

end Go.Proofs.YtpdnnpnclgcpoaaDoor

/- How much of a size is left behind rows of numbers and of truths. -/
namespace Go.Proofs.YtpdnnpnclgcpoaaDoor
open Go.RowKit
set_option linter.unusedSimpArgs false

end Go.Proofs.YtpdnnpnclgcpoaaDoor

/- Rows of rows of numbers; the laws' copies of them. -/
namespace Go.Proofs.YtpdnnpnclgcpoaaDoor
open Go.RowKit
set_option linter.unusedSimpArgs false

/-- So many rows of numbers at an address. -/
def Mats (w : World) (a : Option Addr) (xss : List (List Int)) : Prop :=
  xss.length ≤ 1048576 ∧ (xss.length = 0 ∨ ∃ cb co, a = some ⟨cb, co, none⟩ ∧ ∀ i, (h : i < xss.length) → ∃ b c, w.cell? ⟨cb, co + i, none⟩ = some (.slice b xss[i].length c) ∧ Ints w b xss[i])
theorem Mats.call {w w1 : World} {a : Option Addr} {xss : List (List Int)} (h : Mats w a xss) (hb : Below w.heap.size w w1) : Mats w1 a xss := by
  refine ⟨h.1, ?_⟩
  rcases h.2 with h0 | ⟨cb, co, rfl, hc⟩
  · exact .inl h0
  · refine .inr ⟨cb, co, rfl, fun i hi => ?_⟩
    obtain ⟨b, c, h1, h2⟩ := hc i hi
    exact ⟨b, c, (hb.cell (World.block_lt_of_cell? w _ h1)).trans h1, h2.call hb⟩
/-- A row of rows of the call's own that is filled up to k. -/
def FillJ (w : World) (g : Nat) (zss : List (List Int)) (k : Nat) (wr : World) : Prop :=
  (∀ i, (h : i < zss.length) → i < k → ∃ gi, g < gi ∧ wr.cell? ⟨g, i, none⟩ = some (.slice (some ⟨gi, 0, none⟩) zss[i].length zss[i].length) ∧ OwnI wr gi zss[i]) ∧ (∀ i, i < zss.length → k ≤ i → wr.cell? ⟨g, i, none⟩ = some (.slice none 0 0)) ∧ (∀ o, wr.frozen? ⟨g, o, none⟩ = false) ∧ g < wr.heap.size ∧ w.heap.size ≤ g ∧ Below w.heap.size w wr
theorem FillJ.call {w wr w1 : World} {g k : Nat} {zss : List (List Int)} (h : FillJ w g zss k wr) (hb : Below wr.heap.size wr w1) : FillJ w g zss k w1 := by
  obtain ⟨h1, h2, h3, h4, h5, h6⟩ := h
  have c : ∀ o, w1.cell? ⟨g, o, none⟩ = wr.cell? ⟨g, o, none⟩ := fun o => hb.cell (by exact h4)
  refine ⟨fun i hi hk => ?_, fun i hi hk => by rw [c]; exact h2 i hi hk, fun o => (hb.frozen (by exact h4)).trans (h3 o), Nat.lt_of_lt_of_le h4 hb.size, h5, h6.trans (hb.mono h6.size)⟩
  obtain ⟨gi, q0, q1, q2⟩ := h1 i hi hk
  exact ⟨gi, q0, by rw [c]; exact q1, q2.call hb⟩
theorem FillJ.step {w wr : World} {g k gk : Nat} {zss : List (List Int)} (h : FillJ w g zss k wr) (hk : k < zss.length) (hg : g < gk) (ho : OwnI wr gk zss[k]) : FillJ w g zss (k + 1) (wr.setCell ⟨g, k, none⟩ (.slice (some ⟨gk, 0, none⟩) zss[k].length zss[k].length)) := by
  obtain ⟨h1, h2, h3, h4, h5, h6⟩ := h
  have c := h2 k hk (Nat.le_refl _)
  refine ⟨fun i hi hik => ?_, fun i hi hik => ?_, fun o => (World.frozen?_setCell _ _ _ _).trans (h3 o), by simpa [World.setCell] using h4, h5, h6.setCell (by exact h5) _⟩
  · by_cases e : i = k
    · subst e
      exact ⟨gk, hg, World.cell?_setCell_same _ _ _ c, ho.set (by omega)⟩
    · obtain ⟨gi, q0, q1, q2⟩ := h1 i hi (by omega)
      refine ⟨gi, q0, ?_, q2.set (by omega)⟩
      rw [World.cell?_setCell_other _ _ _ _ (fun hh => by have hh' : k = i := congrArg Addr.off hh; omega)]
      exact q1
  · rw [World.cell?_setCell_other _ _ _ _ (fun hh => by have hh' : k = i := congrArg Addr.off hh; omega)]
    exact h2 i hi (by omega)
theorem matInfo : (Tryd.prog.info? 31).map (fun i => (i.zero, i.size, i.bytes)) = some (some (.slice none 0 0), 1, 24) := by kernel_rfl
theorem makeJ_c (n : Nat) (hn : n ≤ 1048576) (zss : List (List Int)) (hz : zss.length = n) (w : World) : ∃ w1, (Instr.makeSlice 33 (.int .i64 (n : Int)) (.int .i64 (n : Int))).run Tryd.prog w = .ok (.slice (some ⟨w.heap.size, 0, none⟩) n n) w1 ∧ FillJ w w.heap.size zss 0 w1 := by
  obtain ⟨inf, hi, hz0, hz1, hz2⟩ := info_parts matInfo
  obtain ⟨w1, hr, ho, hg⟩ := run_make_full (P := Tryd.prog) w w.heap.size 33 31 inf (.slice none 0 0) 1 Tryd.underlying33 hi hz0 hz1 .i64 .i64 n (by rw [hz2]; omega) (by unfold maxLen; omega) (Nat.le_refl _)
  refine ⟨w1, hr, fun i hi h0 => by omega, fun i hi _ => ?_, fun o => ho.frozenAt o, (ho.lt w.heap.size rfl).2, Nat.le_refl _, (Below.refl _ _).grown hg (Nat.le_refl _) (fun j hj => by simp at hj)⟩
  rw [ho.cellAt i (by omega)]
  rw [show (Value.slice none 0 0).cells = #[.slice none 0 0] from rfl, toList_madeCells_one, List.getElem?_replicate, if_pos (by omega)]
/-- A row of rows of the call's own. -/
def OwnJ (w : World) (b : Nat) (xss : List (List Int)) : Prop := xss.length ≤ 1048576 ∧ (∀ i, (h : i < xss.length) → ∃ gi, b < gi ∧ w.cell? ⟨b, i, none⟩ = some (.slice (some ⟨gi, 0, none⟩) xss[i].length xss[i].length) ∧ OwnI w gi xss[i]) ∧ (∀ o, w.frozen? ⟨b, o, none⟩ = false) ∧ b < w.heap.size
end Go.Proofs.YtpdnnpnclgcpoaaDoor

/- How much of a size is left behind a row of arrays' names. -/
namespace Go.Proofs.YtpdnnpnclgcpoaaDoor
open Go.RowKit
set_option linter.unusedSimpArgs false

/-- A row of arrays of any length that a machine has. -/
def ArrsA (w : World) (a : Option Addr) (xs : List (ByteArray × Int)) : Prop :=
  xs.length ≤ 9223372036854775807 ∧ (∀ i, (h : i < xs.length) → xs[i].1.size ≤ 9223372036854775807) ∧ (xs.length = 0 ∨ ∃ cb co, a = some ⟨cb, co, none⟩ ∧ ∀ i, (h : i < xs.length) → w.cell? ⟨cb, co + i * 2, none⟩ = some (.string xs[i].1) ∧ w.cell? ⟨cb, co + i * 2 + 1, none⟩ = some (.int .i64 xs[i].2))
theorem ArrsA.call {w w1 : World} {a : Option Addr} {xs : List (ByteArray × Int)} (h : ArrsA w a xs) (hb : Below w.heap.size w w1) : ArrsA w1 a xs := by
  refine ⟨h.1, h.2.1, ?_⟩
  rcases h.2.2 with h0 | ⟨cb, co, rfl, hc⟩
  · exact .inl h0
  · exact .inr ⟨cb, co, rfl, fun i hi => ⟨(hb.cell (World.block_lt_of_cell? w _ (hc i hi).1)).trans (hc i hi).1, (hb.cell (World.block_lt_of_cell? w _ (hc i hi).2)).trans (hc i hi).2⟩⟩
theorem StrsA.call {w w1 : World} {a : Option Addr} {xs : List ByteArray} (h : StrsA w a xs) (hb : Below w.heap.size w w1) : StrsA w1 a xs := by
  refine ⟨h.1, h.2.1, ?_⟩
  rcases h.2.2 with h0 | ⟨cb, co, rfl, hc⟩
  · exact .inl h0
  · exact .inr ⟨cb, co, rfl, fun i hi => (hb.cell (World.block_lt_of_cell? w _ (hc i hi))).trans (hc i hi)⟩
def szA (xs : List (ByteArray × Int)) (l : Int) : Int := szS (xs.map (·.1)) l
end Go.Proofs.YtpdnnpnclgcpoaaDoor

/- Structs of three cells of the call's own, kept over calls and stores. -/
namespace Go.Proofs.YtpdnnpnclgcpoaaDoor
open Go.RowKit
set_option linter.unusedSimpArgs false

/-- Three cells of a block that may be written. -/
def C3 (u : World) (b : Nat) (x y z : Value) : Prop :=
  u.cell? ⟨b, 0, none⟩ = some x ∧ u.cell? ⟨b, 1, none⟩ = some y ∧ u.cell? ⟨b, 2, none⟩ = some z ∧ (∀ o, u.frozen? ⟨b, o, none⟩ = false)
theorem C3.lt {u : World} {b : Nat} {x y z : Value} (h : C3 u b x y z) : b < u.heap.size := World.block_lt_of_cell? u _ h.1
theorem C3.call {u v : World} {b : Nat} {x y z : Value} (h : C3 u b x y z) (hb : Below u.heap.size u v) : C3 v b x y z := by
  have k : b < u.heap.size := h.lt
  exact ⟨(hb.cell (by exact k)).trans h.1, (hb.cell (by exact k)).trans h.2.1, (hb.cell (by exact k)).trans h.2.2.1, fun o => (hb.frozen (by exact k)).trans (h.2.2.2 o)⟩
theorem C3.alloc {u : World} {b : Nat} {x y z : Value} (h : C3 u b x y z) (o : Obj) : C3 (u.alloc o) b x y z := h.call ((Below.refl _ u).alloc (Nat.le_refl _) o)
theorem C3.set0 {u : World} {b : Nat} {x y z : Value} (h : C3 u b x y z) (v : Value) : C3 (u.setCell ⟨b, 0, none⟩ v) b v y z := by
  refine ⟨World.cell?_setCell_same _ _ _ h.1, ?_, ?_, fun o => (World.frozen?_setCell _ _ _ _).trans (h.2.2.2 o)⟩
  · rw [World.cell?_setCell_other _ _ _ _ (by simp)]; exact h.2.1
  · rw [World.cell?_setCell_other _ _ _ _ (by simp)]; exact h.2.2.1
theorem C3.set1 {u : World} {b : Nat} {x y z : Value} (h : C3 u b x y z) (v : Value) : C3 (u.setCell ⟨b, 1, none⟩ v) b x v z := by
  refine ⟨?_, World.cell?_setCell_same _ _ _ h.2.1, ?_, fun o => (World.frozen?_setCell _ _ _ _).trans (h.2.2.2 o)⟩
  · rw [World.cell?_setCell_other _ _ _ _ (by simp)]; exact h.1
  · rw [World.cell?_setCell_other _ _ _ _ (by simp)]; exact h.2.2.1
theorem C3.set2 {u : World} {b : Nat} {x y z : Value} (h : C3 u b x y z) (v : Value) : C3 (u.setCell ⟨b, 2, none⟩ v) b x y v := by
  refine ⟨?_, ?_, World.cell?_setCell_same _ _ _ h.2.2.1, fun o => (World.frozen?_setCell _ _ _ _).trans (h.2.2.2 o)⟩
  · rw [World.cell?_setCell_other _ _ _ _ (by simp)]; exact h.1
  · rw [World.cell?_setCell_other _ _ _ _ (by simp)]; exact h.2.1
theorem C3.other {u : World} {b c o : Nat} {x y z v : Value} (h : C3 u b x y z) (hne : c ≠ b) : C3 (u.setCell ⟨c, o, none⟩ v) b x y z := by
  refine ⟨?_, ?_, ?_, fun o => (World.frozen?_setCell _ _ _ _).trans (h.2.2.2 o)⟩
  · rw [World.cell?_setCell_other _ _ _ _ (fun e => hne (congrArg Addr.block e))]; exact h.1
  · rw [World.cell?_setCell_other _ _ _ _ (fun e => hne (congrArg Addr.block e))]; exact h.2.1
  · rw [World.cell?_setCell_other _ _ _ _ (fun e => hne (congrArg Addr.block e))]; exact h.2.2.1
theorem C3.new (u : World) (x y z : Value) (t : TypeId) : C3 (u.alloc (Obj.cells #[x, y, z] t)) u.heap.size x y z := by
  refine ⟨?_, ?_, ?_, ?_⟩
  · unfold World.cell?; rw [heap_alloc_new]; rfl
  · unfold World.cell?; rw [heap_alloc_new]; rfl
  · unfold World.cell?; rw [heap_alloc_new]; rfl
  · intro o; unfold World.frozen?; rw [heap_alloc_new]; simp
@[reducible] def H6 (w0 : World) (b c : Nat) (x y z p q r : Value) (w : World) : Prop := w.cell? ⟨b, 0, none⟩ = some x ∧ w.cell? ⟨b, 1, none⟩ = some y ∧ w.cell? ⟨b, 2, none⟩ = some z ∧ w.cell? ⟨c, 0, none⟩ = some p ∧ w.cell? ⟨c, 1, none⟩ = some q ∧ w.cell? ⟨c, 2, none⟩ = some r ∧ C3 w b x y z ∧ C3 w c p q r ∧ Below w0.heap.size w0 w
theorem H6.of {w0 w : World} {b c : Nat} {x y z p q r : Value} (h : C3 w b x y z) (k : C3 w c p q r) (hb : Below w0.heap.size w0 w) : H6 w0 b c x y z p q r w := ⟨h.1, h.2.1, h.2.2.1, k.1, k.2.1, k.2.2.1, h, k, hb⟩
theorem H6.below {w0 w : World} {b c : Nat} {x y z p q r : Value} (h : H6 w0 b c x y z p q r w) : Below w0.heap.size w0 w := h.2.2.2.2.2.2.2.2
theorem H6.drew {w0 w : World} {b c : Nat} {x y z p q r : Value} (h : H6 w0 b c x y z p q r w) : H6 w0 b c x y z p q r w.drew := ⟨h.1, h.2.1, h.2.2.1, h.2.2.2.1, h.2.2.2.2.1, h.2.2.2.2.2.1, h.2.2.2.2.2.2.1, h.2.2.2.2.2.2.2.1, h.below.drew⟩
theorem H6.call {w0 w w1 : World} {b c : Nat} {x y z p q r : Value} (hb : Below w.heap.size w w1) (h : H6 w0 b c x y z p q r w) : H6 w0 b c x y z p q r w1 := H6.of (h.2.2.2.2.2.2.1.call hb) (h.2.2.2.2.2.2.2.1.call hb) (h.below.trans (hb.mono h.below.size))
theorem size_setCell (u : World) (a : Addr) (v : Value) : (u.setCell a v).heap.size = u.heap.size := by simp [World.setCell]
end Go.Proofs.YtpdnnpnclgcpoaaDoor

/- Declarations: the laws' copies of them. -/
namespace Go.Proofs.YtpdnnpnclgcpoaaDoor
open Go.RowKit
set_option linter.unusedSimpArgs false

theorem bcl {W w1 : World} (hb : Below W.heap.size W w1) : (∀ b o, b < W.heap.size → w1.cell? ⟨b, o, none⟩ = W.cell? ⟨b, o, none⟩) ∧ (∀ b o, b < W.heap.size → w1.frozen? ⟨b, o, none⟩ = W.frozen? ⟨b, o, none⟩) :=
  ⟨fun b o h => hb.cell (p := ⟨b, o, none⟩) h, fun b o h => hb.frozen (p := ⟨b, o, none⟩) h⟩
theorem bdrew (u : World) (n : Nat) : Below u.heap.size u (u.drewN n) := ⟨rfl, rfl, rfl, Nat.le_refl _, fun _ _ => rfl⟩
/-- How much of a size is left behind a declaration. -/
def szD (vs fs : List ByteArray) (rs : List (ByteArray × Int)) (l : Int) : Int :=
  if szS vs l < 0 then -1 else if szS fs (szS vs l) < 0 then -1 else szA rs (szS fs (szS vs l))
theorem szS_le (xs : List ByteArray) (l : Int) (h : 0 ≤ l) : szS xs l ≤ l ∧ -1 ≤ szS xs l := by
  unfold szS
  split
  · omega
  · have := szL_le xs (l - xs.length) (by omega)
    omega
theorem szA_le (xs : List (ByteArray × Int)) (l : Int) (h : 0 ≤ l) : szA xs l ≤ l ∧ -1 ≤ szA xs l := szS_le _ l h
theorem szL_each (xs : List ByteArray) : ∀ l, 0 ≤ l → 0 ≤ szL xs l → ∀ x ∈ xs, (x.size : Int) ≤ l := by
  induction xs with
  | nil => intro l _ _ x hx; cases hx
  | cons y ys ih =>
    intro l h0 h x hx
    unfold szL at h
    split at h
    · omega
    · rcases List.mem_cons.1 hx with rfl | hx
      · omega
      · have := ih (l - y.size) (by omega) h x hx
        omega
theorem szS_len (xs : List ByteArray) (l : Int) (hs : 0 ≤ szS xs l) : (xs.length : Int) ≤ l ∧ ∀ x ∈ xs, (x.size : Int) ≤ l := by
  unfold szS at hs
  split at hs
  · omega
  · exact ⟨by omega, fun x hx => by have := szL_each xs (l - xs.length) (by omega) hs x hx; omega⟩
theorem Strs.ofA {w : World} {a : Option Addr} {xs : List ByteArray} (h : StrsA w a xs) (hl : (xs.length : Int) ≤ 1048576) : Strs w a xs := ⟨by omega, h.2.2⟩
theorem Arrs.ofA {w : World} {a : Option Addr} {xs : List (ByteArray × Int)} (h : ArrsA w a xs) (hl : (xs.length : Int) ≤ 1048576) : Arrs w a xs := ⟨by omega, h.2.2⟩
end Go.Proofs.YtpdnnpnclgcpoaaDoor

/- Rows of rows of numbers: compared, and how much of a size is left behind them. -/
namespace Go.Proofs.YtpdnnpnclgcpoaaDoor
open Go.RowKit
set_option linter.unusedSimpArgs false

theorem OwnJ.mats {w : World} {b : Nat} {xss : List (List Int)} (h : OwnJ w b xss) : Mats w (some ⟨b, 0, none⟩) xss :=
  ⟨h.1, .inr ⟨b, 0, rfl, fun i hi => by obtain ⟨gi, _, q1, q2⟩ := h.2.1 i hi; exact ⟨_, _, by rw [Nat.zero_add]; exact q1, q2.1⟩⟩⟩
theorem OwnJ.call {w w1 : World} {b : Nat} {xss : List (List Int)} (h : OwnJ w b xss) (hb : Below w.heap.size w w1) : OwnJ w1 b xss := by
  obtain ⟨h0, h1, h3, h4⟩ := h
  refine ⟨h0, fun i hi => ?_, fun o => (hb.frozen (by exact h4)).trans (h3 o), Nat.lt_of_lt_of_le h4 hb.size⟩
  obtain ⟨gi, q0, q1, q2⟩ := h1 i hi
  exact ⟨gi, q0, (hb.cell (by exact h4)).trans q1, q2.call hb⟩
theorem OwnJ.set {w : World} {b c p : Nat} {v : Value} {xss : List (List Int)} (h : OwnJ w b xss) (hne : c < b) : OwnJ (w.setCell ⟨c, p, none⟩ v) b xss := by
  obtain ⟨h0, h1, h3, h4⟩ := h
  refine ⟨h0, fun i hi => ?_, fun o => (World.frozen?_setCell _ _ _ _).trans (h3 o), by simpa [World.setCell] using h4⟩
  obtain ⟨gi, q0, q1, q2⟩ := h1 i hi
  exact ⟨gi, q0, (World.cell?_setCell_other _ _ _ _ (fun e => by have : c = b := congrArg Addr.block e; omega)).trans q1, q2.set (by omega)⟩
end Go.Proofs.YtpdnnpnclgcpoaaDoor

/- Stores: the laws' copies of them. -/
namespace Go.Proofs.YtpdnnpnclgcpoaaDoor
open Go.RowKit
set_option linter.unusedSimpArgs false

end Go.Proofs.YtpdnnpnclgcpoaaDoor

/- How much of a size is left behind rows of rows of numbers. -/
namespace Go.Proofs.YtpdnnpnclgcpoaaDoor
open Go.RowKit
set_option linter.unusedSimpArgs false

def szN : List Nat → Int → Int
  | [], l => l
  | n :: ns, l => if l - n < 0 then -1 else szN ns (l - n)
theorem szN_drop (xs : List Nat) (k : Nat) (h : k < xs.length) (l : Int) : szN (xs.drop k) l = if l - xs[k] < 0 then -1 else szN (xs.drop (k + 1)) (l - xs[k]) := by
  rw [List.drop_eq_getElem_cons h]; rfl
def szM (xss : List (List Int)) (l : Int) : Int := if l - xss.length < 0 then -1 else szN (xss.map List.length) (l - xss.length)
/-- Rows of numbers of any length that a machine has. -/
def MatsA (w : World) (a : Option Addr) (xss : List (List Int)) : Prop :=
  xss.length ≤ 9223372036854775807 ∧ (∀ i, (h : i < xss.length) → xss[i].length ≤ 9223372036854775807) ∧ (xss.length = 0 ∨ ∃ cb co, a = some ⟨cb, co, none⟩ ∧ ∀ i, (h : i < xss.length) → ∃ b c, w.cell? ⟨cb, co + i, none⟩ = some (.slice b xss[i].length c) ∧ (xss[i].length = 0 ∨ ∃ db d, b = some ⟨db, d, none⟩ ∧ ∀ j, (h2 : j < xss[i].length) → w.cell? ⟨db, d + j, none⟩ = some (.int .i64 xss[i][j])))
theorem MatsA.call {w w1 : World} {a : Option Addr} {xss : List (List Int)} (h : MatsA w a xss) (hb : Below w.heap.size w w1) : MatsA w1 a xss := by
  refine ⟨h.1, h.2.1, ?_⟩
  rcases h.2.2 with h0 | ⟨cb, co, rfl, hc⟩
  · exact .inl h0
  · refine .inr ⟨cb, co, rfl, fun i hi => ?_⟩
    obtain ⟨b, c, q1, q2⟩ := hc i hi
    refine ⟨b, c, (hb.cell (World.block_lt_of_cell? w _ q1)).trans q1, ?_⟩
    rcases q2 with q2 | ⟨db, d, rfl, q3⟩
    · exact .inl q2
    · exact .inr ⟨db, d, rfl, fun j hj => (hb.cell (World.block_lt_of_cell? w _ (q3 j hj))).trans (q3 j hj)⟩
end Go.Proofs.YtpdnnpnclgcpoaaDoor

/- Bounds: the laws' copies of them. -/
namespace Go.Proofs.YtpdnnpnclgcpoaaDoor
open Go.RowKit
set_option linter.unusedSimpArgs false

def szE (m n : Nat) (l : Int) : Int := if sz1 m l < 0 then -1 else sz1 n (sz1 m l)
theorem szE_le (m n : Nat) (l : Int) (h : 0 ≤ l) : szE m n l ≤ l ∧ -1 ≤ szE m n l ∧ (0 ≤ szE m n l → (m : Int) ≤ l ∧ (n : Int) ≤ l) := by
  unfold szE
  have h1 := sz1_le m l h
  split
  · omega
  · have h2 := sz1_le n (sz1 m l) (by omega)
    refine ⟨by omega, by omega, fun k => ⟨h1.2.2 (by omega), ?_⟩⟩
    have := h2.2.2 k
    omega
end Go.Proofs.YtpdnnpnclgcpoaaDoor

