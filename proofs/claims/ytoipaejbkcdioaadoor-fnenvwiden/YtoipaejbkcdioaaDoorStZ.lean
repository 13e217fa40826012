/- Texts that go together: IntC, BoolC, StoC, StoD, StoE, StoF, StoG, StoH, StoI, LawE, LawS. -/
import Derived.Test.YtoipaejbkcdioaaDoorHaZ
import Derived.Laws.OwnMore
import Derived.Deep.QuietTactic
import Derived.BigQuiet
import Derived.Test.YtoipaejbkcdioaaDoorEnvE
import Derived.Test.YtoipaejbkcdioaaDoorEnvH
/- Rows of numbers; the laws' copies of them. -/
namespace Go.Proofs.YtoipaejbkcdioaaDoor
open Go.RowKit
set_option linter.unusedSimpArgs false

/-- So many numbers at an address. -/
def Ints (w : World) (a : Option Addr) (xs : List Int) : Prop :=
  xs.length ≤ 1048576 ∧ (xs.length = 0 ∨ ∃ cb co, a = some ⟨cb, co, none⟩ ∧ ∀ i, (h : i < xs.length) → w.cell? ⟨cb, co + i, none⟩ = some (.int .i64 xs[i]))
theorem Ints.to {w w1 : World} {a : Option Addr} {xs : List Int} {B : Nat} (h : Ints w a xs) (hb : Below B w w1) (ha : ∀ x, a = some x → 0 < xs.length → x.block < B) : Ints w1 a xs := by
  refine ⟨h.1, ?_⟩
  rcases h.2 with h0 | ⟨cb, co, rfl, hc⟩
  · exact .inl h0
  · exact .inr ⟨cb, co, rfl, fun i hi => (hb.cell (by exact ha ⟨cb, co, none⟩ rfl (by omega))).trans (hc i hi)⟩
theorem Ints.lt {w : World} {a : Option Addr} {xs : List Int} (h : Ints w a xs) : ∀ x, a = some x → 0 < xs.length → x.block < w.heap.size := by
  intro x hx h0
  rcases h.2 with h1 | ⟨cb, co, rfl, hc⟩
  · omega
  · cases hx
    exact World.block_lt_of_cell? w _ (hc 0 h0)
theorem Ints.call {w w1 : World} {a : Option Addr} {xs : List Int} (h : Ints w a xs) (hb : Below w.heap.size w w1) : Ints w1 a xs := h.to hb h.lt
/-- A row of numbers that fills a block of the call's own from its start. -/
def OwnI (w : World) (b : Nat) (xs : List Int) : Prop := Ints w (some ⟨b, 0, none⟩) xs ∧ (∀ o, w.frozen? ⟨b, o, none⟩ = false) ∧ b < w.heap.size
theorem OwnI.call {w w1 : World} {b : Nat} {xs : List Int} (h : OwnI w b xs) (hb : Below w.heap.size w w1) : OwnI w1 b xs :=
  ⟨h.1.call hb, fun o => (hb.frozen (by exact h.2.2)).trans (h.2.1 o), Nat.lt_of_lt_of_le h.2.2 hb.size⟩
theorem OwnI.set {w : World} {b c p : Nat} {v : Value} {xs : List Int} (h : OwnI w b xs) (hne : c ≠ b) : OwnI (w.setCell ⟨c, p, none⟩ v) b xs := by
  refine ⟨⟨h.1.1, ?_⟩, fun o => (World.frozen?_setCell _ _ _ _).trans (h.2.1 o), by simpa [World.setCell] using h.2.2⟩
  rcases h.1.2 with h0 | ⟨cb, co, e, hc⟩
  · exact .inl h0
  · cases e
    exact .inr ⟨b, 0, rfl, fun i hi => (World.cell?_setCell_other _ _ _ _ (fun e => hne (congrArg Addr.block e))).trans (hc i hi)⟩
/-- A row of the call's own that is filled up to k. -/
def FillI (w : World) (g : Nat) (zs : List Int) (k : Nat) (wr : World) : Prop :=
  (∀ i, (h : i < zs.length) → i < k → wr.cell? ⟨g, i, none⟩ = some (.int .i64 zs[i])) ∧ (∀ i, i < zs.length → k ≤ i → wr.cell? ⟨g, i, none⟩ = some (.int .i64 0)) ∧ (∀ o, wr.frozen? ⟨g, o, none⟩ = false) ∧ g < wr.heap.size ∧ w.heap.size ≤ g ∧ Below w.heap.size w wr
theorem FillI.step {w wr : World} {g k : Nat} {zs : List Int} (h : FillI w g zs k wr) (hk : k < zs.length) : FillI w g zs (k + 1) (wr.setCell ⟨g, k, none⟩ (.int .i64 zs[k])) := by
  obtain ⟨h1, h2, h3, h4, h5, h6⟩ := h
  have c := h2 k hk (Nat.le_refl _)
  refine ⟨fun i hi hik => ?_, fun i hi hik => ?_, fun o => (World.frozen?_setCell _ _ _ _).trans (h3 o), by simpa [World.setCell] using h4, h5, h6.setCell (by exact h5) _⟩
  · by_cases e : i = k
    · subst e
      exact World.cell?_setCell_same _ _ _ c
    · rw [World.cell?_setCell_other _ _ _ _ (fun hh => by have hh' : k = i := congrArg Addr.off hh; omega)]
      exact h1 i hi (by omega)
  · rw [World.cell?_setCell_other _ _ _ _ (fun hh => by have hh' : k = i := congrArg Addr.off hh; omega)]
    exact h2 i hi (by omega)
theorem i64Info : (Tryd.prog.info? 2).map (fun i => (i.zero, i.size, i.bytes)) = some (some (.int .i64 0), 1, 8) := by kernel_rfl
theorem makeI_c (n : Nat) (hn : n ≤ 1048576) (zs : List Int) (hz : zs.length = n) (w : World) : ∃ w1, (Instr.makeSlice 33 (.int .i64 (n : Int)) (.int .i64 (n : Int))).run Tryd.prog w = .ok (.slice (some ⟨w.heap.size, 0, none⟩) n n) w1 ∧ FillI w w.heap.size zs 0 w1 := by
  obtain ⟨inf, hi, hz0, hz1, hz2⟩ := info_parts i64Info
  obtain ⟨w1, hr, ho, hg⟩ := run_make_full (P := Tryd.prog) w w.heap.size 33 2 inf (.int .i64 0) 1 Tryd.underlying33 hi hz0 hz1 .i64 .i64 n (by rw [hz2]; omega) (by unfold maxLen; omega) (Nat.le_refl _)
  refine ⟨w1, hr, fun i hi h0 => by omega, fun i hi _ => ?_, fun o => ho.frozenAt o, (ho.lt w.heap.size rfl).2, Nat.le_refl _, (Below.refl _ _).grown hg (Nat.le_refl _) (fun j hj => by simp at hj)⟩
  rw [ho.cellAt i (by omega)]
  rw [show (Value.int .i64 0).cells = #[.int .i64 0] from rfl, toList_madeCells_one, List.getElem?_replicate, if_pos (by omega)]

end Go.Proofs.YtoipaejbkcdioaaDoor

/- Rows of truths; the laws' copies of them. -/
namespace Go.Proofs.YtoipaejbkcdioaaDoor
open Go.RowKit
set_option linter.unusedSimpArgs false

/-- So many truths at an address. -/
def Bools (w : World) (a : Option Addr) (xs : List Bool) : Prop :=
  xs.length ≤ 1048576 ∧ (xs.length = 0 ∨ ∃ cb co, a = some ⟨cb, co, none⟩ ∧ ∀ i, (h : i < xs.length) → w.cell? ⟨cb, co + i, none⟩ = some (.bool xs[i]))
theorem Bools.to {w w1 : World} {a : Option Addr} {xs : List Bool} {B : Nat} (h : Bools w a xs) (hb : Below B w w1) (ha : ∀ x, a = some x → 0 < xs.length → x.block < B) : Bools w1 a xs := by
  refine ⟨h.1, ?_⟩
  rcases h.2 with h0 | ⟨cb, co, rfl, hc⟩
  · exact .inl h0
  · exact .inr ⟨cb, co, rfl, fun i hi => (hb.cell (by exact ha ⟨cb, co, none⟩ rfl (by omega))).trans (hc i hi)⟩
theorem Bools.lt {w : World} {a : Option Addr} {xs : List Bool} (h : Bools w a xs) : ∀ x, a = some x → 0 < xs.length → x.block < w.heap.size := by
  intro x hx h0
  rcases h.2 with h1 | ⟨cb, co, rfl, hc⟩
  · omega
  · cases hx
    exact World.block_lt_of_cell? w _ (hc 0 h0)
theorem Bools.call {w w1 : World} {a : Option Addr} {xs : List Bool} (h : Bools w a xs) (hb : Below w.heap.size w w1) : Bools w1 a xs := h.to hb h.lt
/-- A row of truths that fills a block of the call's own from its start. -/
def OwnB (w : World) (b : Nat) (xs : List Bool) : Prop := Bools w (some ⟨b, 0, none⟩) xs ∧ (∀ o, w.frozen? ⟨b, o, none⟩ = false) ∧ b < w.heap.size
theorem OwnB.call {w w1 : World} {b : Nat} {xs : List Bool} (h : OwnB w b xs) (hb : Below w.heap.size w w1) : OwnB w1 b xs :=
  ⟨h.1.call hb, fun o => (hb.frozen (by exact h.2.2)).trans (h.2.1 o), Nat.lt_of_lt_of_le h.2.2 hb.size⟩
theorem OwnB.set {w : World} {b c p : Nat} {v : Value} {xs : List Bool} (h : OwnB w b xs) (hne : c ≠ b) : OwnB (w.setCell ⟨c, p, none⟩ v) b xs := by
  refine ⟨⟨h.1.1, ?_⟩, fun o => (World.frozen?_setCell _ _ _ _).trans (h.2.1 o), by simpa [World.setCell] using h.2.2⟩
  rcases h.1.2 with h0 | ⟨cb, co, e, hc⟩
  · exact .inl h0
  · cases e
    exact .inr ⟨b, 0, rfl, fun i hi => (World.cell?_setCell_other _ _ _ _ (fun e => hne (congrArg Addr.block e))).trans (hc i hi)⟩
/-- A row of the call's own that is filled up to k. -/
def FillB (w : World) (g : Nat) (zs : List Bool) (k : Nat) (wr : World) : Prop :=
  (∀ i, (h : i < zs.length) → i < k → wr.cell? ⟨g, i, none⟩ = some (.bool zs[i])) ∧ (∀ i, i < zs.length → k ≤ i → wr.cell? ⟨g, i, none⟩ = some (.bool false)) ∧ (∀ o, wr.frozen? ⟨g, o, none⟩ = false) ∧ g < wr.heap.size ∧ w.heap.size ≤ g ∧ Below w.heap.size w wr
theorem FillB.step {w wr : World} {g k : Nat} {zs : List Bool} (h : FillB w g zs k wr) (hk : k < zs.length) : FillB w g zs (k + 1) (wr.setCell ⟨g, k, none⟩ (.bool zs[k])) := by
  obtain ⟨h1, h2, h3, h4, h5, h6⟩ := h
  have c := h2 k hk (Nat.le_refl _)
  refine ⟨fun i hi hik => ?_, fun i hi hik => ?_, fun o => (World.frozen?_setCell _ _ _ _).trans (h3 o), by simpa [World.setCell] using h4, h5, h6.setCell (by exact h5) _⟩
  · by_cases e : i = k
    · subst e
      exact World.cell?_setCell_same _ _ _ c
    · rw [World.cell?_setCell_other _ _ _ _ (fun hh => by have hh' : k = i := congrArg Addr.off hh; omega)]
      exact h1 i hi (by omega)
  · rw [World.cell?_setCell_other _ _ _ _ (fun hh => by have hh' : k = i := congrArg Addr.off hh; omega)]
    exact h2 i hi (by omega)
theorem boolInfo : (Tryd.prog.info? 4).map (fun i => (i.zero, i.size, i.bytes)) = some (some (.bool false), 1, 1) := by kernel_rfl
theorem makeB_c (n : Nat) (hn : n ≤ 1048576) (zs : List Bool) (hz : zs.length = n) (w : World) : ∃ w1, (Instr.makeSlice 34 (.int .i64 (n : Int)) (.int .i64 (n : Int))).run Tryd.prog w = .ok (.slice (some ⟨w.heap.size, 0, none⟩) n n) w1 ∧ FillB w w.heap.size zs 0 w1 := by
  obtain ⟨inf, hi, hz0, hz1, hz2⟩ := info_parts boolInfo
  obtain ⟨w1, hr, ho, hg⟩ := run_make_full (P := Tryd.prog) w w.heap.size 34 4 inf (.bool false) 1 Tryd.underlying34 hi hz0 hz1 .i64 .i64 n (by rw [hz2]; omega) (by unfold maxLen; omega) (Nat.le_refl _)
  refine ⟨w1, hr, fun i hi h0 => by omega, fun i hi _ => ?_, fun o => ho.frozenAt o, (ho.lt w.heap.size rfl).2, Nat.le_refl _, (Below.refl _ _).grown hg (Nat.le_refl _) (fun j hj => by simp at hj)⟩
  rw [ho.cellAt i (by omega)]
  rw [show (Value.bool false).cells = #[.bool false] from rfl, toList_madeCells_one, List.getElem?_replicate, if_pos (by omega)]

end Go.Proofs.YtoipaejbkcdioaaDoor

/- How much of a size is left behind rows of numbers and of truths. -/
namespace Go.Proofs.YtoipaejbkcdioaaDoor
open Go.RowKit
set_option linter.unusedSimpArgs false

end Go.Proofs.YtoipaejbkcdioaaDoor

/- Rows of rows of numbers; the laws' copies of them. -/
namespace Go.Proofs.YtoipaejbkcdioaaDoor
open Go.RowKit
set_option linter.unusedSimpArgs false

/-- So many rows of numbers at an address. -/
def Mats (w : World) (a : Option Addr) (xss : List (List Int)) : Prop :=
  xss.length ≤ 1048576 ∧ (xss.length = 0 ∨ ∃ cb co, a = some ⟨cb, co, none⟩ ∧ ∀ i, (h : i < xss.length) → ∃ b c, w.cell? ⟨cb, co + i, none⟩ = some (.slice b xss[i].length c) ∧ Ints w b xss[i])
theorem Mats.call {w w1 : World} {a : Option Addr} {xss : List (List Int)} (h : Mats w a xss) (hb : Below w.heap.size w w1) : Mats w1 a xss := by
  refine ⟨h.1, ?_⟩
  rcases h.2 with h0 | ⟨cb, co, rfl, hc⟩
  · exact .inl h0
  · refine .inr ⟨cb, co, rfl, fun i hi => ?_⟩
    obtain ⟨b, c, h1, h2⟩ := hc i hi
    exact ⟨b, c, (hb.cell (World.block_lt_of_cell? w _ h1)).trans h1, h2.call hb⟩
/-- A row of rows of the call's own that is filled up to k. -/
def FillJ (w : World) (g : Nat) (zss : List (List Int)) (k : Nat) (wr : World) : Prop :=
  (∀ i, (h : i < zss.length) → i < k → ∃ gi, g < gi ∧ wr.cell? ⟨g, i, none⟩ = some (.slice (some ⟨gi, 0, none⟩) zss[i].length zss[i].length) ∧ OwnI wr gi zss[i]) ∧ (∀ i, i < zss.length → k ≤ i → wr.cell? ⟨g, i, none⟩ = some (.slice none 0 0)) ∧ (∀ o, wr.frozen? ⟨g, o, none⟩ = false) ∧ g < wr.heap.size ∧ w.heap.size ≤ g ∧ Below w.heap.size w wr
theorem FillJ.call {w wr w1 : World} {g k : Nat} {zss : List (List Int)} (h : FillJ w g zss k wr) (hb : Below wr.heap.size wr w1) : FillJ w g zss k w1 := by
  obtain ⟨h1, h2, h3, h4, h5, h6⟩ := h
  have c : ∀ o, w1.cell? ⟨g, o, none⟩ = wr.cell? ⟨g, o, none⟩ := fun o => hb.cell (by exact h4)
  refine ⟨fun i hi hk => ?_, fun i hi hk => by rw [c]; exact h2 i hi hk, fun o => (hb.frozen (by exact h4)).trans (h3 o), Nat.lt_of_lt_of_le h4 hb.size, h5, h6.trans (hb.mono h6.size)⟩
  obtain ⟨gi, q0, q1, q2⟩ := h1 i hi hk
  exact ⟨gi, q0, by rw [c]; exact q1, q2.call hb⟩
theorem FillJ.step {w wr : World} {g k gk : Nat} {zss : List (List Int)} (h : FillJ w g zss k wr) (hk : k < zss.length) (hg : g < gk) (ho : OwnI wr gk zss[k]) : FillJ w g zss (k + 1) (wr.setCell ⟨g, k, none⟩ (.slice (some ⟨gk, 0, none⟩) zss[k].length zss[k].length)) := by
  obtain ⟨h1, h2, h3, h4, h5, h6⟩ := h
  have c := h2 k hk (Nat.le_refl _)
  refine ⟨fun i hi hik => ?_, fun i hi hik => ?_, fun o => (World.frozen?_setCell _ _ _ _).trans (h3 o), by simpa [World.setCell] using h4, h5, h6.setCell (by exact h5) _⟩
  · by_cases e : i = k
    · subst e
      exact ⟨gk, hg, World.cell?_setCell_same _ _ _ c, ho.set (by omega)⟩
    · obtain ⟨gi, q0, q1, q2⟩ := h1 i hi (by omega)
      refine ⟨gi, q0, ?_, q2.set (by omega)⟩
      rw [World.cell?_setCell_other _ _ _ _ (fun hh => by have hh' : k = i := congrArg Addr.off hh; omega)]
      exact q1
  · rw [World.cell?_setCell_other _ _ _ _ (fun hh => by have hh' : k = i := congrArg Addr.off hh; omega)]
    exact h2 i hi (by omega)
theorem matInfo : (Tryd.prog.info? 33).map (fun i => (i.zero, i.size, i.bytes)) = some (some (.slice none 0 0), 1, 24) := by kernel_rfl
theorem makeJ_c (n : Nat) (hn : n ≤ 1048576) (zss : List (List Int)) (hz : zss.length = n) (w : World) : ∃ w1, (Instr.makeSlice 35 (.int .i64 (n : Int)) (.int .i64 (n : Int))).run Tryd.prog w = .ok (.slice (some ⟨w.heap.size, 0, none⟩) n n) w1 ∧ FillJ w w.heap.size zss 0 w1 := by
  obtain ⟨inf, hi, hz0, hz1, hz2⟩ := info_parts matInfo
  obtain ⟨w1, hr, ho, hg⟩ := run_make_full (P := Tryd.prog) w w.heap.size 35 33 inf (.slice none 0 0) 1 Tryd.underlying35 hi hz0 hz1 .i64 .i64 n (by rw [hz2]; omega) (by unfold maxLen; omega) (Nat.le_refl _)
  refine ⟨w1, hr, fun i hi h0 => by omega, fun i hi _ => ?_, fun o => ho.frozenAt o, (ho.lt w.heap.size rfl).2, Nat.le_refl _, (Below.refl _ _).grown hg (Nat.le_refl _) (fun j hj => by simp at hj)⟩
  rw [ho.cellAt i (by omega)]
  rw [show (Value.slice none 0 0).cells = #[.slice none 0 0] from rfl, toList_madeCells_one, List.getElem?_replicate, if_pos (by omega)]
/-- A row of rows of the call's own. -/
def OwnJ (w : World) (b : Nat) (xss : List (List Int)) : Prop := xss.length ≤ 1048576 ∧ (∀ i, (h : i < xss.length) → ∃ gi, b < gi ∧ w.cell? ⟨b, i, none⟩ = some (.slice (some ⟨gi, 0, none⟩) xss[i].length xss[i].length) ∧ OwnI w gi xss[i]) ∧ (∀ o, w.frozen? ⟨b, o, none⟩ = false) ∧ b < w.heap.size
end Go.Proofs.YtoipaejbkcdioaaDoor

/- Rows of rows of numbers: compared, and how much of a size is left behind them. -/
namespace Go.Proofs.YtoipaejbkcdioaaDoor
open Go.RowKit
set_option linter.unusedSimpArgs false

theorem OwnJ.mats {w : World} {b : Nat} {xss : List (List Int)} (h : OwnJ w b xss) : Mats w (some ⟨b, 0, none⟩) xss :=
  ⟨h.1, .inr ⟨b, 0, rfl, fun i hi => by obtain ⟨gi, _, q1, q2⟩ := h.2.1 i hi; exact ⟨_, _, by rw [Nat.zero_add]; exact q1, q2.1⟩⟩⟩
theorem OwnJ.call {w w1 : World} {b : Nat} {xss : List (List Int)} (h : OwnJ w b xss) (hb : Below w.heap.size w w1) : OwnJ w1 b xss := by
  obtain ⟨h0, h1, h3, h4⟩ := h
  refine ⟨h0, fun i hi => ?_, fun o => (hb.frozen (by exact h4)).trans (h3 o), Nat.lt_of_lt_of_le h4 hb.size⟩
  obtain ⟨gi, q0, q1, q2⟩ := h1 i hi
  exact ⟨gi, q0, (hb.cell (by exact h4)).trans q1, q2.call hb⟩
theorem OwnJ.set {w : World} {b c p : Nat} {v : Value} {xss : List (List Int)} (h : OwnJ w b xss) (hne : c < b) : OwnJ (w.setCell ⟨c, p, none⟩ v) b xss := by
  obtain ⟨h0, h1, h3, h4⟩ := h
  refine ⟨h0, fun i hi => ?_, fun o => (World.frozen?_setCell _ _ _ _).trans (h3 o), by simpa [World.setCell] using h4⟩
  obtain ⟨gi, q0, q1, q2⟩ := h1 i hi
  exact ⟨gi, q0, (World.cell?_setCell_other _ _ _ _ (fun e => by have : c = b := congrArg Addr.block e; omega)).trans q1, q2.set (by omega)⟩
end Go.Proofs.YtoipaejbkcdioaaDoor

/- Stores: the laws' copies of them. -/
namespace Go.Proofs.YtoipaejbkcdioaaDoor
open Go.RowKit
set_option linter.unusedSimpArgs false

end Go.Proofs.YtoipaejbkcdioaaDoor

/- How much of a size is left behind rows of rows of numbers. -/
namespace Go.Proofs.YtoipaejbkcdioaaDoor
open Go.RowKit
set_option linter.unusedSimpArgs false

def szN : List Nat → Int → Int
  | [], l => l
  | n :: ns, l => if l - n < 0 then -1 else szN ns (l - n)
theorem szN_drop (xs : List Nat) (k : Nat) (h : k < xs.length) (l : Int) : szN (xs.drop k) l = if l - xs[k] < 0 then -1 else szN (xs.drop (k + 1)) (l - xs[k]) := by
  rw [List.drop_eq_getElem_cons h]; rfl
def szM (xss : List (List Int)) (l : Int) : Int := if l - xss.length < 0 then -1 else szN (xss.map List.length) (l - xss.length)
/-- Rows of numbers of any length that a machine has. -/
def MatsA (w : World) (a : Option Addr) (xss : List (List Int)) : Prop :=
  xss.length ≤ 9223372036854775807 ∧ (∀ i, (h : i < xss.length) → xss[i].length ≤ 9223372036854775807) ∧ (xss.length = 0 ∨ ∃ cb co, a = some ⟨cb, co, none⟩ ∧ ∀ i, (h : i < xss.length) → ∃ b c, w.cell? ⟨cb, co + i, none⟩ = some (.slice b xss[i].length c) ∧ (xss[i].length = 0 ∨ ∃ db d, b = some ⟨db, d, none⟩ ∧ ∀ j, (h2 : j < xss[i].length) → w.cell? ⟨db, d + j, none⟩ = some (.int .i64 xss[i][j])))
theorem MatsA.call {w w1 : World} {a : Option Addr} {xss : List (List Int)} (h : MatsA w a xss) (hb : Below w.heap.size w w1) : MatsA w1 a xss := by
  refine ⟨h.1, h.2.1, ?_⟩
  rcases h.2.2 with h0 | ⟨cb, co, rfl, hc⟩
  · exact .inl h0
  · refine .inr ⟨cb, co, rfl, fun i hi => ?_⟩
    obtain ⟨b, c, q1, q2⟩ := hc i hi
    refine ⟨b, c, (hb.cell (World.block_lt_of_cell? w _ q1)).trans q1, ?_⟩
    rcases q2 with q2 | ⟨db, d, rfl, q3⟩
    · exact .inl q2
    · exact .inr ⟨db, d, rfl, fun j hj => (hb.cell (World.block_lt_of_cell? w _ (q3 j hj))).trans (q3 j hj)⟩
end Go.Proofs.YtoipaejbkcdioaaDoor

/- Right stores, as the specification asks for them. -/
namespace Go.Proofs.YtoipaejbkcdioaaDoor
open Go.RowKit
set_option linter.unusedSimpArgs false

/-- A store of a declaration that is right. -/
def stoP (m n : Nat) (rs : List (ByteArray × Int)) (is : List Int) (bs : List Bool) (js : List (List Int)) : Prop := is.length = m ∧ bs.length = n ∧ js.length = rs.length ∧ ∀ k, (h : k < rs.length) → ((js.getD k []).length : Int) = rs[k].2
instance (m n : Nat) (rs : List (ByteArray × Int)) (is : List Int) (bs : List Bool) (js : List (List Int)) : Decidable (stoP m n rs is bs js) := by unfold stoP; infer_instance
def storeB (vs fs : List ByteArray) (rs : List (ByteArray × Int)) (is : List Int) (bs : List Bool) (js : List (List Int)) : Bool := declB vs fs rs && decide (stoP vs.length fs.length rs is bs js)
set_option maxRecDepth 20000 in
set_option maxHeartbeats 4000000 in
theorem sStoreOk_c (a1 a2 a3 : Option Addr) (c1 c2 c3 : Nat) (vs fs : List ByteArray) (rs : List (ByteArray × Int)) (e1 e2 e3 : Option Addr) (d1 d2 d3 : Nat) (is : List Int) (bs : List Bool) (js : List (List Int)) (w : World) (hv : Strs w a1 vs) (hf : Strs w a2 fs) (hr : Arrs w a3 rs)
    (hz : ∀ x ∈ namesOf vs fs rs, x.size ≤ 1048576) (hj : Mats w e3 js) :
    Calls Tryd.prog 36 #[.agg #[.slice a1 vs.length c1, .slice a2 fs.length c2, .slice a3 rs.length c3], .agg #[.slice e1 is.length d1, .slice e2 bs.length d2, .slice e3 js.length d3]] w
    fun e w' => e = .returned (.bool (storeB vs fs rs is bs js)) ∧ Below w.heap.size w w' := by
  have HV := hide hv
  have HF := hide hf
  have HR := hide hr
  have HZ := hide hz
  have HJ := hide hj
  have T0 := (C3.new w (.slice a1 vs.length c1) (.slice a2 fs.length c2) (.slice a3 rs.length c3) 27).alloc (Obj.cells #[.slice e1 is.length d1, .slice e2 bs.length d2, .slice e3 js.length d3] 37)
  have T1 := C3.new (w.alloc (Obj.cells #[.slice a1 vs.length c1, .slice a2 fs.length c2, .slice a3 rs.length c3] 27)) (.slice e1 is.length d1) (.slice e2 bs.length d2) (.slice e3 js.length d3) 37
  have K0 : Below w.heap.size w ((w.alloc (Obj.cells #[.slice a1 vs.length c1, .slice a2 fs.length c2, .slice a3 rs.length c3] 27)).alloc (Obj.cells #[.slice e1 is.length d1, .slice e2 bs.length d2, .slice e3 js.length d3] 37)) := ((Below.refl _ _).alloc (Nat.le_refl _) _).alloc (by simp) _
  rw [show (w.alloc (Obj.cells #[.slice a1 vs.length c1, .slice a2 fs.length c2, .slice a3 rs.length c3] 27)).heap.size = w.heap.size + 1 by simp] at T1
  have HT0 := hide T0
  have HT1 := hide T1
  have HK := hide K0
  clear T0 T1 K0 hv hf hr hz hj
  go_enter Tryd.func36, Tryd.ntmps36
  go_wp2_with fail
  generalize (w.alloc (Obj.cells #[.slice a1 vs.length c1, .slice a2 fs.length c2, .slice a3 rs.length c3] 27)).alloc (Obj.cells #[.slice e1 is.length d1, .slice e2 bs.length d2, .slice e3 js.length d3] 37) = u at HT0 HT1 HK ⊢
  refine (sDeclOk_c a1 a2 a3 _ _ _ vs fs rs _ ((unhide HV).call (unhide HK)) ((unhide HF).call (unhide HK)) ((unhide HR).call (unhide HK)) (unhide HZ)).mono ?_
  rintro e u1 ⟨rfl, kb⟩
  have HT0 := hide ((unhide HT0).call kb)
  have HT1 := hide ((unhide HT1).call kb)
  have HK := hide ((unhide HK).trans (kb.mono (unhide HK).size))
  clear kb
  have HE := hide (show storeB vs fs rs is bs js = (declB vs fs rs && decide (stoP vs.length fs.length rs is bs js)) from rfl)
  cases hd : declB vs fs rs
  · rw [hd] at HE
    go_wp2
    go_ret
    exact ⟨by rw [unhide HE]; rfl, unhide HK⟩
  rw [hd, Bool.true_and] at HE
  obtain ⟨hl1, hl2, hl3⟩ := declB_len hd
  clear hd
  have b0 := (unhide HT0).1
  have b1 := (unhide HT0).2.1
  have b2 := (unhide HT0).2.2.1
  have t0 := (unhide HT1).1
  have t1 := (unhide HT1).2.1
  have t2 := (unhide HT1).2.2.1
  by_cases g1 : is.length = vs.length
  case neg =>
    have HN := hide (show storeB vs fs rs is bs js = false by rw [unhide HE]; exact decide_eq_false (fun h => g1 h.1))
    have g4 : ((is.length : Int) != (vs.length : Int)) = true := by rw [bne_iff_ne]; omega
    clear g1
    go_wp2
    go_ret
    exact ⟨by rw [unhide HN]; rfl, unhide HK⟩
  have g4 : ((is.length : Int) != (vs.length : Int)) = false := by rw [bne_eq_false_iff_eq]; omega
  by_cases g2 : bs.length = fs.length
  case neg =>
    have HN := hide (show storeB vs fs rs is bs js = false by rw [unhide HE]; exact decide_eq_false (fun h => g2 h.2.1))
    have g5 : ((bs.length : Int) != (fs.length : Int)) = true := by rw [bne_iff_ne]; omega
    clear g1 g2
    go_wp2
    go_ret
    exact ⟨by rw [unhide HN]; rfl, unhide HK⟩
  have g5 : ((bs.length : Int) != (fs.length : Int)) = false := by rw [bne_eq_false_iff_eq]; omega
  by_cases g3 : js.length = rs.length
  case neg =>
    have HN := hide (show storeB vs fs rs is bs js = false by rw [unhide HE]; exact decide_eq_false (fun h => g3 h.2.2.1))
    have g6 : ((js.length : Int) != (rs.length : Int)) = true := by rw [bne_iff_ne]; omega
    clear g1 g2 g3
    go_wp2
    go_ret
    exact ⟨by rw [unhide HN]; rfl, unhide HK⟩
  have g6 : ((js.length : Int) != (rs.length : Int)) = false := by rw [bne_eq_false_iff_eq]; omega
  have HG := hide (show (∀ k, (h : k < rs.length) → ((js.getD k []).length : Int) = rs[k].2) → storeB vs fs rs is bs js = true from fun h => by rw [unhide HE]; exact decide_eq_true ⟨g1, g2, g3, h⟩)
  have HG2 := hide (show ∀ k, (h : k < rs.length) → ((js.getD k []).length : Int) ≠ rs[k].2 → storeB vs fs rs is bs js = false from fun k h e => by rw [unhide HE]; exact decide_eq_false (fun hh => e (hh.2.2.2 k h)))
  have HJR := hide g3
  have hJ : js.length ≤ 2 := by omega
  have hJ' : (js.length : Int) ≤ 2 := by omega
  clear g1 g2 g3 HE
  go_wp2
  clear b0 b1 t0 t1 t2 b2 g4 g5 g6
  go_loopw [5] (fun i wr => ∃ k : Nat, k ≤ js.length ∧ i = .int .i64 k ∧ (∀ j, (h : j < rs.length) → j < k → ((js.getD j []).length : Int) = rs[j].2) ∧ Below u1.heap.size u1 wr) (fun i _ => js.length - (intOf i).toNat)
  case atStart => exact ⟨0, Nat.zero_le _, rfl, fun j _ h => by omega, Below.refl _ _⟩
  case round =>
    obtain ⟨k, hk, rfl, hall, hb⟩ := hrel
    have HA := hide hall
    have HB := hide ((unhide HK).trans (hb.mono (unhide HK).size))
    have HB1 := hide hb
    have b2 := ((unhide HT0).call hb).2.2.1
    have t2 := ((unhide HT1).call hb).2.2.1
    by_cases hlt : k < js.length
    · have hr' : k < rs.length := by rw [← unhide HJR]; exact hlt
      rcases (((unhide HJ).call (unhide HB))).2 with h0 | ⟨cb, co, e, hc⟩
      · omega
      cases e
      obtain ⟨ba, bc, q1, _⟩ := hc k hlt
      rcases (((unhide HR).call (unhide HB))).2 with h0 | ⟨cb, co, e, hc2⟩
      · omega
      cases e
      have q2 := (hc2 k hr').2
      have ek : js.getD k [] = js[k] := by simp [List.getD, hlt]
      have HI := hide (show (js[k].length : Int) = rs[k].2 → ∀ j, (h : j < rs.length) → j < k + 1 → ((js.getD j []).length : Int) = rs[j].2 from fun e j h hj => by
        by_cases q : j = k
        · subst q; rw [ek]; exact e
        · exact unhide HA j h (by omega))
      have HX := hide (show (js[k].length : Int) ≠ rs[k].2 → storeB vs fs rs is bs js = false from fun e => unhide HG2 k hr' (by rw [ek]; exact e))
      have ml : js[k].length ≤ 1048576 := by
        obtain ⟨_, _, _, qi⟩ := hc k hlt
        exact qi.1
      clear hc hc2 hall hb ek
      generalize js[k].length = x at q1 HI HX ml
      generalize rs[k].2 = z at q2 HI HX
      have ml' : (x : Int) ≤ 1048576 := by omega
      by_cases hx : (x : Int) = z
      · have HI2 := hide (unhide HI hx)
        have hx2 : ((x : Int) != z) = false := by rw [bne_eq_false_iff_eq]; exact hx
        clear HI HX hx
        go_wp2
        go_quiet (fail)
        go_wp2
        go_roundw
        case rel => exact ⟨k + 1, by omega, by go_num, unhide HI2, (unhide HB1).trans ((bdrew _ _).mono (unhide HB1).size)⟩
        case measure => simp [intOf]; omega
      · have HN := hide (unhide HX hx)
        have hx2 : ((x : Int) != z) = true := by rw [bne_iff_ne]; exact hx
        clear HI HX hx
        go_wp2
        go_quiet (fail)
        go_wp2
        go_ret
        exact ⟨by rw [unhide HN]; rfl, (unhide HB).trans ((bdrew _ _).mono (unhide HB).size)⟩
    · have HN := hide (unhide HG (fun j hj => unhide HA j hj (by have := unhide HJR; omega)))
      clear hall hb
      go_wp2
      go_ret
      exact ⟨by rw [unhide HN]; rfl, unhide HB⟩
end Go.Proofs.YtoipaejbkcdioaaDoor

/- Right stores, as the program asks for them. -/
namespace Go.Proofs.YtoipaejbkcdioaaDoor
open Go.RowKit
set_option linter.unusedSimpArgs false

def szT (m n : Nat) (js : List (List Int)) (l : Int) : Int := if sz1 m l < 0 then -1 else if sz1 n (sz1 m l) < 0 then -1 else szM js (sz1 n (sz1 m l))
theorem szN_le (xs : List Nat) : ∀ l, 0 ≤ l → szN xs l ≤ l ∧ -1 ≤ szN xs l ∧ (0 ≤ szN xs l → ∀ x ∈ xs, (x : Int) ≤ l) := by
  induction xs with
  | nil => intro l h; exact ⟨Int.le_refl _, by show -1 ≤ l; omega, fun _ x hx => by cases hx⟩
  | cons y ys ih =>
    intro l h
    unfold szN
    split
    · exact ⟨by omega, by omega, fun h => by omega⟩
    · have := ih (l - y) (by omega)
      refine ⟨by omega, by omega, fun h0 x hx => ?_⟩
      rcases List.mem_cons.1 hx with rfl | hx
      · omega
      · have := this.2.2 h0 x hx; omega
theorem szM_le (xss : List (List Int)) (l : Int) (h : 0 ≤ l) : szM xss l ≤ l ∧ -1 ≤ szM xss l ∧ (0 ≤ szM xss l → (xss.length : Int) ≤ l ∧ ∀ x ∈ xss, (x.length : Int) ≤ l) := by
  unfold szM
  split
  · exact ⟨by omega, by omega, fun h => by omega⟩
  · have q := szN_le (xss.map List.length) (l - xss.length) (by omega)
    refine ⟨by omega, q.2.1, fun h0 => ⟨by omega, fun x hx => ?_⟩⟩
    have := q.2.2 h0 x.length (List.mem_map.2 ⟨x, hx, rfl⟩)
    omega
theorem szT_le (m n : Nat) (js : List (List Int)) (l : Int) (h : 0 ≤ l) : szT m n js l ≤ l ∧ -1 ≤ szT m n js l ∧ (0 ≤ szT m n js l → (m : Int) ≤ l ∧ (n : Int) ≤ l ∧ (js.length : Int) ≤ l ∧ ∀ x ∈ js, (x.length : Int) ≤ l) := by
  have q1 := sz1_le m l h
  unfold szT
  split
  · exact ⟨by omega, by omega, fun h => by omega⟩
  · have q2 := sz1_le n (sz1 m l) (by omega)
    split
    · exact ⟨by omega, by omega, fun h => by omega⟩
    · have q3 := szM_le js (sz1 n (sz1 m l)) (by omega)
      refine ⟨by omega, by omega, fun h0 => ⟨q1.2.2 (by omega), by have := q2.2.2 (by omega); omega, by have := (q3.2.2 h0).1; omega, fun x hx => by have := (q3.2.2 h0).2 x hx; omega⟩⟩
theorem Mats.ofA {w : World} {a : Option Addr} {xss : List (List Int)} (h : MatsA w a xss) (hl : (xss.length : Int) ≤ 1048576) (he : ∀ x ∈ xss, (x.length : Int) ≤ 1048576) : Mats w a xss := by
  refine ⟨by omega, ?_⟩
  rcases h.2.2 with h0 | ⟨cb, co, e, hc⟩
  · exact .inl h0
  · refine .inr ⟨cb, co, e, fun i hi => ?_⟩
    obtain ⟨b, c, q1, q2⟩ := hc i hi
    have := he xss[i] (List.getElem_mem hi)
    exact ⟨b, c, q1, by omega, q2⟩
set_option maxRecDepth 20000 in
set_option maxHeartbeats 4000000 in
theorem iStoreOk_c (a1 a2 a3 : Option Addr) (c1 c2 c3 : Nat) (vs fs : List ByteArray) (rs : List (ByteArray × Int)) (e1 e2 e3 : Option Addr) (d1 d2 d3 : Nat) (is : List Int) (bs : List Bool) (js : List (List Int)) (w : World) (hw : KW w) (hv : Strs w a1 vs) (hf : Strs w a2 fs) (hr : Arrs w a3 rs)
    (hz : ∀ x ∈ namesOf vs fs rs, x.size ≤ 1048576) (hj : Mats w e3 js) :
    Calls Tryd.prog 34 #[.agg #[.slice a1 vs.length c1, .slice a2 fs.length c2, .slice a3 rs.length c3], .agg #[.slice e1 is.length d1, .slice e2 bs.length d2, .slice e3 js.length d3]] w
    fun e w' => e = .returned (.bool (storeB vs fs rs is bs js)) ∧ Below w.heap.size w w' := by
  have HW := hide hw
  have HV := hide hv
  have HF := hide hf
  have HR := hide hr
  have HZ := hide hz
  have HJ := hide hj
  have T0 := (C3.new w (.slice a1 vs.length c1) (.slice a2 fs.length c2) (.slice a3 rs.length c3) 27).alloc (Obj.cells #[.slice e1 is.length d1, .slice e2 bs.length d2, .slice e3 js.length d3] 37)
  have T1 := C3.new (w.alloc (Obj.cells #[.slice a1 vs.length c1, .slice a2 fs.length c2, .slice a3 rs.length c3] 27)) (.slice e1 is.length d1) (.slice e2 bs.length d2) (.slice e3 js.length d3) 37
  have K0 : Below w.heap.size w ((w.alloc (Obj.cells #[.slice a1 vs.length c1, .slice a2 fs.length c2, .slice a3 rs.length c3] 27)).alloc (Obj.cells #[.slice e1 is.length d1, .slice e2 bs.length d2, .slice e3 js.length d3] 37)) := ((Below.refl _ _).alloc (Nat.le_refl _) _).alloc (by simp) _
  rw [show (w.alloc (Obj.cells #[.slice a1 vs.length c1, .slice a2 fs.length c2, .slice a3 rs.length c3] 27)).heap.size = w.heap.size + 1 by simp] at T1
  have HT0 := hide T0
  have HT1 := hide T1
  have HK := hide K0
  clear T0 T1 K0 hv hf hr hz hj hw
  go_enter Tryd.func34, Tryd.ntmps34
  go_wp2_with fail
  generalize (w.alloc (Obj.cells #[.slice a1 vs.length c1, .slice a2 fs.length c2, .slice a3 rs.length c3] 27)).alloc (Obj.cells #[.slice e1 is.length d1, .slice e2 bs.length d2, .slice e3 js.length d3] 37) = u at HT0 HT1 HK ⊢
  refine (iDeclOk_c a1 a2 a3 _ _ _ vs fs rs _ ((unhide HW).call (unhide HK)) ((unhide HV).call (unhide HK)) ((unhide HF).call (unhide HK)) ((unhide HR).call (unhide HK)) (unhide HZ)).mono ?_
  rintro e u1 ⟨rfl, kb⟩
  have HT0 := hide ((unhide HT0).call kb)
  have HT1 := hide ((unhide HT1).call kb)
  have HK := hide ((unhide HK).trans (kb.mono (unhide HK).size))
  clear kb
  have HE := hide (show storeB vs fs rs is bs js = (declB vs fs rs && decide (stoP vs.length fs.length rs is bs js)) from rfl)
  cases hd : declB vs fs rs
  · rw [hd] at HE
    go_wp2
    go_ret
    exact ⟨by rw [unhide HE]; rfl, unhide HK⟩
  rw [hd, Bool.true_and] at HE
  obtain ⟨hl1, hl2, hl3⟩ := declB_len hd
  clear hd
  have b0 := (unhide HT0).1
  have b1 := (unhide HT0).2.1
  have b2 := (unhide HT0).2.2.1
  have t0 := (unhide HT1).1
  have t1 := (unhide HT1).2.1
  have t2 := (unhide HT1).2.2.1
  by_cases g1 : is.length = vs.length
  case neg =>
    have HN := hide (show storeB vs fs rs is bs js = false by rw [unhide HE]; exact decide_eq_false (fun h => g1 h.1))
    have g4 : ((is.length : Int) != (vs.length : Int)) = true := by rw [bne_iff_ne]; omega
    clear g1
    go_wp2
    go_ret
    exact ⟨by rw [unhide HN]; rfl, unhide HK⟩
  have g4 : ((is.length : Int) != (vs.length : Int)) = false := by rw [bne_eq_false_iff_eq]; omega
  by_cases g2 : bs.length = fs.length
  case neg =>
    have HN := hide (show storeB vs fs rs is bs js = false by rw [unhide HE]; exact decide_eq_false (fun h => g2 h.2.1))
    have g5 : ((bs.length : Int) != (fs.length : Int)) = true := by rw [bne_iff_ne]; omega
    clear g1 g2
    go_wp2
    go_ret
    exact ⟨by rw [unhide HN]; rfl, unhide HK⟩
  have g5 : ((bs.length : Int) != (fs.length : Int)) = false := by rw [bne_eq_false_iff_eq]; omega
  by_cases g3 : js.length = rs.length
  case neg =>
    have HN := hide (show storeB vs fs rs is bs js = false by rw [unhide HE]; exact decide_eq_false (fun h => g3 h.2.2.1))
    have g6 : ((js.length : Int) != (rs.length : Int)) = true := by rw [bne_iff_ne]; omega
    clear g1 g2 g3
    go_wp2
    go_ret
    exact ⟨by rw [unhide HN]; rfl, unhide HK⟩
  have g6 : ((js.length : Int) != (rs.length : Int)) = false := by rw [bne_eq_false_iff_eq]; omega
  have HG := hide (show (∀ k, (h : k < rs.length) → ((js.getD k []).length : Int) = rs[k].2) → storeB vs fs rs is bs js = true from fun h => by rw [unhide HE]; exact decide_eq_true ⟨g1, g2, g3, h⟩)
  have HG2 := hide (show ∀ k, (h : k < rs.length) → ((js.getD k []).length : Int) ≠ rs[k].2 → storeB vs fs rs is bs js = false from fun k h e => by rw [unhide HE]; exact decide_eq_false (fun hh => e (hh.2.2.2 k h)))
  have HJR := hide g3
  have hJ : rs.length ≤ 2 := by omega
  have hJ' : (rs.length : Int) ≤ 2 := by omega
  clear g1 g2 g3 HE
  go_wp2
  clear b0 b1 t0 t1 t2 b2 g4 g5 g6
  go_loopw [40] (fun i wr => ∃ k : Nat, k ≤ rs.length ∧ i = .int .i64 k ∧ (∀ j, (h : j < rs.length) → j < k → ((js.getD j []).length : Int) = rs[j].2) ∧ Below u1.heap.size u1 wr) (fun i _ => rs.length - (intOf i).toNat)
  case atStart => exact ⟨0, Nat.zero_le _, rfl, fun j _ h => by omega, Below.refl _ _⟩
  case round =>
    obtain ⟨k, hk, rfl, hall, hb⟩ := hrel
    have HA := hide hall
    have HB := hide ((unhide HK).trans (hb.mono (unhide HK).size))
    have HB1 := hide hb
    have t2 := ((unhide HT1).call hb).2.2.1
    by_cases hr' : k < rs.length
    · have hlt : k < js.length := by rw [unhide HJR]; exact hr'
      have hlj : (k : Int) < (js.length : Int) := by omega
      rcases (((unhide HJ).call (unhide HB))).2 with h0 | ⟨cb, co, e, hc⟩
      · omega
      cases e
      obtain ⟨ba, bc, q1, _⟩ := hc k hlt
      rcases (((unhide HR).call (unhide HB))).2 with h0 | ⟨cb, co, e, hc2⟩
      · omega
      cases e
      have q2 := (hc2 k hr').2
      have q3 := (hc2 k hr').1
      generalize rs[k].1 = nm at q3
      have ek : js.getD k [] = js[k] := by simp [List.getD, hlt]
      have HI := hide (show (js[k].length : Int) = rs[k].2 → ∀ j, (h : j < rs.length) → j < k + 1 → ((js.getD j []).length : Int) = rs[j].2 from fun e j h hj => by
        by_cases q : j = k
        · subst q; rw [ek]; exact e
        · exact unhide HA j h (by omega))
      have HX := hide (show (js[k].length : Int) ≠ rs[k].2 → storeB vs fs rs is bs js = false from fun e => unhide HG2 k hr' (by rw [ek]; exact e))
      have ml : js[k].length ≤ 1048576 := by
        obtain ⟨_, _, _, qi⟩ := hc k hlt
        exact qi.1
      clear hc hc2 hall hb ek
      generalize js[k].length = x at q1 HI HX ml
      generalize rs[k].2 = z at q2 HI HX
      have ml' : (x : Int) ≤ 1048576 := by omega
      by_cases hx : (x : Int) = z
      · have HI2 := hide (unhide HI hx)
        have hx2 : ((x : Int) != z) = false := by rw [bne_eq_false_iff_eq]; exact hx
        have ka := (Below.refl _ wr).alloc (Nat.le_refl _) (Obj.cells #[.string nm, .int .i64 z] 93)
        have z1 := (ka.cell (World.block_lt_of_cell? wr _ t2)).trans t2
        have z2 := (ka.cell (World.block_lt_of_cell? wr _ q1)).trans q1
        have z3 : (wr.alloc (Obj.cells #[.string nm, .int .i64 z] 93)).cell? ⟨wr.heap.size, 1, none⟩ = some (.int .i64 z) := by simp
        have HB2 := hide ((unhide HB1).trans (ka.mono (unhide HB1).size))
        clear HI HX hx ka
        go_wp2
        clear q1 q2 q3 t2
        generalize wr.alloc (Obj.cells #[.string nm, .int .i64 z] 93) = wz at z1 z2 z3 HB2 ⊢
        go_quiet (fail)
        go_wp2
        go_roundw
        case rel => exact ⟨k + 1, by omega, by go_num, unhide HI2, (unhide HB2).trans ((bdrew _ _).mono (unhide HB2).size)⟩
        case measure => simp [intOf]; omega
      · have HN := hide (unhide HX hx)
        have hx2 : ((x : Int) != z) = true := by rw [bne_iff_ne]; exact hx
        have ka := (Below.refl _ wr).alloc (Nat.le_refl _) (Obj.cells #[.string nm, .int .i64 z] 93)
        have z1 := (ka.cell (World.block_lt_of_cell? wr _ t2)).trans t2
        have z2 := (ka.cell (World.block_lt_of_cell? wr _ q1)).trans q1
        have z3 : (wr.alloc (Obj.cells #[.string nm, .int .i64 z] 93)).cell? ⟨wr.heap.size, 1, none⟩ = some (.int .i64 z) := by simp
        have HB2 := hide ((unhide HB).trans (ka.mono (unhide HB).size))
        clear HI HX hx ka
        go_wp2
        clear q1 q2 q3 t2
        generalize wr.alloc (Obj.cells #[.string nm, .int .i64 z] 93) = wz at z1 z2 z3 HB2 ⊢
        go_quiet (fail)
        go_wp2
        go_ret
        exact ⟨by rw [unhide HN]; rfl, (unhide HB2).trans ((bdrew _ _).mono (unhide HB2).size)⟩
    · have HN := hide (unhide HG (fun j hj => unhide HA j hj (by omega)))
      clear hall hb
      go_wp2
      go_ret
      exact ⟨by rw [unhide HN]; rfl, unhide HB⟩
end Go.Proofs.YtoipaejbkcdioaaDoor

/- The law of EnvOk: its walk. -/
namespace Go.Proofs.YtoipaejbkcdioaaDoor
open Go.RowKit
set_option linter.unusedSimpArgs false

end Go.Proofs.YtoipaejbkcdioaaDoor

/- The law of StoreOk: its walk; rows of numbers and of truths that came in. -/
namespace Go.Proofs.YtoipaejbkcdioaaDoor
open Go.ChangeShapes Go.WideShapes Go.ChangeAt Go.RowKit
set_option linter.unusedSimpArgs false

/-- A row of numbers of any length that a machine has. -/
def IntsA (w : World) (a : Option Addr) (xs : List Int) : Prop := xs.length ≤ 9223372036854775807 ∧ (xs.length = 0 ∨ ∃ cb co, a = some ⟨cb, co, none⟩ ∧ ∀ i, (h : i < xs.length) → w.cell? ⟨cb, co + i, none⟩ = some (.int .i64 xs[i]))
theorem Ints.ofA {w : World} {a : Option Addr} {xs : List Int} (h : IntsA w a xs) (hl : (xs.length : Int) ≤ 1048576) : Ints w a xs := ⟨by omega, h.2⟩
theorem openI {H : Type} {enc : TypeId × Value → H} {W : World} {fuel : Nat} {v : Value} {y : DataW H × List MemPlace} (h : DataW.trod enc Tryd.prog W 0 (fun _ => true) true fuel 33 [v] = some y) : ∃ a cap xs, v = .slice a (List.length xs) cap ∧ IntsA W a xs := by
  rcases Deep.open_slice1 Tryd.underlying33 (by kernel_rfl) h with ⟨hcs, _⟩ | ⟨a, len, cap, m, n, V, D, Pl, hcs, _, hl, hm, hmm, _, hx⟩
  · simp at hcs
    subst hcs
    exact ⟨none, 0, [], rfl, by simp, .inl rfl⟩
  · simp at hcs hmm
    subst hcs hmm
    have ml : maxLen ≤ 9223372036854775807 := by decide
    have each : ∀ i, i < len → ∃ q : Int, V i = .int .i64 q := fun i hi => by
      have h1 := (hx i (by omega)).2
      obtain ⟨k, e2, _⟩ := DataW.trod_int Tryd.underlying2 h1
      exact ⟨k, by simpa using e2⟩
    obtain ⟨Q, hQ⟩ := Deep.choose_lt each
    refine ⟨some a, m, (List.range len).map Q, by simp, by simp; omega, ?_⟩
    by_cases h0 : len = 0
    · exact .inl (by simp [h0])
    · have c0 := (hx 0 (by omega)).1
      have ea := addr_none c0
      refine .inr ⟨a.block, a.off, by rw [← ea], fun i hi => ?_⟩
      simp at hi
      have c := (hx i (by omega)).1
      rw [ea, Addr.add_lit, hQ i (by omega)] at c
      simpa using c
/-- A row of truths of any length that a machine has. -/
def BoolsA (w : World) (a : Option Addr) (xs : List Bool) : Prop := xs.length ≤ 9223372036854775807 ∧ (xs.length = 0 ∨ ∃ cb co, a = some ⟨cb, co, none⟩ ∧ ∀ i, (h : i < xs.length) → w.cell? ⟨cb, co + i, none⟩ = some (.bool xs[i]))
theorem Bools.ofA {w : World} {a : Option Addr} {xs : List Bool} (h : BoolsA w a xs) (hl : (xs.length : Int) ≤ 1048576) : Bools w a xs := ⟨by omega, h.2⟩
theorem openB {H : Type} {enc : TypeId × Value → H} {W : World} {fuel : Nat} {v : Value} {y : DataW H × List MemPlace} (h : DataW.trod enc Tryd.prog W 0 (fun _ => true) true fuel 34 [v] = some y) : ∃ a cap xs, v = .slice a (List.length xs) cap ∧ BoolsA W a xs := by
  rcases Deep.open_slice1 Tryd.underlying34 (by kernel_rfl) h with ⟨hcs, _⟩ | ⟨a, len, cap, m, n, V, D, Pl, hcs, _, hl, hm, hmm, _, hx⟩
  · simp at hcs
    subst hcs
    exact ⟨none, 0, [], rfl, by simp, .inl rfl⟩
  · simp at hcs hmm
    subst hcs hmm
    have ml : maxLen ≤ 9223372036854775807 := by decide
    have each : ∀ i, i < len → ∃ q : Bool, V i = .bool q := fun i hi => by
      have h1 := (hx i (by omega)).2
      exact openT h1
    obtain ⟨Q, hQ⟩ := Deep.choose_lt each
    refine ⟨some a, m, (List.range len).map Q, by simp, by simp; omega, ?_⟩
    by_cases h0 : len = 0
    · exact .inl (by simp [h0])
    · have c0 := (hx 0 (by omega)).1
      have ea := addr_none c0
      refine .inr ⟨a.block, a.off, by rw [← ea], fun i hi => ?_⟩
      simp at hi
      have c := (hx i (by omega)).1
      rw [ea, Addr.add_lit, hQ i (by omega)] at c
      simpa using c
theorem openJ {H : Type} {enc : TypeId × Value → H} {W : World} {fuel : Nat} {v : Value} {y : DataW H × List MemPlace} (h : DataW.trod enc Tryd.prog W 0 (fun _ => true) true fuel 35 [v] = some y) : ∃ a cap xs, v = .slice a (List.length xs) cap ∧ MatsA W a xs := by
  rcases Deep.open_slice1 Tryd.underlying35 (by kernel_rfl) h with ⟨hcs, _⟩ | ⟨a, len, cap, m, n, V, D, Pl, hcs, _, hl, hm, hmm, _, hx⟩
  · simp at hcs
    subst hcs
    exact ⟨none, 0, [], rfl, by simp, fun i hi => by simp at hi, .inl rfl⟩
  · simp at hcs hmm
    subst hcs hmm
    have ml : maxLen ≤ 9223372036854775807 := by decide
    have each : ∀ i, i < len → ∃ q : Option Addr × Nat × List Int, V i = .slice q.1 q.2.2.length q.2.1 ∧ IntsA W q.1 q.2.2 := fun i hi => by
      obtain ⟨b, c, xs, e1, e2⟩ := openI (hx i (by omega)).2
      exact ⟨(b, c, xs), e1, e2⟩
    obtain ⟨Q, hQ⟩ := Deep.choose_lt each
    refine ⟨some a, m, (List.range len).map fun i => (Q i).2.2, by simp, by simp; omega, fun i hi => ?_, ?_⟩
    · simp at hi
      have := (hQ i (by omega)).2.1
      simpa using this
    · by_cases h0 : len = 0
      · exact .inl (by simp [h0])
      · have c0 := (hx 0 (by omega)).1
        have ea := addr_none c0
        refine .inr ⟨a.block, a.off, by rw [← ea], fun i hi => ?_⟩
        simp at hi
        have c := (hx i (by omega)).1
        rw [ea, Addr.add_lit, (hQ i (by omega)).1] at c
        have d := (hQ i (by omega)).2.2
        exact ⟨(Q i).1, (Q i).2.1, by simpa using c, by simpa using d⟩
end Go.Proofs.YtoipaejbkcdioaaDoor

