/- Texts that go together: MarkC, MarkD, MarkI. -/
import Derived.Test.YtpdnnpnclgcpoaaDoorStZ
import Derived.Deep.DeepCutAuto
import Derived.Laws.BytesArg
/- Marks: rows of the law's own are written, all else stays. -/
namespace Go.Proofs.YtpdnnpnclgcpoaaDoor
open Go.RowKit
set_option linter.unusedSimpArgs false
set_option linter.unusedVariables false

/-- Blocks outside of lo .. hi - 1 are as they were. -/
structure Mid (lo hi : Nat) (w w' : World) : Prop where
  os : w'.os = w.os
  tape : w'.tape = w.tape
  output : w'.output = w.output
  size : w.heap.size ≤ w'.heap.size
  block : ∀ k, k < w.heap.size → (k < lo ∨ hi ≤ k) → w'.heap[k]? = w.heap[k]?
theorem Mid.refl (lo hi : Nat) (w : World) : Mid lo hi w w := ⟨rfl, rfl, rfl, Nat.le_refl _, fun _ _ _ => rfl⟩
theorem Mid.trans {lo hi : Nat} {u v w : World} (h : Mid lo hi u v) (k : Mid lo hi v w) : Mid lo hi u w :=
  ⟨k.os.trans h.os, k.tape.trans h.tape, k.output.trans h.output, Nat.le_trans h.size k.size, fun i hi' hb => (k.block i (Nat.lt_of_lt_of_le hi' h.size) hb).trans (h.block i hi' hb)⟩
theorem Mid.mono {lo hi lo' hi' : Nat} {u v : World} (h : Mid lo hi u v) (h1 : lo' ≤ lo) (h2 : hi ≤ hi') : Mid lo' hi' u v :=
  ⟨h.os, h.tape, h.output, h.size, fun i a b => h.block i a (by omega)⟩
theorem Mid.of {lo hi : Nat} {u v : World} (h : Below u.heap.size u v) : Mid lo hi u v := ⟨h.os, h.tape, h.output, h.size, fun i a _ => h.block i a⟩
theorem Mid.below {lo hi : Nat} {u v : World} (h : Mid lo hi u v) (hl : lo ≤ u.heap.size) : Below lo u v := ⟨h.os, h.tape, h.output, h.size, fun i a => h.block i (by omega) (.inl a)⟩
theorem Mid.set {lo hi b o : Nat} {u v : World} (h : Mid lo hi u v) (h1 : lo ≤ b) (h2 : b < hi) (x : Value) : Mid lo hi u (v.setCell ⟨b, o, none⟩ x) :=
  ⟨h.os, h.tape, h.output, by simpa [World.setCell] using h.size, fun k hk hb => (Below.heap_setCell _ _ _ _ (by show k ≠ b; omega)).trans (h.block k hk hb)⟩
theorem Mid.cell {lo hi : Nat} {u v : World} (h : Mid lo hi u v) {b o : Nat} (hb : b < u.heap.size) (ho : b < lo ∨ hi ≤ b) : v.cell? ⟨b, o, none⟩ = u.cell? ⟨b, o, none⟩ := World.cell?_of_block (w := u) (h.block b hb ho)
theorem Mid.frozen {lo hi : Nat} {u v : World} (h : Mid lo hi u v) {b o : Nat} (hb : b < u.heap.size) (ho : b < lo ∨ hi ≤ b) : v.frozen? ⟨b, o, none⟩ = u.frozen? ⟨b, o, none⟩ := World.frozen?_of_block (w := u) (h.block b hb ho)
/-- So many cells of a block may be written. -/
def Wr (w : World) (g m : Nat) : Prop := (∀ o, o < m → ∃ v, w.cell? ⟨g, o, none⟩ = some v) ∧ (∀ o, w.frozen? ⟨g, o, none⟩ = false) ∧ g < w.heap.size
theorem Wr.mid {w w' : World} {g m lo hi : Nat} (h : Wr w g m) (k : Mid lo hi w w') (ho : g < lo ∨ hi ≤ g) : Wr w' g m :=
  ⟨fun o hm => by obtain ⟨v, hv⟩ := h.1 o hm; exact ⟨v, (k.cell h.2.2 ho).trans hv⟩, fun o => (k.frozen h.2.2 ho).trans (h.2.1 o), Nat.lt_of_lt_of_le h.2.2 k.size⟩
theorem Wr.call {w w' : World} {g m : Nat} (h : Wr w g m) (hb : Below w.heap.size w w') : Wr w' g m := h.mid (Mid.of (lo := 0) (hi := 0) hb) (.inr (Nat.zero_le _))
theorem Wr.set {w : World} {g m o : Nat} (h : Wr w g m) (x : Value) (ho : o < m) : Wr (w.setCell ⟨g, o, none⟩ x) g m := by
  refine ⟨fun p hp => ?_, fun p => (World.frozen?_setCell _ _ _ _).trans (h.2.1 p), by simpa [World.setCell] using h.2.2⟩
  by_cases e : p = o
  · subst e
    obtain ⟨v, hv⟩ := h.1 p hp
    exact ⟨x, World.cell?_setCell_same _ _ _ hv⟩
  · obtain ⟨v, hv⟩ := h.1 p hp
    exact ⟨v, by rw [World.cell?_setCell_other _ _ _ _ (by intro q; cases q; exact e rfl)]; exact hv⟩
/-- The marks that lie in a row of intervals. -/
def MkV (w : World) (g : Nat) (k : Int) (i : Nat) : Prop := ∀ j, j < i → w.cell? ⟨g, j * 2, none⟩ = some (.int .i64 (k + 2 * j)) ∧ w.cell? ⟨g, j * 2 + 1, none⟩ = some (.int .i64 (k + 2 * j + 1))
theorem MkV.mid {w w' : World} {g i lo hi : Nat} {k : Int} (h : MkV w g k i) (m : Mid lo hi w w') (hg : g < w.heap.size) (ho : g < lo ∨ hi ≤ g) : MkV w' g k i := fun j hj => ⟨(m.cell hg ho).trans (h j hj).1, (m.cell hg ho).trans (h j hj).2⟩
theorem MkV.step {w : World} {g i n : Nat} {k : Int} (h : MkV w g k i) (hw : Wr w g (n * 2)) (hi : i < n) : MkV ((w.setCell ⟨g, i * 2, none⟩ (.int .i64 (k + 2 * i))).setCell ⟨g, i * 2 + 1, none⟩ (.int .i64 (k + 2 * i + 1))) g k (i + 1) := by
  intro j hj
  obtain ⟨v0, h0⟩ := hw.1 (i * 2) (by omega)
  obtain ⟨v1, h1⟩ := hw.1 (i * 2 + 1) (by omega)
  by_cases e : j = i
  · subst e
    refine ⟨?_, ?_⟩
    · rw [World.cell?_setCell_other _ _ _ _ (by simp)]; exact World.cell?_setCell_same _ _ _ h0
    · exact World.cell?_setCell_same _ _ _ (by rw [World.cell?_setCell_other _ _ _ _ (by simp)]; exact h1)
  · obtain ⟨c1, c2⟩ := h j (by omega)
    refine ⟨?_, ?_⟩
    · rw [World.cell?_setCell_other _ _ _ _ (by intro q; have := congrArg Addr.off q; simp at this; omega), World.cell?_setCell_other _ _ _ _ (by intro q; have := congrArg Addr.off q; simp at this; omega)]; exact c1
    · rw [World.cell?_setCell_other _ _ _ _ (by intro q; have := congrArg Addr.off q; simp at this; omega), World.cell?_setCell_other _ _ _ _ (by intro q; have := congrArg Addr.off q; simp at this; omega)]; exact c2
end Go.Proofs.YtpdnnpnclgcpoaaDoor

/- Marks of bounds and of declarations. -/
namespace Go.Proofs.YtpdnnpnclgcpoaaDoor
open Go.RowKit
set_option linter.unusedSimpArgs false
set_option linter.unusedVariables false

theorem C3.mid {u v : World} {b lo hi : Nat} {x y z : Value} (h : C3 u b x y z) (k : Mid lo hi u v) (ho : b < lo ∨ hi ≤ b) : C3 v b x y z :=
  ⟨(k.cell h.lt ho).trans h.1, (k.cell h.lt ho).trans h.2.1, (k.cell h.lt ho).trans h.2.2.1, fun o => (k.frozen h.lt ho).trans (h.2.2.2 o)⟩
/-- A row of intervals that may be written, in a block of lo .. hi - 1. -/
def RowW (w : World) (lo hi : Nat) (a : Option Addr) (n : Nat) : Prop := n = 0 ∨ ∃ g, a = some ⟨g, 0, none⟩ ∧ lo ≤ g ∧ g < hi ∧ Wr w g (n * 2)
/-- Marks lie in it. -/
def MkR (w : World) (lo hi : Nat) (a : Option Addr) (k : Int) (n : Nat) : Prop := n = 0 ∨ ∃ g, a = some ⟨g, 0, none⟩ ∧ lo ≤ g ∧ g < hi ∧ g < w.heap.size ∧ MkV w g k n
theorem RowW.mid {w w' : World} {lo hi l h n : Nat} {a : Option Addr} (r : RowW w lo hi a n) (k : Mid l h w w') (ho : hi ≤ l ∨ h ≤ lo) : RowW w' lo hi a n := by
  rcases r with r | ⟨g, e, h1, h2, h3⟩
  · exact .inl r
  · exact .inr ⟨g, e, h1, h2, h3.mid k (by omega)⟩
theorem MkR.mid {w w' : World} {lo hi l h n : Nat} {a : Option Addr} {q : Int} (r : MkR w lo hi a q n) (k : Mid l h w w') (ho : hi ≤ l ∨ h ≤ lo) : MkR w' lo hi a q n := by
  rcases r with r | ⟨g, e, h1, h2, h4, h3⟩
  · exact .inl r
  · exact .inr ⟨g, e, h1, h2, Nat.lt_of_lt_of_le h4 k.size, h3.mid k h4 (by omega)⟩
theorem RowW.call {w w' : World} {lo hi n : Nat} {a : Option Addr} (r : RowW w lo hi a n) (hb : Below w.heap.size w w') : RowW w' lo hi a n := r.mid (Mid.of (lo := 0) (hi := 0) hb) (.inr (Nat.zero_le _))
theorem MkR.call {w w' : World} {lo hi n : Nat} {a : Option Addr} {q : Int} (r : MkR w lo hi a q n) (hb : Below w.heap.size w w') : MkR w' lo hi a q n := r.mid (Mid.of (lo := 0) (hi := 0) hb) (.inr (Nat.zero_le _))
/-- Two rows lie in blocks of their own. -/
def Apart (a b : Option Addr) : Prop := ∀ x y, a = some x → b = some y → x.block ≠ y.block
end Go.Proofs.YtpdnnpnclgcpoaaDoor

/- Marks in a row of numbers. -/
namespace Go.Proofs.YtpdnnpnclgcpoaaDoor
open Go.RowKit
set_option linter.unusedSimpArgs false
set_option linter.unusedVariables false

theorem OwnI.wr {w : World} {b : Nat} {xs : List Int} (h : OwnI w b xs) : Wr w b xs.length := by
  refine ⟨fun o ho => ?_, h.2.1, h.2.2⟩
  rcases h.1.2 with h0 | ⟨cb, co, he, hc⟩
  · omega
  · obtain ⟨rfl, rfl⟩ : b = cb ∧ 0 = co := by injection he with q; injection q with q1 q2; exact ⟨q1, q2⟩
    have := hc o ho
    rw [Nat.zero_add] at this
    exact ⟨_, this⟩
theorem OwnI.mid {w w' : World} {b lo hi : Nat} {xs : List Int} (h : OwnI w b xs) (k : Mid lo hi w w') (ho : b < lo ∨ hi ≤ b) : OwnI w' b xs := by
  refine ⟨⟨h.1.1, ?_⟩, fun o => (k.frozen h.2.2 ho).trans (h.2.1 o), Nat.lt_of_lt_of_le h.2.2 k.size⟩
  rcases h.1.2 with h0 | ⟨cb, co, he, hc⟩
  · exact .inl h0
  · obtain ⟨rfl, rfl⟩ : b = cb ∧ 0 = co := by injection he with q; injection q with q1 q2; exact ⟨q1, q2⟩
    exact .inr ⟨b, 0, rfl, fun i hi => (k.cell h.2.2 ho).trans (hc i hi)⟩
end Go.Proofs.YtpdnnpnclgcpoaaDoor

