/- Texts that go together: LawG, LawU. -/
import Derived.Test.YtpdnnpnclgcpoaaDoorStZ
import Derived.Test.YtpdnnpnclgcpoaaDoorLeZ
import Derived.Deep.DeepCutAuto
import Derived.Test.YtpdnnpnclgcpoaaDoorSiZ
/- Three structs of three cells, all their cells at hand. -/
namespace Go.Proofs.YtpdnnpnclgcpoaaDoor
open Go.RowKit
set_option linter.unusedSimpArgs false
set_option linter.unusedVariables false
@[reducible] def G3 (w0 : World) (b : Nat) (x0 y0 z0 x1 y1 z1 x2 y2 z2 : Value) (u : World) : Prop :=
  u.cell? ⟨b, 0, none⟩ = some x0 ∧ u.cell? ⟨b, 1, none⟩ = some y0 ∧ u.cell? ⟨b, 2, none⟩ = some z0 ∧ u.cell? ⟨b + 1, 0, none⟩ = some x1 ∧ u.cell? ⟨b + 1, 1, none⟩ = some y1 ∧ u.cell? ⟨b + 1, 2, none⟩ = some z1 ∧ u.cell? ⟨b + 2, 0, none⟩ = some x2 ∧ u.cell? ⟨b + 2, 1, none⟩ = some y2 ∧ u.cell? ⟨b + 2, 2, none⟩ = some z2 ∧ Hid (B3 w0 b x0 y0 z0 x1 y1 z1 x2 y2 z2 u)
theorem G3.of {w0 u : World} {b : Nat} {x0 y0 z0 x1 y1 z1 x2 y2 z2 : Value} (h : B3 w0 b x0 y0 z0 x1 y1 z1 x2 y2 z2 u) : G3 w0 b x0 y0 z0 x1 y1 z1 x2 y2 z2 u :=
  ⟨h.1.1, h.1.2.1, h.1.2.2.1, h.2.1.1, h.2.1.2.1, h.2.1.2.2.1, h.2.2.1.1, h.2.2.1.2.1, h.2.2.1.2.2.1, h⟩
theorem G3.b3 {w0 u : World} {b : Nat} {x0 y0 z0 x1 y1 z1 x2 y2 z2 : Value} (h : G3 w0 b x0 y0 z0 x1 y1 z1 x2 y2 z2 u) : B3 w0 b x0 y0 z0 x1 y1 z1 x2 y2 z2 u := unhide h.2.2.2.2.2.2.2.2.2
theorem G3.call {w0 u v : World} {b : Nat} {x0 y0 z0 x1 y1 z1 x2 y2 z2 : Value} (hb : Below u.heap.size u v) (h : G3 w0 b x0 y0 z0 x1 y1 z1 x2 y2 z2 u) : G3 w0 b x0 y0 z0 x1 y1 z1 x2 y2 z2 v := G3.of (h.b3.call hb)
theorem G3.drew {w0 u : World} {b : Nat} {x0 y0 z0 x1 y1 z1 x2 y2 z2 : Value} (h : G3 w0 b x0 y0 z0 x1 y1 z1 x2 y2 z2 u) : G3 w0 b x0 y0 z0 x1 y1 z1 x2 y2 z2 u.drew := G3.call (Below.refl _ _).drew h
end Go.Proofs.YtpdnnpnclgcpoaaDoor

/- Memory of an answer: its box and its rows; what stays while copies are marked. -/
namespace Go.Proofs.YtpdnnpnclgcpoaaDoor
open Go.RowKit
set_option linter.unusedSimpArgs false
set_option linter.unusedVariables false

theorem bel_drew {u v : World} (h : Below u.drew.heap.size u.drew v) : Below u.heap.size u v := ((Below.refl _ u).drew).trans h
theorem bel_set {u v : World} {b o : Nat} {x : Value} (h : Below u.heap.size u v) (hb : u.heap.size ≤ b) : Below u.heap.size u (v.setCell ⟨b, o, none⟩ x) := h.setCell (by exact hb) x
/-- Two structs of three cells and one of two; below all is as it was. -/
def B8 (w0 : World) (p q r : Nat) (x0 y0 z0 x1 y1 z1 l h : Value) (u : World) : Prop := C3 u p x0 y0 z0 ∧ C3 u q x1 y1 z1 ∧ (u.cell? ⟨r, 0, none⟩ = some l ∧ u.cell? ⟨r, 1, none⟩ = some h) ∧ Below w0.heap.size w0 u
theorem B8.call {w0 u v : World} {p q r : Nat} {x0 y0 z0 x1 y1 z1 l h : Value} (k : B8 w0 p q r x0 y0 z0 x1 y1 z1 l h u) (hb : Below u.heap.size u v) : B8 w0 p q r x0 y0 z0 x1 y1 z1 l h v :=
  ⟨k.1.call hb, k.2.1.call hb, ⟨(hb.cell (World.block_lt_of_cell? u _ k.2.2.1.1)).trans k.2.2.1.1, (hb.cell (World.block_lt_of_cell? u _ k.2.2.1.2)).trans k.2.2.1.2⟩, k.2.2.2.trans (hb.mono k.2.2.2.size)⟩
theorem Below.mid {w0 u v : World} {lo hi : Nat} (k : Below w0.heap.size w0 u) (m : Mid lo hi u v) (hw : w0.heap.size ≤ lo) : Below w0.heap.size w0 v :=
  ⟨m.os.trans k.os, m.tape.trans k.tape, m.output.trans k.output, Nat.le_trans k.size m.size, fun i hi => (m.block i (Nat.lt_of_lt_of_le hi k.size) (.inl (by omega))).trans (k.block i hi)⟩
theorem B8.mid {w0 u v : World} {p q r lo hi : Nat} {x0 y0 z0 x1 y1 z1 l h : Value} (k : B8 w0 p q r x0 y0 z0 x1 y1 z1 l h u) (m : Mid lo hi u v) (hp : p < lo) (hq : q < lo) (hr : r < lo) (hw : w0.heap.size ≤ lo) : B8 w0 p q r x0 y0 z0 x1 y1 z1 l h v :=
  ⟨k.1.mid m (.inl hp), k.2.1.mid m (.inl hq), ⟨(m.cell (World.block_lt_of_cell? u _ k.2.2.1.1) (.inl hr)).trans k.2.2.1.1, (m.cell (World.block_lt_of_cell? u _ k.2.2.1.2) (.inl hr)).trans k.2.2.1.2⟩, Below.mid k.2.2.2 m hw⟩
theorem B8.new (w : World) (x0 y0 z0 x1 y1 z1 l h : Value) (t0 t1 t2 : TypeId) : B8 w w.heap.size (w.heap.size + 1) (w.heap.size + 2) x0 y0 z0 x1 y1 z1 l h (((w.alloc (Obj.cells #[x0, y0, z0] t0)).alloc (Obj.cells #[x1, y1, z1] t1)).alloc (Obj.cells #[l, h] t2)) := by
  have T0 := ((C3.new w x0 y0 z0 t0).alloc (Obj.cells #[x1, y1, z1] t1)).alloc (Obj.cells #[l, h] t2)
  have T1 := (C3.new (w.alloc (Obj.cells #[x0, y0, z0] t0)) x1 y1 z1 t1).alloc (Obj.cells #[l, h] t2)
  rw [show (w.alloc (Obj.cells #[x0, y0, z0] t0)).heap.size = w.heap.size + 1 by simp] at T1
  refine ⟨T0, T1, ?_, (((Below.refl _ _).alloc (Nat.le_refl _) _).alloc (by simp) _).alloc (by simp; omega) _⟩
  have e : w.heap.size + 2 = ((w.alloc (Obj.cells #[x0, y0, z0] t0)).alloc (Obj.cells #[x1, y1, z1] t1)).heap.size := by simp
  constructor
  · unfold World.cell?; rw [e, heap_alloc_new]; rfl
  · unfold World.cell?; rw [e, heap_alloc_new]; rfl
theorem B8.set {w0 u : World} {p q r c o : Nat} {x0 y0 z0 x1 y1 z1 l h : Value} (k : B8 w0 p q r x0 y0 z0 x1 y1 z1 l h u) (hp : p < w0.heap.size) (hq : q < w0.heap.size) (hr : r < w0.heap.size) (hc : w0.heap.size ≤ c) (x : Value) : B8 w0 p q r x0 y0 z0 x1 y1 z1 l h (u.setCell ⟨c, o, none⟩ x) :=
  ⟨k.1.other (by omega), k.2.1.other (by omega), ⟨(World.cell?_setCell_other _ _ _ _ (fun e => by have : c = r := congrArg Addr.block e; omega)).trans k.2.2.1.1, (World.cell?_setCell_other _ _ _ _ (fun e => by have : c = r := congrArg Addr.block e; omega)).trans k.2.2.1.2⟩, k.2.2.2.setCell (by exact hc) x⟩
@[reducible] def G8 (w0 : World) (p q r : Nat) (x0 y0 z0 x1 y1 z1 l h : Value) (u : World) : Prop :=
  u.cell? ⟨p, 0, none⟩ = some x0 ∧ u.cell? ⟨p, 1, none⟩ = some y0 ∧ u.cell? ⟨p, 2, none⟩ = some z0 ∧ u.cell? ⟨q, 0, none⟩ = some x1 ∧ u.cell? ⟨q, 1, none⟩ = some y1 ∧ u.cell? ⟨q, 2, none⟩ = some z1 ∧ u.cell? ⟨r, 0, none⟩ = some l ∧ u.cell? ⟨r, 1, none⟩ = some h ∧ Hid (B8 w0 p q r x0 y0 z0 x1 y1 z1 l h u)
theorem G8.of {w0 u : World} {p q r : Nat} {x0 y0 z0 x1 y1 z1 l h : Value} (k : B8 w0 p q r x0 y0 z0 x1 y1 z1 l h u) : G8 w0 p q r x0 y0 z0 x1 y1 z1 l h u := ⟨k.1.1, k.1.2.1, k.1.2.2.1, k.2.1.1, k.2.1.2.1, k.2.1.2.2.1, k.2.2.1.1, k.2.2.1.2, k⟩
theorem G8.b8 {w0 u : World} {p q r : Nat} {x0 y0 z0 x1 y1 z1 l h : Value} (k : G8 w0 p q r x0 y0 z0 x1 y1 z1 l h u) : B8 w0 p q r x0 y0 z0 x1 y1 z1 l h u := unhide k.2.2.2.2.2.2.2.2
theorem G8.call {w0 u v : World} {p q r : Nat} {x0 y0 z0 x1 y1 z1 l h : Value} (k : G8 w0 p q r x0 y0 z0 x1 y1 z1 l h u) (hb : Below u.heap.size u v) : G8 w0 p q r x0 y0 z0 x1 y1 z1 l h v := G8.of (k.b8.call hb)
theorem G8.drew {w0 u : World} {p q r : Nat} {x0 y0 z0 x1 y1 z1 l h : Value} (k : G8 w0 p q r x0 y0 z0 x1 y1 z1 l h u) : G8 w0 p q r x0 y0 z0 x1 y1 z1 l h u.drew := G8.call k (Below.refl _ _).drew
theorem G8.bel {w0 u : World} {p q r : Nat} {x0 y0 z0 x1 y1 z1 l h : Value} (k : G8 w0 p q r x0 y0 z0 x1 y1 z1 l h u) : Below w0.heap.size w0 u := k.b8.2.2.2
/-- A row stays where its block does. -/
theorem own_at {w w' : World} {B : Nat} {e : TypeId} {k : Nat} {v : Value} {n : Nat} {xs : List Value} (h : w.ownsRow B e k v n xs) (hb : ∀ g, v.ownBlock = some g → w'.heap[g]? = w.heap[g]?) : w'.ownsRow B e k v n xs := by
  refine ⟨h.1, ?_⟩
  rcases h.2 with h0 | ⟨g, cap, cur, hv, hB, hg, r⟩
  · exact .inl h0
  · exact .inr ⟨g, cap, cur, hv, hB, (hb g (by rw [hv]; rfl)).trans hg, r⟩
/-- The rows of an answer, and between which blocks they lie. -/
def RowsT (u : World) (B T : Nat) (oa : Option Addr) (ca : Nat) (ob : Option Addr) (cb : Nat) (xs ys : List (Int × Int)) : Prop :=
  RowsE u B oa ca ob cb xs ys ∧ (∀ x, oa = some x → B ≤ x.block ∧ x.block < T) ∧ (∀ x, ob = some x → B ≤ x.block ∧ x.block < T) ∧ T ≤ u.heap.size
theorem RowsT.of {u : World} {B ca cb : Nat} {oa ob : Option Addr} {xs ys : List (Int × Int)} (h : RowsE u B oa ca ob cb xs ys) : RowsT u B u.heap.size oa ca ob cb xs ys :=
  ⟨h, fun x hx => h.1.lt x.block (by rw [hx]; rfl), fun x hx => h.2.1.lt x.block (by rw [hx]; rfl), Nat.le_refl _⟩
theorem RowsT.at' {u v : World} {B T ca cb : Nat} {oa ob : Option Addr} {xs ys : List (Int × Int)} (h : RowsT u B T oa ca ob cb xs ys) (hb : ∀ g, B ≤ g → g < T → v.heap[g]? = u.heap[g]?) (hs : u.heap.size ≤ v.heap.size) : RowsT v B T oa ca ob cb xs ys := by
  refine ⟨⟨own_at h.1.1 fun g hg => ?_, own_at h.1.2.1 fun g hg => ?_, h.1.2.2⟩, h.2.1, h.2.2.1, Nat.le_trans h.2.2.2 hs⟩
  · cases oa with
    | none => cases hg
    | some x =>
      have e : x.block = g := by simpa [Value.ownBlock] using hg
      subst e
      exact hb _ (h.2.1 x rfl).1 (h.2.1 x rfl).2
  · cases ob with
    | none => cases hg
    | some x =>
      have e : x.block = g := by simpa [Value.ownBlock] using hg
      subst e
      exact hb _ (h.2.2.1 x rfl).1 (h.2.2.1 x rfl).2
theorem RowsT.call {u v : World} {B T ca cb : Nat} {oa ob : Option Addr} {xs ys : List (Int × Int)} (h : RowsT u B T oa ca ob cb xs ys) (hb : Below u.heap.size u v) : RowsT v B T oa ca ob cb xs ys :=
  h.at' (fun g _ h2 => hb.block g (Nat.lt_of_lt_of_le h2 h.2.2.2)) hb.size
theorem RowsT.set {u : World} {B T ca cb c o : Nat} {oa ob : Option Addr} {xs ys : List (Int × Int)} (h : RowsT u B T oa ca ob cb xs ys) (hc : c < B ∨ T ≤ c) (x : Value) : RowsT (u.setCell ⟨c, o, none⟩ x) B T oa ca ob cb xs ys :=
  h.at' (fun g h1 h2 => Below.heap_setCell _ _ _ _ (by show g ≠ c; omega)) (by simp [World.setCell])
theorem RowsT.mid {u v : World} {B T ca cb lo hi : Nat} {oa ob : Option Addr} {xs ys : List (Int × Int)} (h : RowsT u B T oa ca ob cb xs ys) (m : Mid lo hi u v) (ho : hi ≤ B ∨ T ≤ lo) : RowsT v B T oa ca ob cb xs ys :=
  h.at' (fun g h1 h2 => m.block g (Nat.lt_of_lt_of_le h2 h.2.2.2) (by omega)) m.size
theorem own_roww {w : World} {B T : Nat} {e : TypeId} {oa : Option Addr} {c : Nat} {xs : List (Int × Int)} (h : w.ownsRow B e 2 (.slice oa xs.length c) xs.length (cellsV xs)) (ht : ∀ x, oa = some x → B ≤ x.block ∧ x.block < T) : RowW w B T oa xs.length := by
  rcases h.2 with ⟨_, h0⟩ | ⟨g, cap, cur, hv, hB, hg, r⟩
  · exact .inl h0
  · cases hv
    refine .inr ⟨g, rfl, hB, (ht _ rfl).2, fun o ho => ?_, fun o => h.frozenAt o, (Array.getElem?_eq_some_iff.1 hg).1⟩
    have := h.cellAt o ho
    rw [this]
    exact ⟨_, List.getElem?_eq_getElem (by rw [cellsV_len]; exact ho)⟩
theorem RowsT.roww {u : World} {B T ca cb : Nat} {oa ob : Option Addr} {xs ys : List (Int × Int)} (h : RowsT u B T oa ca ob cb xs ys) : RowW u B T oa xs.length ∧ RowW u B T ob ys.length := ⟨own_roww h.1.1 h.2.1, own_roww h.1.2.1 h.2.2.1⟩
theorem Apart.symm {a b : Option Addr} (h : Apart a b) : Apart b a := fun x y hx hy e => h y x hy hx e.symm
/-- The answer in its box. -/
def Ans (g : Nat) (B T : Nat) (ok : Bool) (oa : Option Addr) (ca : Nat) (ob : Option Addr) (cb : Nat) (xs ys : List (Int × Int)) (u : World) : Prop :=
  C3 u g (.bool ok) (.slice oa xs.length ca) (.slice ob ys.length cb) ∧ RowsT u B T oa ca ob cb xs ys ∧ (g < B ∨ T ≤ g)
theorem Ans.call {u v : World} {g B T ca cb : Nat} {ok : Bool} {oa ob : Option Addr} {xs ys : List (Int × Int)} (h : Ans g B T ok oa ca ob cb xs ys u) (hb : Below u.heap.size u v) : Ans g B T ok oa ca ob cb xs ys v := ⟨h.1.call hb, h.2.1.call hb, h.2.2⟩
theorem Ans.mid {u v : World} {g B T ca cb lo hi : Nat} {ok : Bool} {oa ob : Option Addr} {xs ys : List (Int × Int)} (h : Ans g B T ok oa ca ob cb xs ys u) (m : Mid lo hi u v) (hg : g < lo ∨ hi ≤ g) (ho : hi ≤ B ∨ T ≤ lo) : Ans g B T ok oa ca ob cb xs ys v := ⟨h.1.mid m hg, h.2.1.mid m ho, h.2.2⟩
theorem Ans.stored {u : World} {g B T ca cb : Nat} {ok : Bool} {oa ob : Option Addr} {xs ys : List (Int × Int)} {x y z : Value} (hA : C3 u g x y z) (hR : RowsT u B T oa ca ob cb xs ys) (hn : g < B ∨ T ≤ g) :
    Ans g B T ok oa ca ob cb xs ys (((u.setCell ⟨g, 0, none⟩ (.bool ok)).setCell ⟨g, 1, none⟩ (.slice oa xs.length ca)).setCell ⟨g, 2, none⟩ (.slice ob ys.length cb)) :=
  ⟨((hA.set0 _).set1 _).set2 _, ((hR.set hn _).set hn _).set hn _, hn⟩
theorem OwnV.roww {w : World} {b lo hi : Nat} {xs : List (Int × Int)} (h : OwnV w b xs) (h1 : lo ≤ b) (h2 : b < hi) : RowW w lo hi (some ⟨b, 0, none⟩) xs.length := by
  refine .inr ⟨b, rfl, h1, h2, fun o ho => ?_, h.2.1, h.2.2⟩
  rcases h.1.2 with h0 | ⟨cb, co, e, hc⟩
  · omega
  · cases e
    have c := hc (o / 2) (by omega)
    rw [Nat.zero_add] at c
    by_cases q : o % 2 = 0
    · have eo : o / 2 * 2 = o := by omega
      rw [eo] at c
      exact ⟨_, c.1⟩
    · have eo : o / 2 * 2 + 1 = o := by omega
      rw [eo] at c
      exact ⟨_, c.2⟩
theorem OwnS.wr {w : World} {b : Nat} {xs : List ByteArray} (h : OwnS w b xs) : Wr w b xs.length := by
  refine ⟨fun o ho => ?_, h.2.1, h.2.2⟩
  rcases h.1.2 with h0 | ⟨cb, co, e, hc⟩
  · omega
  · cases e
    have c := hc o ho
    rw [Nat.zero_add] at c
    exact ⟨_, c⟩
theorem OwnA.wr {w : World} {b : Nat} {xs : List (ByteArray × Int)} (h : OwnA w b xs) : Wr w b (xs.length * 2) := by
  refine ⟨fun o ho => ?_, h.2.1, h.2.2⟩
  rcases h.1.2 with h0 | ⟨cb, co, e, hc⟩
  · omega
  · cases e
    have c := hc (o / 2) (by omega)
    rw [Nat.zero_add] at c
    by_cases q : o % 2 = 0
    · have eo : o / 2 * 2 = o := by omega
      rw [eo] at c
      exact ⟨_, c.1⟩
    · have eo : o / 2 * 2 + 1 = o := by omega
      rw [eo] at c
      exact ⟨_, c.2⟩
end Go.Proofs.YtpdnnpnclgcpoaaDoor

