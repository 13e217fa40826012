/- Structs of three cells of the call's own, kept over calls and stores. -/
import Derived.Test.YthldhjifnpfmiaaGreatDoorHeldC
namespace Go.Proofs.YthldhjifnpfmiaaGreatDoor
open Go.RowKit
set_option linter.unusedSimpArgs false

/-- Three cells of a block that may be written. -/
def C3 (u : World) (b : Nat) (x y z : Value) : Prop :=
  u.cell? ⟨b, 0, none⟩ = some x ∧ u.cell? ⟨b, 1, none⟩ = some y ∧ u.cell? ⟨b, 2, none⟩ = some z ∧ (∀ o, u.frozen? ⟨b, o, none⟩ = false)
theorem C3.lt {u : World} {b : Nat} {x y z : Value} (h : C3 u b x y z) : b < u.heap.size := World.block_lt_of_cell? u _ h.1
theorem C3.call {u v : World} {b : Nat} {x y z : Value} (h : C3 u b x y z) (hb : Below u.heap.size u v) : C3 v b x y z := by
  have k : b < u.heap.size := h.lt
  exact ⟨(hb.cell (by exact k)).trans h.1, (hb.cell (by exact k)).trans h.2.1, (hb.cell (by exact k)).trans h.2.2.1, fun o => (hb.frozen (by exact k)).trans (h.2.2.2 o)⟩
theorem C3.alloc {u : World} {b : Nat} {x y z : Value} (h : C3 u b x y z) (o : Obj) : C3 (u.alloc o) b x y z := h.call ((Below.refl _ u).alloc (Nat.le_refl _) o)
theorem C3.set0 {u : World} {b : Nat} {x y z : Value} (h : C3 u b x y z) (v : Value) : C3 (u.setCell ⟨b, 0, none⟩ v) b v y z := by
  refine ⟨World.cell?_setCell_same _ _ _ h.1, ?_, ?_, fun o => (World.frozen?_setCell _ _ _ _).trans (h.2.2.2 o)⟩
  · rw [World.cell?_setCell_other _ _ _ _ (by simp)]; exact h.2.1
  · rw [World.cell?_setCell_other _ _ _ _ (by simp)]; exact h.2.2.1
theorem C3.set1 {u : World} {b : Nat} {x y z : Value} (h : C3 u b x y z) (v : Value) : C3 (u.setCell ⟨b, 1, none⟩ v) b x v z := by
  refine ⟨?_, World.cell?_setCell_same _ _ _ h.2.1, ?_, fun o => (World.frozen?_setCell _ _ _ _).trans (h.2.2.2 o)⟩
  · rw [World.cell?_setCell_other _ _ _ _ (by simp)]; exact h.1
  · rw [World.cell?_setCell_other _ _ _ _ (by simp)]; exact h.2.2.1
theorem C3.set2 {u : World} {b : Nat} {x y z : Value} (h : C3 u b x y z) (v : Value) : C3 (u.setCell ⟨b, 2, none⟩ v) b x y v := by
  refine ⟨?_, ?_, World.cell?_setCell_same _ _ _ h.2.2.1, fun o => (World.frozen?_setCell _ _ _ _).trans (h.2.2.2 o)⟩
  · rw [World.cell?_setCell_other _ _ _ _ (by simp)]; exact h.1
  · rw [World.cell?_setCell_other _ _ _ _ (by simp)]; exact h.2.1
theorem C3.other {u : World} {b c o : Nat} {x y z v : Value} (h : C3 u b x y z) (hne : c ≠ b) : C3 (u.setCell ⟨c, o, none⟩ v) b x y z := by
  refine ⟨?_, ?_, ?_, fun o => (World.frozen?_setCell _ _ _ _).trans (h.2.2.2 o)⟩
  · rw [World.cell?_setCell_other _ _ _ _ (fun e => hne (congrArg Addr.block e))]; exact h.1
  · rw [World.cell?_setCell_other _ _ _ _ (fun e => hne (congrArg Addr.block e))]; exact h.2.1
  · rw [World.cell?_setCell_other _ _ _ _ (fun e => hne (congrArg Addr.block e))]; exact h.2.2.1
theorem C3.new (u : World) (x y z : Value) (t : TypeId) : C3 (u.alloc (Obj.cells #[x, y, z] t)) u.heap.size x y z := by
  refine ⟨?_, ?_, ?_, ?_⟩
  · unfold World.cell?; rw [heap_alloc_new]; rfl
  · unfold World.cell?; rw [heap_alloc_new]; rfl
  · unfold World.cell?; rw [heap_alloc_new]; rfl
  · intro o; unfold World.frozen?; rw [heap_alloc_new]; simp
@[reducible] def H6 (w0 : World) (b c : Nat) (x y z p q r : Value) (w : World) : Prop := w.cell? ⟨b, 0, none⟩ = some x ∧ w.cell? ⟨b, 1, none⟩ = some y ∧ w.cell? ⟨b, 2, none⟩ = some z ∧ w.cell? ⟨c, 0, none⟩ = some p ∧ w.cell? ⟨c, 1, none⟩ = some q ∧ w.cell? ⟨c, 2, none⟩ = some r ∧ C3 w b x y z ∧ C3 w c p q r ∧ Below w0.heap.size w0 w
theorem H6.of {w0 w : World} {b c : Nat} {x y z p q r : Value} (h : C3 w b x y z) (k : C3 w c p q r) (hb : Below w0.heap.size w0 w) : H6 w0 b c x y z p q r w := ⟨h.1, h.2.1, h.2.2.1, k.1, k.2.1, k.2.2.1, h, k, hb⟩
theorem H6.below {w0 w : World} {b c : Nat} {x y z p q r : Value} (h : H6 w0 b c x y z p q r w) : Below w0.heap.size w0 w := h.2.2.2.2.2.2.2.2
theorem H6.drew {w0 w : World} {b c : Nat} {x y z p q r : Value} (h : H6 w0 b c x y z p q r w) : H6 w0 b c x y z p q r w.drew := ⟨h.1, h.2.1, h.2.2.1, h.2.2.2.1, h.2.2.2.2.1, h.2.2.2.2.2.1, h.2.2.2.2.2.2.1, h.2.2.2.2.2.2.2.1, h.below.drew⟩
theorem H6.call {w0 w w1 : World} {b c : Nat} {x y z p q r : Value} (hb : Below w.heap.size w w1) (h : H6 w0 b c x y z p q r w) : H6 w0 b c x y z p q r w1 := H6.of (h.2.2.2.2.2.2.1.call hb) (h.2.2.2.2.2.2.2.1.call hb) (h.below.trans (hb.mono h.below.size))
theorem size_setCell (u : World) (a : Addr) (v : Value) : (u.setCell a v).heap.size = u.heap.size := by simp [World.setCell]
end Go.Proofs.YthldhjifnpfmiaaGreatDoor
