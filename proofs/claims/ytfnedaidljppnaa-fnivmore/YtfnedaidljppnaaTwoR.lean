/- Four pairs, kept over calls; answers of four cells stored at once. -/
import Derived.Test.YtfnedaidljppnaaTwoQ
namespace Go.Proofs.Ytfnedaidljppnaa
open Go.RowKit Go.Iv
set_option linter.unusedSimpArgs false

@[reducible] def S8 (w0 : World) (M A E : Nat) (al ah bl bh cl ch dl dh : Int) (w : World) : Prop :=
  w.cell? ⟨A, 0, none⟩ = some (.int .i64 al) ∧ w.cell? ⟨A, 1, none⟩ = some (.int .i64 ah) ∧ w.cell? ⟨A + 1, 0, none⟩ = some (.int .i64 bl) ∧ w.cell? ⟨A + 1, 1, none⟩ = some (.int .i64 bh) ∧ w.cell? ⟨E, 0, none⟩ = some (.int .i64 cl) ∧ w.cell? ⟨E, 1, none⟩ = some (.int .i64 ch) ∧ w.cell? ⟨E + 1, 0, none⟩ = some (.int .i64 dl) ∧ w.cell? ⟨E + 1, 1, none⟩ = some (.int .i64 dh) ∧ Hid (Below M w0 w ∧ M ≤ w.heap.size ∧ A + 2 ≤ w.heap.size ∧ E + 2 ≤ w.heap.size)
theorem S8.to {w0 w w1 : World} {M A E c : Nat} {al ah bl bh cl ch dl dh : Int} (hb : Below c w w1) (hm : M ≤ c) (ha : A + 2 ≤ c) (he : E + 2 ≤ c) (h : S8 w0 M A E al ah bl bh cl ch dl dh w) : S8 w0 M A E al ah bl bh cl ch dl dh w1 := by
  obtain ⟨a0, a1, b0, b1, c0, c1, d0, d1, r⟩ := h
  obtain ⟨k, s, s1, s2⟩ := unhide r
  have g := hb.size
  exact ⟨(hb.cell (by show A < c; omega)).trans a0, (hb.cell (by show A < c; omega)).trans a1, (hb.cell (by show A + 1 < c; omega)).trans b0, (hb.cell (by show A + 1 < c; omega)).trans b1, (hb.cell (by show E < c; omega)).trans c0, (hb.cell (by show E < c; omega)).trans c1, (hb.cell (by show E + 1 < c; omega)).trans d0, (hb.cell (by show E + 1 < c; omega)).trans d1, hide ⟨k.trans (hb.mono hm), by omega, by omega, by omega⟩⟩
theorem S8.call {w0 w w1 : World} {M A E : Nat} {al ah bl bh cl ch dl dh : Int} (hb : Below w.heap.size w w1) (h : S8 w0 M A E al ah bl bh cl ch dl dh w) : S8 w0 M A E al ah bl bh cl ch dl dh w1 :=
  S8.to hb (unhide h.2.2.2.2.2.2.2.2).2.1 (unhide h.2.2.2.2.2.2.2.2).2.2.1 (unhide h.2.2.2.2.2.2.2.2).2.2.2 h
theorem S8.drew {w0 w : World} {M A E : Nat} {al ah bl bh cl ch dl dh : Int} (h : S8 w0 M A E al ah bl bh cl ch dl dh w) : S8 w0 M A E al ah bl bh cl ch dl dh w.drew := S8.call (Below.refl _ w).drew h
theorem S8.alloc {w0 w : World} {M A E : Nat} {al ah bl bh cl ch dl dh : Int} (h : S8 w0 M A E al ah bl bh cl ch dl dh w) (o : Obj) : S8 w0 M A E al ah bl bh cl ch dl dh (w.alloc o) := S8.call ((Below.refl _ w).alloc (Nat.le_refl _) o) h
/-- Four cells stored. -/
theorem below_put (w : World) (b : Nat) (p q r s : Value) : Below b w ((((w.setCell ⟨b, 0, none⟩ p).setCell ⟨b, 1, none⟩ q).setCell ⟨b, 2, none⟩ r).setCell ⟨b, 3, none⟩ s) :=
  ((((Below.refl b w).setCell (p := ⟨b, 0, none⟩) (Nat.le_refl _) _).setCell (p := ⟨b, 1, none⟩) (Nat.le_refl _) _).setCell (p := ⟨b, 2, none⟩) (Nat.le_refl _) _).setCell (p := ⟨b, 3, none⟩) (Nat.le_refl _) _
/-- Where a fresh answer lies. -/
def FB (M A E b : Nat) : Prop := M ≤ b ∧ A + 2 ≤ b ∧ E + 2 ≤ b
theorem FB.of {w0 w : World} {M A E : Nat} {al ah bl bh cl ch dl dh : Int} (h : S8 w0 M A E al ah bl bh cl ch dl dh w) : FB M A E w.heap.size := (unhide h.2.2.2.2.2.2.2.2).2
theorem S8.put {w0 w : World} {M A E b : Nat} {al ah bl bh cl ch dl dh : Int} (h : S8 w0 M A E al ah bl bh cl ch dl dh w) (hb : FB M A E b) (p q r s : Value) : S8 w0 M A E al ah bl bh cl ch dl dh ((((w.setCell ⟨b, 0, none⟩ p).setCell ⟨b, 1, none⟩ q).setCell ⟨b, 2, none⟩ r).setCell ⟨b, 3, none⟩ s) := S8.to (below_put w b p q r s) hb.1 hb.2.1 hb.2.2 h
theorem C4.far {b c : Nat} {x y : Int} {l : Bool} {u : Int} {w : World} (h : C4 b x y l u w) (hne : c ≠ b) (p q r s : Value) : C4 b x y l u ((((w.setCell ⟨c, 0, none⟩ p).setCell ⟨c, 1, none⟩ q).setCell ⟨c, 2, none⟩ r).setCell ⟨c, 3, none⟩ s) :=
  (((h.set_far hne).set_far hne).set_far hne).set_far hne
theorem join_in (al ah cl ch : Int) (h : al ≤ ah ∧ cl ≤ ch) (h1 : In al) (h2 : In ah) (h3 : In cl) (h4 : In ch) : In (joinL al ah cl ch) ∧ In (joinH al ah cl ch) ∧ joinL al ah cl ch ≤ al ∧ ah ≤ joinH al ah cl ch := by
  unfold joinL joinH
  rw [if_pos h, if_pos h]
  refine ⟨by unfold mn; split <;> assumption, by unfold mx; split <;> assumption, by rw [mn_eq]; omega, by rw [mx_eq]; omega⟩
end Go.Proofs.Ytfnedaidljppnaa
