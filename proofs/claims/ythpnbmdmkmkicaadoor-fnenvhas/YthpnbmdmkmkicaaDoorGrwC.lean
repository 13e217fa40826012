/- A byte of a code; bounds made wider by a code. -/
import Derived.Test.YthpnbmdmkmkicaaDoorHurC
import Derived.Test.YthpnbmdmkmkicaaDoorMeZ
namespace Go.Proofs.YthpnbmdmkmkicaaDoor
open Go.RowKit Go.Iv
set_option linter.unusedSimpArgs false
set_option linter.unusedVariables false

set_option maxHeartbeats 1000000 in
theorem byteOf_c (a : Option Addr) (len cap : Nat) (i : Int) (hi : 0 ≤ i ∧ i ≤ 4611686018427387904) (w : World) (h : Code w a len) : Calls Tryd.prog 61 #[.slice a len cap, .int .i64 i] w fun e w' => (∃ n : Int, e = .returned (.int .i64 n) ∧ 0 ≤ n ∧ n ≤ 255) ∧ w' = w := by
  have hl := h.1
  obtain ⟨i0, i1⟩ := hi
  by_cases h0 : len = 0
  · have e0 : ((len : Int) == 0) = true := by simp [h0]
    clear h h0
    go_enter Tryd.func61, Tryd.ntmps61
    go_wp2
    go_ret
    exact ⟨⟨0, rfl, by omega, by omega⟩, rfl⟩
  · have e0 : ((len : Int) == 0) = false := by simp; omega
    rcases h.2 with h1 | ⟨cb, co, rfl, hc⟩
    · omega
    have hpos : (0 : Int) < (len : Int) := by omega
    obtain ⟨m, hm⟩ : ∃ m : Nat, Int.tmod i len = m := ⟨(Int.tmod i len).toNat, by have := Int.tmod_nonneg (len : Int) i0; omega⟩
    have hm2 : m < len := by have := Int.tmod_lt_of_pos i hpos; omega
    obtain ⟨z, hz, z0, z1⟩ := hc m hm2
    clear h hc h0
    go_enter Tryd.func61, Tryd.ntmps61
    go_wp2
    go_ret
    exact ⟨⟨z, rfl, z0, z1⟩, rfl⟩
/-- The box of what is made wider, the answer's, that of the new bounds, their rows. -/
def GrT (w0 : World) (T : Nat) (x y z : Value) (oa : Option Addr) (ca : Nat) (ob : Option Addr) (cb : Nat) (xs ys : List (Int × Int)) (u : World) : Prop :=
  C3 u w0.heap.size x y z ∧ C3 u (w0.heap.size + 1) (.bool false) (.slice none 0 0) (.slice none 0 0) ∧ C3 u (w0.heap.size + 2) (.bool true) (.slice oa xs.length ca) (.slice ob ys.length cb) ∧ RowsT u (w0.heap.size + 3) T oa ca ob cb xs ys ∧ Below w0.heap.size w0 u ∧ w0.heap.size + 3 ≤ T
section
variable {w0 : World} {T : Nat} {x y z : Value} {oa ob : Option Addr} {ca cb : Nat} {xs ys : List (Int × Int)} {u v : World}
theorem GrT.call (h : GrT w0 T x y z oa ca ob cb xs ys u) (k : Below u.heap.size u v) : GrT w0 T x y z oa ca ob cb xs ys v :=
  ⟨h.1.call k, h.2.1.call k, h.2.2.1.call k, h.2.2.2.1.call k, h.2.2.2.2.1.trans (k.mono h.2.2.2.2.1.size), h.2.2.2.2.2⟩
theorem GrT.alloc (h : GrT w0 T x y z oa ca ob cb xs ys u) (o : Obj) : GrT w0 T x y z oa ca ob cb xs ys (u.alloc o) := h.call ((Below.refl _ u).alloc (Nat.le_refl _) o)
theorem GrT.set {c o : Nat} (h : GrT w0 T x y z oa ca ob cb xs ys u) (hc : T ≤ c) (p : Value) : GrT w0 T x y z oa ca ob cb xs ys (u.setCell ⟨c, o, none⟩ p) := by
  have hT := h.2.2.2.2.2
  exact ⟨h.1.other (by omega), h.2.1.other (by omega), h.2.2.1.other (by omega), h.2.2.2.1.set (.inr hc) _, h.2.2.2.2.1.setCell (by show w0.heap.size ≤ c; omega) _, hT⟩
theorem GrT.up (h : GrT w0 T x y z oa ca ob cb xs ys u) : GrT w0 u.heap.size x y z oa ca ob cb xs ys u :=
  ⟨h.1, h.2.1, h.2.2.1, RowsT.of h.2.2.2.1.1, h.2.2.2.2.1, Nat.le_trans h.2.2.2.2.2 h.2.2.2.1.2.2.2⟩
theorem GrT.app1 (h : GrT w0 T x y z oa ca ob cb xs ys u) {oa' : Option Addr} {ca' : Nat} {l g : Int}
    (hown : v.ownsRow (w0.heap.size + 3) 47 2 (.slice oa' (xs.length + 1) ca') (xs.length + 1) (cellsV xs ++ [.int .i64 l, .int .i64 g])) (hg : u.grownBy v (Value.slice oa xs.length ca).ownBlock) (hloc : (Value.slice oa' (xs.length + 1) ca').ownBlock = (Value.slice oa xs.length ca).ownBlock ∨ (Value.slice oa' (xs.length + 1) ca').ownBlock = some u.heap.size) :
    GrT w0 v.heap.size x y z oa' ca' ob cb (xs ++ [(l, g)]) ys (v.setCell ⟨w0.heap.size + 2, 1, none⟩ (.slice oa' (xs.length + 1) ca')) ∧ C3 v (w0.heap.size + 2) (.bool true) (.slice oa xs.length ca) (.slice ob ys.length cb) := by
  obtain ⟨h1, h2, h3, h4, h5, h6⟩ := h
  have hr := (RowsT.app h4 hown hg hloc).1
  have hB : w0.heap.size + 3 ≤ u.heap.size := Nat.le_trans h6 h4.2.2.2
  have hj : ∀ j, (Value.slice oa xs.length ca).ownBlock = some j → w0.heap.size + 3 ≤ j := fun j e => (h4.1.1.lt j e).1
  have el : (xs ++ [(l, g)]).length = xs.length + 1 := by simp
  have k3 := h3.grown hg (fun e => by have := hj _ e.symm; omega)
  have hs := hg.size
  refine ⟨⟨(h1.grown hg (fun e => by have := hj _ e.symm; omega)).other (by omega), (h2.grown hg (fun e => by have := hj _ e.symm; omega)).other (by omega), by rw [el]; exact k3.set1 _, (RowsT.of hr).set (.inl (by omega)) _, (h5.grown hg (by omega) (fun j e => by have := hj j e; omega)).setCell (by show w0.heap.size ≤ w0.heap.size + 2; omega) _, by omega⟩, k3⟩
theorem GrT.app2 (h : GrT w0 T x y z oa ca ob cb xs ys u) {ob' : Option Addr} {cb' : Nat} {l g : Int}
    (hown : v.ownsRow (w0.heap.size + 3) 47 2 (.slice ob' (ys.length + 1) cb') (ys.length + 1) (cellsV ys ++ [.int .i64 l, .int .i64 g])) (hg : u.grownBy v (Value.slice ob ys.length cb).ownBlock) (hloc : (Value.slice ob' (ys.length + 1) cb').ownBlock = (Value.slice ob ys.length cb).ownBlock ∨ (Value.slice ob' (ys.length + 1) cb').ownBlock = some u.heap.size) :
    GrT w0 v.heap.size x y z oa ca ob' cb' xs (ys ++ [(l, g)]) (v.setCell ⟨w0.heap.size + 2, 2, none⟩ (.slice ob' (ys.length + 1) cb')) ∧ C3 v (w0.heap.size + 2) (.bool true) (.slice oa xs.length ca) (.slice ob ys.length cb) := by
  obtain ⟨h1, h2, h3, h4, h5, h6⟩ := h
  have h4s : RowsT u (w0.heap.size + 3) T ob cb oa ca ys xs := ⟨h4.1.swap, h4.2.2.1, h4.2.1, h4.2.2.2⟩
  have hr := (RowsT.app h4s hown hg hloc).1.swap
  have hB : w0.heap.size + 3 ≤ u.heap.size := Nat.le_trans h6 h4.2.2.2
  have hj : ∀ j, (Value.slice ob ys.length cb).ownBlock = some j → w0.heap.size + 3 ≤ j := fun j e => (h4.1.2.1.lt j e).1
  have el : (ys ++ [(l, g)]).length = ys.length + 1 := by simp
  have k3 := h3.grown hg (fun e => by have := hj _ e.symm; omega)
  have hs := hg.size
  refine ⟨⟨(h1.grown hg (fun e => by have := hj _ e.symm; omega)).other (by omega), (h2.grown hg (fun e => by have := hj _ e.symm; omega)).other (by omega), by rw [el]; exact k3.set2 _, (RowsT.of hr).set (.inl (by omega)) _, (h5.grown hg (by omega) (fun j e => by have := hj j e; omega)).setCell (by show w0.heap.size ≤ w0.heap.size + 2; omega) _, by omega⟩, k3⟩
theorem CI.set {c o b : Nat} {l g : Int} (h : CI u b l g) (hc : c ≠ b) (p : Value) : CI (u.setCell ⟨c, o, none⟩ p) b l g :=
  ⟨(World.cell?_setCell_other _ _ _ _ (fun e => hc (congrArg Addr.block e))).trans h.1, (World.cell?_setCell_other _ _ _ _ (fun e => hc (congrArg Addr.block e))).trans h.2.1, fun o => by rw [World.frozen?_setCell]; exact h.2.2.1 o, by simpa [World.setCell] using h.2.2.2⟩
theorem CI.st0 {b : Nat} {l g : Int} (h : CI u b l g) (p : Int) : CI (u.setCell ⟨b, 0, none⟩ (.int .i64 p)) b p g :=
  ⟨by simp [go_sem, h.1], by simp [go_sem, h.2.1], fun o => by simp [World.frozen?_setCell, h.2.2.1 o], by simpa [World.setCell] using h.2.2.2⟩
theorem CI.st1 {b : Nat} {l g : Int} (h : CI u b l g) (p : Int) : CI (u.setCell ⟨b, 1, none⟩ (.int .i64 p)) b l p :=
  ⟨by simp [go_sem, h.1], by simp [go_sem, h.2.1], fun o => by simp [World.frozen?_setCell, h.2.2.1 o], by simpa [World.setCell] using h.2.2.2⟩
end
theorem hg_low {w0 : World} {T : Nat} {x y z : Value} {oa ob : Option Addr} {ca cb : Nat} {xs ys : List (Int × Int)} {u : World} (h : GrT w0 T x y z oa ca ob cb xs ys u) : w0.heap.size + 2 < u.heap.size := h.2.2.1.lt
theorem ivs_snoc {X : List (Int × Int)} {l g : Int} (h : ivsP X) (hlg : l ≤ g) : ivsP (X ++ [(l, g)]) := by
  intro k hk
  by_cases hx : k < X.length
  · rw [List.getElem_append_left hx]; exact h k hx
  · have e : k = X.length := by simp at hk; omega
    subst e
    simpa using hlg
theorem ivs_app {X Y : List (Int × Int)} (h : ivsP X) (k : ivsP Y) : ivsP (X ++ Y) := by
  intro i hi
  by_cases hx : i < X.length
  · rw [List.getElem_append_left hx]; exact h i hx
  · rw [List.getElem_append_right (by omega)]
    exact k _ (by simp at hi; omega)
theorem ivsL {X Y : List (Int × Int)} (h : ivsP (X ++ Y)) : ivsP X := fun k hk => by have := h k (by simp; omega); rw [List.getElem_append_left hk] at this; exact this
theorem ivsR {X Y : List (Int × Int)} (h : ivsP (X ++ Y)) : ivsP Y := fun k hk => by have := h (X.length + k) (by simp; omega); rw [List.getElem_append_right (by omega)] at this; simpa using this
end Go.Proofs.YthpnbmdmkmkicaaDoor
