/- Copies of bounds: rows of the call's own. -/
import Derived.Test.YthpnbmdmkmkicaaDoorMaZ
import Derived.Test.YthpnbmdmkmkicaaDoorLeqD
namespace Go.Proofs.YthpnbmdmkmkicaaDoor
open Go.RowKit
set_option linter.unusedSimpArgs false
set_option linter.unusedVariables false

theorem own_call {w w' : World} {B : Nat} {e : TypeId} {k : Nat} {v : Value} {n : Nat} {xs : List Value} (h : w.ownsRow B e k v n xs) (hb : Below w.heap.size w w') : w'.ownsRow B e k v n xs := by
  refine ⟨h.1, ?_⟩
  rcases h.2 with h0 | ⟨g, cap, cur, hv, hB, hg, r⟩
  · exact .inl h0
  · refine .inr ⟨g, cap, cur, hv, hB, (hb.block g ?_).trans hg, r⟩
    have := (h.lt g (by rw [hv]; rfl)).2
    exact this
theorem own_set {w : World} {B b o : Nat} {e : TypeId} {k : Nat} {v x : Value} {n : Nat} {xs : List Value} (h : w.ownsRow B e k v n xs) (hb : b < B) : (w.setCell ⟨b, o, none⟩ x).ownsRow B e k v n xs := ownsRow_setCell_below h (a := ⟨b, o, none⟩) hb x
theorem own_down {w : World} {B B' : Nat} {e : TypeId} {k : Nat} {v : Value} {n : Nat} {xs : List Value} (h : w.ownsRow B e k v n xs) (hb : B' ≤ B) : w.ownsRow B' e k v n xs := by
  refine ⟨h.1, ?_⟩
  rcases h.2 with h0 | ⟨g, cap, cur, hv, hB, r⟩
  · exact .inl h0
  · exact .inr ⟨g, cap, cur, hv, Nat.le_trans hb hB, r⟩
/-- The rows of bounds that a call made. -/
def RowsE (w : World) (B : Nat) (oa : Option Addr) (ca : Nat) (ob : Option Addr) (cb : Nat) (xs ys : List (Int × Int)) : Prop :=
  w.ownsRow B 47 2 (.slice oa xs.length ca) xs.length (cellsV xs) ∧ w.ownsRow B 47 2 (.slice ob ys.length cb) ys.length (cellsV ys) ∧ Apart oa ob
theorem RowsE.call {w w' : World} {B ca cb : Nat} {oa ob : Option Addr} {xs ys : List (Int × Int)} (h : RowsE w B oa ca ob cb xs ys) (hb : Below w.heap.size w w') : RowsE w' B oa ca ob cb xs ys := ⟨own_call h.1 hb, own_call h.2.1 hb, h.2.2⟩
theorem RowsE.set {w : World} {B ca cb b o : Nat} {oa ob : Option Addr} {xs ys : List (Int × Int)} {x : Value} (h : RowsE w B oa ca ob cb xs ys) (hb : b < B) : RowsE (w.setCell ⟨b, o, none⟩ x) B oa ca ob cb xs ys := ⟨own_set h.1 hb, own_set h.2.1 hb, h.2.2⟩
theorem RowsE.down {w : World} {B B' ca cb : Nat} {oa ob : Option Addr} {xs ys : List (Int × Int)} (h : RowsE w B oa ca ob cb xs ys) (hb : B' ≤ B) : RowsE w B' oa ca ob cb xs ys := ⟨own_down h.1 hb, own_down h.2.1 hb, h.2.2⟩
theorem RowsE.ivs {w : World} {B ca cb : Nat} {oa ob : Option Addr} {xs ys : List (Int × Int)} (h : RowsE w B oa ca ob cb xs ys) (hl : xs.length ≤ 1048576 ∧ ys.length ≤ 1048576) : Ivs w oa xs ∧ Ivs w ob ys := ⟨(Ivs.ofOwn h.1 hl.1).2, (Ivs.ofOwn h.2.1 hl.2).2⟩
/-- What stays while a copy is made. -/
@[reducible] def SK (w0 : World) (b : Nat) (x y z : Value) (u : World) : Prop := u.cell? ⟨b, 0, none⟩ = some x ∧ u.cell? ⟨b, 1, none⟩ = some y ∧ u.cell? ⟨b, 2, none⟩ = some z ∧ Hid (C3 u b x y z ∧ Below w0.heap.size w0 u ∧ w0.heap.size + 1 ≤ u.heap.size)
theorem SK.of {w0 u : World} {b : Nat} {x y z : Value} (h : C3 u b x y z) (k : Below w0.heap.size w0 u) (s : w0.heap.size + 1 ≤ u.heap.size) : SK w0 b x y z u := ⟨h.1, h.2.1, h.2.2.1, h, k, s⟩
theorem SK.out {w0 u : World} {b : Nat} {x y z : Value} (h : SK w0 b x y z u) : C3 u b x y z ∧ Below w0.heap.size w0 u ∧ w0.heap.size + 1 ≤ u.heap.size := unhide h.2.2.2
theorem SK.drew {w0 u : World} {b : Nat} {x y z : Value} (h : SK w0 b x y z u) : SK w0 b x y z u.drew := SK.of (h.out.1.call (Below.refl _ _).drew) h.out.2.1.drew h.out.2.2
theorem SK.alloc {w0 u : World} {b : Nat} {x y z : Value} (h : SK w0 b x y z u) (o : Obj) : SK w0 b x y z (u.alloc o) := SK.of (h.out.1.alloc o) (h.out.2.1.alloc h.out.2.1.size o) (by simp; have := h.out.2.2; omega)
theorem SK.grown {w0 u v : World} {b : Nat} {x y z : Value} {row : Option Nat} (h : SK w0 b x y z u) (hg : u.grownBy v row) (hr : ∀ j, row = some j → w0.heap.size ≤ j ∧ j ≠ b) : SK w0 b x y z v :=
  SK.of (h.out.1.grown hg (fun e => (hr b e.symm).2 rfl)) (h.out.2.1.grown hg h.out.2.1.size (fun j hj => (hr j hj).1)) (Nat.le_trans h.out.2.2 hg.size)
theorem SK.set {w0 u : World} {b c o : Nat} {x y z v : Value} (h : SK w0 b x y z u) (hc : w0.heap.size ≤ c) (hne : c ≠ b) : SK w0 b x y z (u.setCell ⟨c, o, none⟩ v) :=
  SK.of (h.out.1.other hne) (h.out.2.1.setCell hc _) (by rw [size_setCell]; exact h.out.2.2)
set_option maxRecDepth 20000 in
set_option maxHeartbeats 4000000 in
theorem copied_c (b : Nat) (li : Bool) (e1 e2 : Option Addr) (d1 d2 : Nat) (xs ys : List (Int × Int)) (w : World) (ht : C3 w b (.bool li) (.slice e1 xs.length d1) (.slice e2 ys.length d2)) (hx : Ivs w e1 xs) (hy : Ivs w e2 ys) (hl : xs.length ≤ 1000 ∧ ys.length ≤ 1000) :
    Calls Tryd.prog 46 #[.pointer (some ⟨b, 0, none⟩)] w fun e w' => ∃ oa ca ob cb, e = .returned (.agg #[.bool li, .slice oa xs.length ca, .slice ob ys.length cb]) ∧ RowsE w' w.heap.size oa ca ob cb xs ys ∧ Below w.heap.size w w' := by
  have HX := hide hx
  have HY := hide hy
  have hbl := ht.lt
  have HR0 := hide (C3.new w (.bool false) (.slice none 0 0) (.slice none 0 0) 30)
  have hs := SK.of (w0 := w) (ht.alloc (Obj.cells #[.bool false, .slice none 0 0, .slice none 0 0] 30)) ((Below.refl _ _).alloc (Nat.le_refl _) _) (by simp)
  have HS := hide hs
  clear hx hy ht hs
  obtain ⟨inf, hi, hz0, hz1, hz2⟩ := info_parts ivInfo
  go_enter Tryd.func46, Tryd.ntmps46
  go_wp2_with fail
  generalize w.alloc (Obj.cells #[.bool false, .slice none 0 0, .slice none 0 0] 30) = u at HR0 HS ⊢
  have hs := unhide HS
  go_region_held3 (SK w b (.bool li) (.slice e1 xs.length d1) (.slice e2 ys.length d2))
    (first | exact SK.drew (by assumption) | exact hs2 | exact hs3 | exact SK.set (SK.set (SK.set hs3 (Nat.le_refl _) (by omega)) (Nat.le_refl _) (by omega)) (Nat.le_refl _) (by omega))
    (first
      | (refine step_appO _ (by rfl) _ _ _ (by rfl) (w.heap.size + 1) 47 inf (.agg #[.int .i64 0, .int .i64 0]) 2 16 Tryd.underlying28 hi hz0 hz1 hz2 rfl (by decide) (.slice none 0 0) 0 [] (by rfl) (World.ownsRow_nil _ _ _ _) e1 xs.length d1 (cellsV xs) (by rfl) (cellsV_len _) (((unhide HX).call hs.drew.out.2.1).news) (cellsV_one _) (by unfold maxLen; omega) (by omega) (by exact hs.drew.out.2.2) ?_; intro oa ca w1 hown hgrow; have hs2 := SK.grown hs.drew hgrow (fun j hj => by cases hj); have hr1 := ((unhide HR0).call (Below.refl _ _).drew).grown hgrow (fun e => by cases e))
      | (refine step_appO _ (by rfl) _ _ _ (by rfl) w1.heap.size 47 inf (.agg #[.int .i64 0, .int .i64 0]) 2 16 Tryd.underlying28 hi hz0 hz1 hz2 rfl (by decide) (.slice none 0 0) 0 [] (by rfl) (World.ownsRow_nil _ _ _ _) e2 ys.length d2 (cellsV ys) (by rfl) (cellsV_len _) (((unhide HY).call hs2.out.2.1).news) (cellsV_one _) (by unfold maxLen; omega) (by omega) (Nat.le_refl _) ?_; intro ob cb w2 hown2 hgrow2; have hs3 := SK.grown hs2 hgrow2 (fun j hj => by cases hj); have hr2 := hr1.grown hgrow2 (fun e => by cases e); have q0 := hr2.1; have q1 := hr2.2.1; have q2 := hr2.2.2.1; have f0 := hr2.2.2.2 0; have f1 := hr2.2.2.2 1; have f2 := hr2.2.2.2 2))
  rename_i hHeld
  have HW := hide (show RowsE w2 (w.heap.size + 1) oa ca ob cb xs ys by
    rw [Nat.zero_add, List.nil_append] at hown hown2
    have k1 : w2.ownsRow (w.heap.size + 1) 47 2 (.slice oa xs.length ca) xs.length (cellsV xs) := hown.kept hgrow2 (by cases hq : (Value.slice oa xs.length ca).ownBlock with | none => exact .inl rfl | some j => exact .inr (by simp [Value.ownBlock]))
    have z1 : w.heap.size + 1 ≤ w1.heap.size := hs2.out.2.2
    refine ⟨k1, own_down hown2 z1, ?_⟩
    intro x y hx hy
    subst hx hy
    have l1 := (hown.lt x.block rfl).2
    have l2 := (hown2.lt y.block rfl).1
    omega)
  have HB := hide hHeld.out.2.1
  clear hHeld hs hs2 hs3 hr1 hr2 hown hown2 hgrow hgrow2 HS HR0
  go_wp2
  exact bodyPost_ret (v := .agg #[.bool li, .slice oa xs.length ca, .slice ob ys.length cb]) (by simp [results, Tryd.results46, go_sem, q0, q1, q2]) rfl ⟨oa, ca, ob, cb, rfl, ((((unhide HW).set (by omega)).set (by omega)).set (by omega)).down (by omega), unhide HB⟩
end Go.Proofs.YthpnbmdmkmkicaaDoor
