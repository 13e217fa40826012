/- One interval of a row of the call's own is written. -/
import Derived.Test.YthpnbmdmkmkicaaDoorCopC
namespace Go.Proofs.YthpnbmdmkmkicaaDoor
open Go.RowKit
set_option linter.unusedSimpArgs false
set_option linter.unusedVariables false

theorem cellsV_set (xs : List (Int × Int)) : ∀ (v : Nat) (p : Int × Int), v < xs.length → ((cellsV xs).set (v * 2) (.int .i64 p.1)).set (v * 2 + 1) (.int .i64 p.2) = cellsV (xs.set v p) := by
  induction xs with
  | nil => intro v p h; cases h
  | cons q l ih =>
    intro v p h
    have e : cellsV (q :: l) = .int .i64 q.1 :: .int .i64 q.2 :: cellsV l := rfl
    cases v with
    | zero => rw [e]; rfl
    | succ v =>
      have k := ih v p (by simpa using h)
      have e2 : cellsV (q :: l.set v p) = .int .i64 q.1 :: .int .i64 q.2 :: cellsV (l.set v p) := rfl
      rw [e, List.set_cons_succ, e2, ← k, show (v + 1) * 2 = v * 2 + 1 + 1 by omega]
      simp only [List.set_cons_succ]
theorem own_far_set {w : World} {B b o : Nat} {e : TypeId} {k : Nat} {v x : Value} {n : Nat} {xs : List Value} (h : w.ownsRow B e k v n xs) (hne : v.ownBlock ≠ some b) : (w.setCell ⟨b, o, none⟩ x).ownsRow B e k v n xs := by
  refine ⟨h.1, ?_⟩
  rcases h.2 with h0 | ⟨g, cap, cur, hv, hB, hg, r⟩
  · exact .inl h0
  · refine .inr ⟨g, cap, cur, hv, hB, (Below.heap_setCell _ _ _ _ ?_).trans hg, r⟩
    intro q
    subst hv
    exact hne (congrArg some q)
theorem RowsE.write {w : World} {B ca cb v : Nat} {oa ob : Option Addr} {xs ys : List (Int × Int)} (h : RowsE w B oa ca ob cb xs ys) (hv : v < xs.length) (p : Int × Int) :
    ∃ g, oa = some ⟨g, 0, none⟩ ∧ B ≤ g ∧ g < w.heap.size ∧ (∃ v0 v1, w.cell? ⟨g, v * 2, none⟩ = some v0 ∧ w.cell? ⟨g, v * 2 + 1, none⟩ = some v1) ∧ (∀ o, w.frozen? ⟨g, o, none⟩ = false) ∧
      RowsE ((w.setCell ⟨g, v * 2, none⟩ (.int .i64 p.1)).setCell ⟨g, v * 2 + 1, none⟩ (.int .i64 p.2)) B oa ca ob cb (xs.set v p) ys := by
  have h1 := h.1
  rcases h1.2 with ⟨_, h0⟩ | ⟨g, cap, cur, hq, hB, hg, hn, hm, hs, ht⟩
  · omega
  · cases hq
    have lt := (h1.lt g rfl).2
    have c := cellsV_at xs v hv
    have hadd : ∀ j, (⟨g, 0, none⟩ : Addr).add j = ⟨g, j, none⟩ := fun j => by unfold Addr.add; split <;> simp_all
    have k1 := h1.cells (g := g) rfl (v * 2) _ c.1
    have k2 := h1.cells (g := g) rfl (v * 2 + 1) _ c.2
    rw [hadd] at k1 k2
    have s1 := ((h1.stored (v * 2) (.int .i64 p.1)).1.stored (v * 2 + 1) (.int .i64 p.2)).1
    rw [cellsV_set xs v p hv] at s1
    have ne : (Value.slice ob ys.length cb).ownBlock ≠ some g := by
      cases ob with
      | none => intro q; cases q
      | some y => intro q; exact h.2.2 _ y rfl rfl (by have := Option.some.inj q; simp; omega)
    refine ⟨g, rfl, hB, lt, ⟨_, _, k1, k2⟩, fun o => h1.frozenAt o, ?_, own_far_set (own_far_set h.2.1 ne) ne, h.2.2⟩
    rw [List.length_set]
    exact s1
end Go.Proofs.YthpnbmdmkmkicaaDoor
