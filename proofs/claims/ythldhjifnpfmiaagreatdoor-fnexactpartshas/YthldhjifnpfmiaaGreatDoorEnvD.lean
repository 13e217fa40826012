/- Bounds: all their intervals in one row, as the specification gathers them. -/
import Derived.Test.YthldhjifnpfmiaaGreatDoorEnvC
import Derived.Test.YthldhjifnpfmiaaGreatDoorDeclD
import Derived.Test.YthldhjifnpfmiaaGreatDoorIvX
namespace Go.Proofs.YthldhjifnpfmiaaGreatDoor
open Go.RowKit
set_option linter.unusedSimpArgs false

def cellsV (l : List (Int × Int)) : List Value := l.flatMap fun p => [.int .i64 p.1, .int .i64 p.2]
theorem cellsV_len (l : List (Int × Int)) : (cellsV l).length = l.length * 2 := by
  induction l with
  | nil => rfl
  | cons p l ih => show (cellsV l).length + 2 = _; rw [ih, List.length_cons]; omega
theorem cellsV_one (l : List (Int × Int)) : ∀ u ∈ cellsV l, u.oneCell' = true := by
  intro u hu
  obtain ⟨x, _, hx⟩ := List.mem_flatMap.1 hu
  simp at hx
  rcases hx with rfl | rfl <;> rfl
theorem cellsV_app (l m : List (Int × Int)) : cellsV (l ++ m) = cellsV l ++ cellsV m := by simp [cellsV]
theorem cellsV_at (l : List (Int × Int)) : ∀ i, (h : i < l.length) → (cellsV l)[i * 2]? = some (.int .i64 l[i].1) ∧ (cellsV l)[i * 2 + 1]? = some (.int .i64 l[i].2) := by
  induction l with
  | nil => intro i h; cases h
  | cons p l ih =>
    intro i h
    have e : cellsV (p :: l) = .int .i64 p.1 :: .int .i64 p.2 :: cellsV l := rfl
    rw [e]
    cases i with
    | zero => exact ⟨rfl, rfl⟩
    | succ i =>
      have k := ih i (by simpa using h)
      rw [show (i + 1) * 2 = i * 2 + 1 + 1 by omega]
      exact k
theorem Ivs.news {w : World} {b : Nat} {xs : List (Int × Int)} (h : Ivs w (some ⟨b, 0, none⟩) xs) : ∀ j u, (cellsV xs)[j]? = some u → w.cell? ((⟨b, 0, none⟩ : Addr).add j) = some u := by
  intro j u hu
  have hadd : (⟨b, 0, none⟩ : Addr).add j = ⟨b, j, none⟩ := by unfold Addr.add; split <;> simp_all
  rw [hadd]
  have hj : j < (cellsV xs).length := (List.getElem?_eq_some_iff.1 hu).1
  rw [cellsV_len] at hj
  have hi : j / 2 < xs.length := by omega
  rcases h.2 with h0 | ⟨cb, co, e, hc⟩
  · omega
  · cases e
    have c := hc (j / 2) hi
    have d := cellsV_at xs (j / 2) hi
    rw [Nat.zero_add] at c
    by_cases q : j % 2 = 0
    · have ej : j / 2 * 2 = j := by omega
      rw [ej] at c d
      rw [c.1]
      rw [d.1] at hu
      exact hu
    · have ej : j / 2 * 2 + 1 = j := by omega
      rw [ej] at c d
      rw [c.2]
      rw [d.2] at hu
      exact hu
theorem Ivs.ofOwn {w : World} {base : Nat} {oa : Option Addr} {n cap : Nat} {xs : List (Int × Int)} (h : w.ownsRow base 110 2 (.slice oa n cap) n (cellsV xs)) (hl : n ≤ 1048576) : n = xs.length ∧ Ivs w oa xs := by
  have hn : n = xs.length := by have := h.1; rw [cellsV_len] at this; omega
  refine ⟨hn, by omega, ?_⟩
  rcases h.2 with ⟨_, h1⟩ | ⟨g, cap', cur, hv, _⟩
  · exact .inl (by omega)
  · cases hv
    refine .inr ⟨g, 0, rfl, fun i hi => ?_⟩
    have d := cellsV_at xs i hi
    have hadd : ∀ j, (⟨g, 0, none⟩ : Addr).add j = ⟨g, j, none⟩ := fun j => by unfold Addr.add; split <;> simp_all
    have k1 := h.cells (g := g) rfl (i * 2) _ d.1
    have k2 := h.cells (g := g) rfl (i * 2 + 1) _ d.2
    rw [hadd] at k1 k2
    rw [Nat.zero_add]
    exact ⟨k1, k2⟩
theorem rowV (w : World) (base : Nat) (h : base ≤ w.heap.size) : (w.alloc (Obj.cells #[] 110)).ownsRow base 110 2 (.slice (some ⟨w.heap.size, 0, none⟩) 0 0) 0 [] :=
  ⟨rfl, .inr ⟨w.heap.size, 0, #[], rfl, h, heap_alloc_new w _, Nat.le_refl _, by unfold maxLen; omega, rfl, rfl⟩⟩
/-- What stays while intervals are gathered. -/
@[reducible] def SE (w0 : World) (x y z : Value) (w : World) : Prop := w.cell? ⟨w0.heap.size, 1, none⟩ = some y ∧ w.cell? ⟨w0.heap.size, 2, none⟩ = some z ∧ C3 w w0.heap.size x y z ∧ Below w0.heap.size w0 w ∧ w0.heap.size + 1 ≤ w.heap.size
theorem SE.of {w0 w : World} {x y z : Value} (h : C3 w w0.heap.size x y z) (k : Below w0.heap.size w0 w) : SE w0 x y z w := ⟨h.2.1, h.2.2.1, h, k, h.lt⟩
theorem SE.drew {w0 w : World} {x y z : Value} (h : SE w0 x y z w) : SE w0 x y z w.drew := SE.of ⟨h.2.2.1.1, h.2.2.1.2.1, h.2.2.1.2.2.1, h.2.2.1.2.2.2⟩ h.2.2.2.1.drew
theorem SE.alloc {w0 w : World} {x y z : Value} (h : SE w0 x y z w) (o : Obj) : SE w0 x y z (w.alloc o) := SE.of (h.2.2.1.alloc o) (h.2.2.2.1.alloc h.2.2.2.1.size o)
theorem SE.grown {w0 w w1 : World} {x y z v : Value} {e : TypeId} {size n : Nat} {xs : List Value} (h : SE w0 x y z w) (ho : w.ownsRow (w0.heap.size + 1) e size v n xs) (hg : w.grownBy w1 v.ownBlock) : SE w0 x y z w1 :=
  SE.of (h.2.2.1.grown hg (fun e => by have := (ho.lt _ e.symm).1; omega)) (h.2.2.2.1.grown hg h.2.2.2.1.size (fun j hj => by have := (ho.lt j hj).1; omega))
set_option maxHeartbeats 2000000 in
theorem l6List_c (li : Bool) (e1 e2 c1 c2 : Nat) (xs ys : List (Int × Int)) (w : World) (hx : Ivs w (some ⟨e1, 0, none⟩) xs) (hy : Ivs w (some ⟨e2, 0, none⟩) ys) (hl : xs.length + ys.length ≤ 1000) :
    Calls Tryz.prog 90 #[.agg #[.bool li, .slice (some ⟨e1, 0, none⟩) xs.length c1, .slice (some ⟨e2, 0, none⟩) ys.length c2]] w fun e w' => ∃ oa cap, e = .returned (.slice oa (xs.length + ys.length) cap) ∧ Ivs w' oa (xs ++ ys) ∧ Below w.heap.size w w' := by
  have HX := hide hx
  have HY := hide hy
  have HT0 := hide (C3.new w (.bool li) (.slice (some ⟨e1, 0, none⟩) xs.length c1) (.slice (some ⟨e2, 0, none⟩) ys.length c2) 69)
  have HK := hide ((Below.refl _ w).alloc (Nat.le_refl _) (Obj.cells #[.bool li, .slice (some ⟨e1, 0, none⟩) xs.length c1, .slice (some ⟨e2, 0, none⟩) ys.length c2] 69))
  clear hx hy
  obtain ⟨inf, hi, hz0, hz1, hz2⟩ := info_parts ivInfo
  go_enter Tryz.func90, Tryz.ntmps90
  go_wp2
  generalize w.alloc (Obj.cells #[.bool li, .slice (some ⟨e1, 0, none⟩) xs.length c1, .slice (some ⟨e2, 0, none⟩) ys.length c2] 69) = u at HT0 HK ⊢
  have hs := SE.of (unhide HT0) (unhide HK)
  go_region_held3 (SE w (.bool li) (.slice (some ⟨e1, 0, none⟩) xs.length c1) (.slice (some ⟨e2, 0, none⟩) ys.length c2))
    (first | exact SE.drew (by assumption) | exact SE.alloc (by assumption) _ | exact hs2 | exact hs3)
    (first
      | (refine step_app _ (by rfl) _ _ _ (by rfl) (w.heap.size + 1) 110 inf (.agg #[.int .i64 0, .int .i64 0]) 2 16 Tryz.underlying67 hi hz0 hz1 hz2 rfl (by decide) _ _ _ (by rfl) (rowV _ _ (by exact hs.2.2.2.2)) ⟨e1, 0, none⟩ xs.length c1 (cellsV xs) (by rfl) (cellsV_len _) (((unhide HX).call (hs.drew.alloc _).2.2.2.1).news) (cellsV_one _) (by unfold maxLen; omega) (by omega) (by exact (hs.drew.alloc _).2.2.2.2) ?_; intro oa cap w1 hown hgrow; have hs2 := SE.grown (hs.drew.alloc _) (rowV _ _ (by exact hs.2.2.2.2)) hgrow)
      | (refine step_app _ (by rfl) _ _ _ (by rfl) (w.heap.size + 1) 110 inf (.agg #[.int .i64 0, .int .i64 0]) 2 16 Tryz.underlying67 hi hz0 hz1 hz2 rfl (by decide) _ _ _ (by rfl) hown ⟨e2, 0, none⟩ ys.length c2 (cellsV ys) (by rfl) (cellsV_len _) (((unhide HY).call hs2.2.2.2.1).news) (cellsV_one _) (by unfold maxLen; omega) (by omega) hs2.2.2.2.2 ?_; intro ob cap2 w2 hown2 hgrow2; have hs3 := SE.grown hs2 hown hgrow2))
  have HO := hide (show Ivs w2 ob (xs ++ ys) by
    rw [List.nil_append, ← cellsV_app] at hown2
    exact (Ivs.ofOwn hown2 (by omega)).2)
  have HB := hide hs3.2.2.2.1
  clear HT0 HK hs hs2 hs3 hown hown2 hgrow hgrow2
  rename_i hHeld
  clear hHeld
  simp only [Nat.zero_add]
  go_wp2
  go_ret
  exact ⟨_, _, rfl, unhide HO, unhide HB⟩
end Go.Proofs.YthldhjifnpfmiaaGreatDoor
