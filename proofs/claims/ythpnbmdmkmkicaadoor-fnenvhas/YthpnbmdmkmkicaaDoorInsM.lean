/- A store of the call's own that is written into. -/
import Derived.Test.YthpnbmdmkmkicaaDoorSnZ
import Derived.Test.YthpnbmdmkmkicaaDoorHsZ
import Derived.Test.YthpnbmdmkmkicaaDoorWthC
import Derived.Test.YthpnbmdmkmkicaaDoorOrdM
namespace Go.Proofs.YthpnbmdmkmkicaaDoor
open Go.RowKit Go.Iv
set_option linter.unusedSimpArgs false
set_option linter.unusedVariables false

theorem OwnI.write {w : World} {b k : Nat} {xs : List Int} (h : OwnI w b xs) (hk : k < xs.length) (v : Int) : (∃ x, w.cell? ⟨b, k, none⟩ = some (.int .i64 x)) ∧ w.frozen? ⟨b, k, none⟩ = false ∧ OwnI (w.setCell ⟨b, k, none⟩ (.int .i64 v)) b (xs.set k v) := by
  rcases h.1.2 with h0 | ⟨cb, co, e, hc⟩
  · omega
  · cases e
    have ck : w.cell? ⟨b, k, none⟩ = some (.int .i64 xs[k]) := by have := hc k hk; rw [Nat.zero_add] at this; exact this
    refine ⟨⟨_, ck⟩, h.2.1 k, ⟨by rw [List.length_set]; exact h.1.1, .inr ⟨b, 0, rfl, fun i hi => ?_⟩⟩, fun o => (World.frozen?_setCell _ _ _ _).trans (h.2.1 o), by simpa [World.setCell] using h.2.2⟩
    rw [List.length_set] at hi
    by_cases e : i = k
    · subst e
      rw [Nat.zero_add, List.getElem_set_self]
      exact World.cell?_setCell_same _ _ _ ck
    · rw [List.getElem_set_ne (by omega)]
      rw [World.cell?_setCell_other _ _ _ _ (fun hh => by have hh' : k = 0 + i := congrArg Addr.off hh; omega)]
      exact hc i hi
theorem OwnB.write {w : World} {b k : Nat} {xs : List Bool} (h : OwnB w b xs) (hk : k < xs.length) (v : Bool) : (∃ x, w.cell? ⟨b, k, none⟩ = some (.bool x)) ∧ w.frozen? ⟨b, k, none⟩ = false ∧ OwnB (w.setCell ⟨b, k, none⟩ (.bool v)) b (xs.set k v) := by
  rcases h.1.2 with h0 | ⟨cb, co, e, hc⟩
  · omega
  · cases e
    have ck : w.cell? ⟨b, k, none⟩ = some (.bool xs[k]) := by have := hc k hk; rw [Nat.zero_add] at this; exact this
    refine ⟨⟨_, ck⟩, h.2.1 k, ⟨by rw [List.length_set]; exact h.1.1, .inr ⟨b, 0, rfl, fun i hi => ?_⟩⟩, fun o => (World.frozen?_setCell _ _ _ _).trans (h.2.1 o), by simpa [World.setCell] using h.2.2⟩
    rw [List.length_set] at hi
    by_cases e : i = k
    · subst e
      rw [Nat.zero_add, List.getElem_set_self]
      exact World.cell?_setCell_same _ _ _ ck
    · rw [List.getElem_set_ne (by omega)]
      rw [World.cell?_setCell_other _ _ _ _ (fun hh => by have hh' : k = 0 + i := congrArg Addr.off hh; omega)]
      exact hc i hi
theorem hdrs_set {gs : List Nat} {js : List (List Int)} {i : Nat} {l : List Int} (hi : i < js.length) (hl : l.length = (js[i]).length) : hdrs gs (js.set i l) = hdrs gs js := by
  unfold hdrs
  refine List.ext_getElem (by simp) fun k h1 h2 => ?_
  simp only [List.getElem_zipWith]
  by_cases e : k = i
  · subst e
    rw [List.getElem_set_self, hl]
  · rw [List.getElem_set_ne (by omega)]
/-- One number of one row is written. -/
theorem RowJ.write {w : World} {B T cc i k : Nat} {oc : Option Addr} {gs : List Nat} {js : List (List Int)} (h : RowJ w B T oc cc gs js) (hi : i < js.length) (hk : k < (js[i]).length) (v : Int) :
    ∃ g b c, gs[i]? = some g ∧ B ≤ g ∧ g < T ∧ g < w.heap.size ∧ oc = some ⟨b, 0, none⟩ ∧ b < w.heap.size ∧ B ≤ b ∧ b ≠ g ∧ w.cell? ⟨b, i, none⟩ = some (.slice (some ⟨g, 0, none⟩) (js[i]).length c) ∧ (∃ x, w.cell? ⟨g, k, none⟩ = some (.int .i64 x)) ∧ w.frozen? ⟨g, k, none⟩ = false ∧ RowJ (w.setCell ⟨g, k, none⟩ (.int .i64 v)) B T oc cc gs (js.set i ((js[i]).set k v)) := by
  have hgi : i < gs.length := by rw [h.1]; exact hi
  obtain ⟨q1, q2, q3, q4⟩ := h.2.2.2.1 i hgi hi
  obtain ⟨c1, c2, c3⟩ := q4.write hk v
  have hl : ((js[i]).set k v).length = (js[i]).length := by simp
  have hpw : ∀ j, (hj : j < gs.length) → j ≠ i → gs[j] ≠ gs[i] := fun j hj hne e => by
    have hp := h.2.2.2.2.1
    rcases Nat.lt_or_gt_of_ne hne with q | q
    · have := List.pairwise_iff_getElem.1 hp j i hj hgi q; omega
    · have := List.pairwise_iff_getElem.1 hp i j hgi hj q; omega
  rcases h.2.1.2 with ⟨hn, h0⟩ | ⟨b, cap, cur, hv, hBb, hbk, r⟩
  · omega
  · have eo : oc = some ⟨b, 0, none⟩ := by cases hv; rfl
    subst eo
    have hbg : b ≠ gs[i] := fun e => q3 (by simp [Value.ownBlock, e])
    have hbs := h.2.1.lt b (by simp [Value.ownBlock])
    refine ⟨gs[i], b, (js[i]).length, List.getElem?_eq_getElem hgi, q1, q2, q4.2.2, rfl, hbs.2, hbs.1, hbg, ?_, c1, c2, ?_⟩
    · have := World.ownsRow.cellAt (w := w) (base := B) (e := 33) (size := 1) (g := b) (n := js.length) (cap := cc) (xs := hdrs gs js) h.2.1 i (by omega)
      rw [this]
      unfold hdrs
      rw [List.getElem?_eq_getElem (by simp; omega)]
      simp [List.getElem_zipWith]
    · refine ⟨by rw [List.length_set]; exact h.1, ?_, ?_, fun j h1 h2 => ?_, h.2.2.2.2.1, by simpa [World.setCell] using h.2.2.2.2.2⟩
      · rw [List.length_set, hdrs_set hi hl]
        exact own_far_set h.2.1 (fun e => by simp [Value.ownBlock] at e; exact hbg e)
      · rw [List.length_set]; exact h.2.2.1
      · rw [List.length_set] at h2
        obtain ⟨p1, p2, p3, p4⟩ := h.2.2.2.1 j h1 h2
        refine ⟨p1, p2, by rw [List.length_set]; exact p3, ?_⟩
        by_cases e : j = i
        · subst e
          rw [List.getElem_set_self]
          exact c3
        · rw [List.getElem_set_ne (by omega)]
          exact p4.set (fun q => hpw j h1 e q.symm)
/-- The rows of a store of the call's own, each may be empty. -/
def StW (u : World) (B B1 T : Nat) (oa ob oc : Option Addr) (cc : Nat) (gs : List Nat) (is : List Int) (bs : List Bool) (js : List (List Int)) : Prop :=
  (is.length = 0 ∨ ∃ g, oa = some ⟨g, 0, none⟩ ∧ (B ≤ g ∧ g < B1) ∧ OwnI u g is ∧ ∀ g2, ob = some ⟨g2, 0, none⟩ → bs.length = 0 ∨ g ≠ g2) ∧
  (bs.length = 0 ∨ ∃ g, ob = some ⟨g, 0, none⟩ ∧ (B ≤ g ∧ g < B1) ∧ OwnB u g bs) ∧ (js.length = 0 ∨ RowJ u B1 T oc cc gs js) ∧ B ≤ B1 ∧ B1 ≤ T ∧ T ≤ u.heap.size
section
variable {u v : World} {B B1 T cc : Nat} {oa ob oc : Option Addr} {gs : List Nat} {is : List Int} {bs : List Bool} {js : List (List Int)}
theorem StW.ofR (h : StoR u B u.heap.size oa ob oc cc is bs js) (hB : B ≤ u.heap.size) : ∃ B1 gs, StW u B B1 u.heap.size oa ob oc cc gs is bs js := by
  rcases h with ⟨rfl, rfl, rfl⟩ | ⟨g1, g2, B1, gs, rfl, rfl, hne, h1, h2, h3, h4, h5, h6⟩
  · exact ⟨B, [], .inl rfl, .inl rfl, .inl rfl, Nat.le_refl _, hB, Nat.le_refl _⟩
  · exact ⟨B1, gs, .inr ⟨g1, rfl, h1, h4, fun q e => .inr (by cases e; exact hne)⟩, .inr ⟨g2, rfl, h2, h5⟩, .inr h6, by omega, h3, Nat.le_refl _⟩
theorem StW.call (h : StW u B B1 T oa ob oc cc gs is bs js) (k : Below u.heap.size u v) : StW v B B1 T oa ob oc cc gs is bs js :=
  ⟨h.1.imp id fun ⟨g, e, h1, h2, h3⟩ => ⟨g, e, h1, h2.call k, h3⟩, h.2.1.imp id fun ⟨g, e, h1, h2⟩ => ⟨g, e, h1, h2.call k⟩, h.2.2.1.imp id fun h => h.call k, h.2.2.2.1, h.2.2.2.2.1, Nat.le_trans h.2.2.2.2.2 k.size⟩
theorem RowJ.far {w : World} {B T cc c o : Nat} {oc : Option Addr} {gs : List Nat} {js : List (List Int)} {x : Value} (h : RowJ w B T oc cc gs js) (hc : T ≤ c) : RowJ (w.setCell ⟨c, o, none⟩ x) B T oc cc gs js :=
  ⟨h.1, own_far_set h.2.1 (fun e => by have := h.2.2.1 _ e; omega), h.2.2.1, fun i h1 h2 => ⟨(h.2.2.2.1 i h1 h2).1, (h.2.2.2.1 i h1 h2).2.1, (h.2.2.2.1 i h1 h2).2.2.1, (h.2.2.2.1 i h1 h2).2.2.2.set (by have := (h.2.2.2.1 i h1 h2).2.1; omega)⟩, h.2.2.2.2.1, by simpa [World.setCell] using h.2.2.2.2.2⟩
/-- A store elsewhere. -/
theorem StW.far {c o : Nat} {x : Value} (h : StW u B B1 T oa ob oc cc gs is bs js) (hc : c < B ∨ T ≤ c) : StW (u.setCell ⟨c, o, none⟩ x) B B1 T oa ob oc cc gs is bs js := by
  obtain ⟨h1, h2, h3, h4, h5, h6⟩ := h
  have key : ∀ g, (B ≤ g ∧ g < B1) → c ≠ g := by clear h1 h2 h3 h6; intro g p; omega
  refine ⟨?_, ?_, h3.imp id fun h => ?_, h4, h5, by simpa [World.setCell] using h6⟩
  · rcases h1 with q | ⟨g, e, p1, p2, p3⟩
    · exact .inl q
    · exact .inr ⟨g, e, p1, p2.set (key _ p1), p3⟩
  · rcases h2 with q | ⟨g, e, p1, p2⟩
    · exact .inl q
    · exact .inr ⟨g, e, p1, p2.set (key _ p1)⟩
  rcases hc with hc | hc
  · exact h.set (by omega)
  · exact h.far hc
theorem StW.w1 {k : Nat} (h : StW u B B1 T oa ob oc cc gs is bs js) (hk : k < is.length) (x : Int) : ∃ g, oa = some ⟨g, 0, none⟩ ∧ (B ≤ g ∧ g < T) ∧ (∃ y, u.cell? ⟨g, k, none⟩ = some (.int .i64 y)) ∧ u.frozen? ⟨g, k, none⟩ = false ∧ StW (u.setCell ⟨g, k, none⟩ (.int .i64 x)) B B1 T oa ob oc cc gs (is.set k x) bs js := by
  obtain ⟨h1, h2, h3, h4, h5, h6⟩ := h
  rcases h1 with h0 | ⟨g, rfl, p1, p2, p3⟩
  · omega
  · obtain ⟨c1, c2, c3⟩ := p2.write hk x
    refine ⟨g, rfl, by omega, c1, c2, .inr ⟨g, rfl, p1, c3, p3⟩, ?_, h3.imp id fun h => h.set p1.2, h4, h5, by simpa [World.setCell] using h6⟩
    rcases h2 with q | ⟨g2, rfl, r1, r2⟩
    · exact .inl q
    · rcases p3 g2 rfl with q | q
      · exact .inl q
      · exact .inr ⟨g2, rfl, r1, r2.set q⟩
theorem StW.w2 {k : Nat} (h : StW u B B1 T oa ob oc cc gs is bs js) (hk : k < bs.length) (x : Bool) : ∃ g, ob = some ⟨g, 0, none⟩ ∧ (B ≤ g ∧ g < T) ∧ (∃ y, u.cell? ⟨g, k, none⟩ = some (.bool y)) ∧ u.frozen? ⟨g, k, none⟩ = false ∧ StW (u.setCell ⟨g, k, none⟩ (.bool x)) B B1 T oa ob oc cc gs is (bs.set k x) js := by
  obtain ⟨h1, h2, h3, h4, h5, h6⟩ := h
  rcases h2 with h0 | ⟨g, rfl, p1, p2⟩
  · omega
  · obtain ⟨c1, c2, c3⟩ := p2.write hk x
    refine ⟨g, rfl, by omega, c1, c2, ?_, .inr ⟨g, rfl, p1, c3⟩, h3.imp id fun h => h.set p1.2, h4, h5, by simpa [World.setCell] using h6⟩
    rcases h1 with q | ⟨g1, rfl, r1, r2, r3⟩
    · exact .inl q
    · have hne : g1 ≠ g := by
        rcases r3 g rfl with q | q
        · omega
        · exact q
      exact .inr ⟨g1, rfl, r1, r2.set (fun e => hne e.symm), fun g2 e => by rw [List.length_set]; exact r3 g2 e⟩
theorem StW.w3 {i k : Nat} (h : StW u B B1 T oa ob oc cc gs is bs js) (hi : i < js.length) (hk : k < (js[i]).length) (x : Int) : ∃ g b c, (B ≤ g ∧ g < T) ∧ oc = some ⟨b, 0, none⟩ ∧ (B ≤ b ∧ b < T) ∧ b ≠ g ∧ u.cell? ⟨b, i, none⟩ = some (.slice (some ⟨g, 0, none⟩) (js[i]).length c) ∧ (∃ y, u.cell? ⟨g, k, none⟩ = some (.int .i64 y)) ∧ u.frozen? ⟨g, k, none⟩ = false ∧ StW (u.setCell ⟨g, k, none⟩ (.int .i64 x)) B B1 T oa ob oc cc gs is bs (js.set i ((js[i]).set k x)) := by
  obtain ⟨h1, h2, h3, h4, h5, h6⟩ := h
  rcases h3 with h0 | h3
  · omega
  · obtain ⟨g, b, c, e1, q1, q2, q3, q4, q5, q6, q7, q8, q9, q10, q11⟩ := h3.write hi hk x
    have q12 := h3.2.2.1 b (by rw [q4]; simp [Value.ownBlock])
    refine ⟨g, b, c, by omega, q4, by omega, q7, q8, q9, q10, ?_, ?_, .inr q11, h4, h5, by simpa [World.setCell] using h6⟩
    · rcases h1 with q | ⟨g', e, p1, p2, p3⟩
      · exact .inl q
      · exact .inr ⟨g', e, p1, p2.set (by omega), p3⟩
    · rcases h2 with q | ⟨g', e, p1, p2⟩
      · exact .inl q
      · exact .inr ⟨g', e, p1, p2.set (by omega)⟩
theorem StW.ints (h : StW u B B1 T oa ob oc cc gs is bs js) : Ints u oa is := by
  rcases h.1 with h0 | ⟨g, rfl, _, p, _⟩
  · exact ⟨by omega, .inl h0⟩
  · exact p.1
theorem StW.mats (h : StW u B B1 T oa ob oc cc gs is bs js) (hl : js.length ≤ 1048576) : Mats u oc js := by
  refine ⟨hl, ?_⟩
  rcases h.2.2.1 with h0 | h3
  · exact .inl h0
  · by_cases hz : js.length = 0
    · exact .inl hz
    · rcases h3.2.1.2 with ⟨hn, h0⟩ | ⟨b, cap, cur, hv, hBb, hbk, r⟩
      · omega
      · have eo : oc = some ⟨b, 0, none⟩ := by cases hv; rfl
        subst eo
        refine .inr ⟨b, 0, rfl, fun i hi => ?_⟩
        have hgi : i < gs.length := by rw [h3.1]; exact hi
        have := World.ownsRow.cellAt (w := u) (base := B1) (e := 33) (size := 1) (g := b) (n := js.length) (cap := cc) (xs := hdrs gs js) h3.2.1 i (by omega)
        refine ⟨some ⟨gs[i], 0, none⟩, (js[i]).length, ?_, (h3.2.2.2.1 i hgi hi).2.2.2.1⟩
        rw [Nat.zero_add, this]
        unfold hdrs
        rw [List.getElem?_eq_getElem (by simp; omega)]
        simp [List.getElem_zipWith]
/-- Where the place of a row lies. -/
theorem StW.hdr {i : Nat} (h : StW u B B1 T oa ob oc cc gs is bs js) (hi : i < js.length) : ∃ b o c, oc = some ⟨b, 0, none⟩ ∧ u.cell? ⟨b, i, none⟩ = some (.slice o (js[i]).length c) := by
  rcases h.2.2.1 with h0 | h3
  · omega
  · rcases h3.2.1.2 with ⟨hn, h0⟩ | ⟨b, cap, cur, hv, hBb, hbk, r⟩
    · omega
    · have eo : oc = some ⟨b, 0, none⟩ := by cases hv; rfl
      subst eo
      have hgi : i < gs.length := by rw [h3.1]; exact hi
      have := World.ownsRow.cellAt (w := u) (base := B1) (e := 33) (size := 1) (g := b) (n := js.length) (cap := cc) (xs := hdrs gs js) h3.2.1 i (by omega)
      refine ⟨b, some ⟨gs[i], 0, none⟩, (js[i]).length, rfl, ?_⟩
      rw [this]
      unfold hdrs
      rw [List.getElem?_eq_getElem (by simp; omega)]
      simp [List.getElem_zipWith]
end
end Go.Proofs.YthpnbmdmkmkicaaDoor
