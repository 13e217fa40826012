/- Texts that go together: InsM, RinB, RstC. -/
import Derived.Test.YtpdnnpnclgcpoaaDoorSnZ
import Derived.Test.YtpdnnpnclgcpoaaDoorHsZ
import Derived.Test.YtpdnnpnclgcpoaaDoorGrZ
import Derived.Test.YtpdnnpnclgcpoaaDoorSoZ
import Derived.Test.YtpdnnpnclgcpoaaDoorNaZ
import Derived.Test.YtpdnnpnclgcpoaaDoorReZ
/- A store of the call's own that is written into. -/
namespace Go.Proofs.YtpdnnpnclgcpoaaDoor
open Go.RowKit Go.Iv
set_option linter.unusedSimpArgs false
set_option linter.unusedVariables false

theorem OwnI.write {w : World} {b k : Nat} {xs : List Int} (h : OwnI w b xs) (hk : k < xs.length) (v : Int) : (∃ x, w.cell? ⟨b, k, none⟩ = some (.int .i64 x)) ∧ w.frozen? ⟨b, k, none⟩ = false ∧ OwnI (w.setCell ⟨b, k, none⟩ (.int .i64 v)) b (xs.set k v) := by
  rcases h.1.2 with h0 | ⟨cb, co, e, hc⟩
  · omega
  · cases e
    have ck : w.cell? ⟨b, k, none⟩ = some (.int .i64 xs[k]) := by have := hc k hk; rw [Nat.zero_add] at this; exact this
    refine ⟨⟨_, ck⟩, h.2.1 k, ⟨by rw [List.length_set]; exact h.1.1, .inr ⟨b, 0, rfl, fun i hi => ?_⟩⟩, fun o => (World.frozen?_setCell _ _ _ _).trans (h.2.1 o), by simpa [World.setCell] using h.2.2⟩
    rw [List.length_set] at hi
    by_cases e : i = k
    · subst e
      rw [Nat.zero_add, List.getElem_set_self]
      exact World.cell?_setCell_same _ _ _ ck
    · rw [List.getElem_set_ne (by omega)]
      rw [World.cell?_setCell_other _ _ _ _ (fun hh => by have hh' : k = 0 + i := congrArg Addr.off hh; omega)]
      exact hc i hi
theorem OwnB.write {w : World} {b k : Nat} {xs : List Bool} (h : OwnB w b xs) (hk : k < xs.length) (v : Bool) : (∃ x, w.cell? ⟨b, k, none⟩ = some (.bool x)) ∧ w.frozen? ⟨b, k, none⟩ = false ∧ OwnB (w.setCell ⟨b, k, none⟩ (.bool v)) b (xs.set k v) := by
  rcases h.1.2 with h0 | ⟨cb, co, e, hc⟩
  · omega
  · cases e
    have ck : w.cell? ⟨b, k, none⟩ = some (.bool xs[k]) := by have := hc k hk; rw [Nat.zero_add] at this; exact this
    refine ⟨⟨_, ck⟩, h.2.1 k, ⟨by rw [List.length_set]; exact h.1.1, .inr ⟨b, 0, rfl, fun i hi => ?_⟩⟩, fun o => (World.frozen?_setCell _ _ _ _).trans (h.2.1 o), by simpa [World.setCell] using h.2.2⟩
    rw [List.length_set] at hi
    by_cases e : i = k
    · subst e
      rw [Nat.zero_add, List.getElem_set_self]
      exact World.cell?_setCell_same _ _ _ ck
    · rw [List.getElem_set_ne (by omega)]
      rw [World.cell?_setCell_other _ _ _ _ (fun hh => by have hh' : k = 0 + i := congrArg Addr.off hh; omega)]
      exact hc i hi
theorem hdrs_set {gs : List Nat} {js : List (List Int)} {i : Nat} {l : List Int} (hi : i < js.length) (hl : l.length = (js[i]).length) : hdrs gs (js.set i l) = hdrs gs js := by
  unfold hdrs
  refine List.ext_getElem (by simp) fun k h1 h2 => ?_
  simp only [List.getElem_zipWith]
  by_cases e : k = i
  · subst e
    rw [List.getElem_set_self, hl]
  · rw [List.getElem_set_ne (by omega)]
/-- One number of one row is written. -/
theorem RowJ.write {w : World} {B T cc i k : Nat} {oc : Option Addr} {gs : List Nat} {js : List (List Int)} (h : RowJ w B T oc cc gs js) (hi : i < js.length) (hk : k < (js[i]).length) (v : Int) :
    ∃ g b c, gs[i]? = some g ∧ B ≤ g ∧ g < T ∧ g < w.heap.size ∧ oc = some ⟨b, 0, none⟩ ∧ b < w.heap.size ∧ B ≤ b ∧ b ≠ g ∧ w.cell? ⟨b, i, none⟩ = some (.slice (some ⟨g, 0, none⟩) (js[i]).length c) ∧ (∃ x, w.cell? ⟨g, k, none⟩ = some (.int .i64 x)) ∧ w.frozen? ⟨g, k, none⟩ = false ∧ RowJ (w.setCell ⟨g, k, none⟩ (.int .i64 v)) B T oc cc gs (js.set i ((js[i]).set k v)) := by
  have hgi : i < gs.length := by rw [h.1]; exact hi
  obtain ⟨q1, q2, q3, q4⟩ := h.2.2.2.1 i hgi hi
  obtain ⟨c1, c2, c3⟩ := q4.write hk v
  have hl : ((js[i]).set k v).length = (js[i]).length := by simp
  have hpw : ∀ j, (hj : j < gs.length) → j ≠ i → gs[j] ≠ gs[i] := fun j hj hne e => by
    have hp := h.2.2.2.2.1
    rcases Nat.lt_or_gt_of_ne hne with q | q
    · have := List.pairwise_iff_getElem.1 hp j i hj hgi q; omega
    · have := List.pairwise_iff_getElem.1 hp i j hgi hj q; omega
  rcases h.2.1.2 with ⟨hn, h0⟩ | ⟨b, cap, cur, hv, hBb, hbk, r⟩
  · omega
  · have eo : oc = some ⟨b, 0, none⟩ := by cases hv; rfl
    subst eo
    have hbg : b ≠ gs[i] := fun e => q3 (by simp [Value.ownBlock, e])
    have hbs := h.2.1.lt b (by simp [Value.ownBlock])
    refine ⟨gs[i], b, (js[i]).length, List.getElem?_eq_getElem hgi, q1, q2, q4.2.2, rfl, hbs.2, hbs.1, hbg, ?_, c1, c2, ?_⟩
    · have := World.ownsRow.cellAt (w := w) (base := B) (e := 31) (size := 1) (g := b) (n := js.length) (cap := cc) (xs := hdrs gs js) h.2.1 i (by omega)
      rw [this]
      unfold hdrs
      rw [List.getElem?_eq_getElem (by simp; omega)]
      simp [List.getElem_zipWith]
    · refine ⟨by rw [List.length_set]; exact h.1, ?_, ?_, fun j h1 h2 => ?_, h.2.2.2.2.1, by simpa [World.setCell] using h.2.2.2.2.2⟩
      · rw [List.length_set, hdrs_set hi hl]
        exact own_far_set h.2.1 (fun e => by simp [Value.ownBlock] at e; exact hbg e)
      · rw [List.length_set]; exact h.2.2.1
      · rw [List.length_set] at h2
        obtain ⟨p1, p2, p3, p4⟩ := h.2.2.2.1 j h1 h2
        refine ⟨p1, p2, by rw [List.length_set]; exact p3, ?_⟩
        by_cases e : j = i
        · subst e
          rw [List.getElem_set_self]
          exact c3
        · rw [List.getElem_set_ne (by omega)]
          exact p4.set (fun q => hpw j h1 e q.symm)
/-- The rows of a store of the call's own, each may be empty. -/
def StW (u : World) (B B1 T : Nat) (oa ob oc : Option Addr) (cc : Nat) (gs : List Nat) (is : List Int) (bs : List Bool) (js : List (List Int)) : Prop :=
  (is.length = 0 ∨ ∃ g, oa = some ⟨g, 0, none⟩ ∧ (B ≤ g ∧ g < B1) ∧ OwnI u g is ∧ ∀ g2, ob = some ⟨g2, 0, none⟩ → bs.length = 0 ∨ g ≠ g2) ∧
  (bs.length = 0 ∨ ∃ g, ob = some ⟨g, 0, none⟩ ∧ (B ≤ g ∧ g < B1) ∧ OwnB u g bs) ∧ ((js.length = 0 ∧ oc = none ∧ cc = 0) ∨ RowJ u B1 T oc cc gs js) ∧ B ≤ B1 ∧ B1 ≤ T ∧ T ≤ u.heap.size
section
variable {u v : World} {B B1 T cc : Nat} {oa ob oc : Option Addr} {gs : List Nat} {is : List Int} {bs : List Bool} {js : List (List Int)}
theorem StW.ofR (h : StoR u B u.heap.size oa ob oc cc is bs js) (hB : B ≤ u.heap.size) : ∃ B1 gs, StW u B B1 u.heap.size oa ob oc cc gs is bs js := by
  rcases h with ⟨rfl, rfl, rfl, rfl, rfl⟩ | ⟨g1, g2, B1, gs, rfl, rfl, hne, h1, h2, h3, h4, h5, h6⟩
  · exact ⟨B, [], .inl rfl, .inl rfl, .inl ⟨rfl, rfl, rfl⟩, Nat.le_refl _, hB, Nat.le_refl _⟩
  · exact ⟨B1, gs, .inr ⟨g1, rfl, h1, h4, fun q e => .inr (by cases e; exact hne)⟩, .inr ⟨g2, rfl, h2, h5⟩, .inr h6, by omega, h3, Nat.le_refl _⟩
theorem StW.call (h : StW u B B1 T oa ob oc cc gs is bs js) (k : Below u.heap.size u v) : StW v B B1 T oa ob oc cc gs is bs js :=
  ⟨h.1.imp id fun ⟨g, e, h1, h2, h3⟩ => ⟨g, e, h1, h2.call k, h3⟩, h.2.1.imp id fun ⟨g, e, h1, h2⟩ => ⟨g, e, h1, h2.call k⟩, h.2.2.1.imp id fun h => h.call k, h.2.2.2.1, h.2.2.2.2.1, Nat.le_trans h.2.2.2.2.2 k.size⟩
theorem RowJ.far {w : World} {B T cc c o : Nat} {oc : Option Addr} {gs : List Nat} {js : List (List Int)} {x : Value} (h : RowJ w B T oc cc gs js) (hc : T ≤ c) : RowJ (w.setCell ⟨c, o, none⟩ x) B T oc cc gs js :=
  ⟨h.1, own_far_set h.2.1 (fun e => by have := h.2.2.1 _ e; omega), h.2.2.1, fun i h1 h2 => ⟨(h.2.2.2.1 i h1 h2).1, (h.2.2.2.1 i h1 h2).2.1, (h.2.2.2.1 i h1 h2).2.2.1, (h.2.2.2.1 i h1 h2).2.2.2.set (by have := (h.2.2.2.1 i h1 h2).2.1; omega)⟩, h.2.2.2.2.1, by simpa [World.setCell] using h.2.2.2.2.2⟩
/-- A store elsewhere. -/
theorem StW.far {c o : Nat} {x : Value} (h : StW u B B1 T oa ob oc cc gs is bs js) (hc : c < B ∨ T ≤ c) : StW (u.setCell ⟨c, o, none⟩ x) B B1 T oa ob oc cc gs is bs js := by
  obtain ⟨h1, h2, h3, h4, h5, h6⟩ := h
  have key : ∀ g, (B ≤ g ∧ g < B1) → c ≠ g := by clear h1 h2 h3 h6; intro g p; omega
  refine ⟨?_, ?_, h3.imp id fun h => ?_, h4, h5, by simpa [World.setCell] using h6⟩
  · rcases h1 with q | ⟨g, e, p1, p2, p3⟩
    · exact .inl q
    · exact .inr ⟨g, e, p1, p2.set (key _ p1), p3⟩
  · rcases h2 with q | ⟨g, e, p1, p2⟩
    · exact .inl q
    · exact .inr ⟨g, e, p1, p2.set (key _ p1)⟩
  rcases hc with hc | hc
  · exact h.set (by omega)
  · exact h.far hc
theorem StW.w1 {k : Nat} (h : StW u B B1 T oa ob oc cc gs is bs js) (hk : k < is.length) (x : Int) : ∃ g, oa = some ⟨g, 0, none⟩ ∧ (B ≤ g ∧ g < T) ∧ (∃ y, u.cell? ⟨g, k, none⟩ = some (.int .i64 y)) ∧ u.frozen? ⟨g, k, none⟩ = false ∧ StW (u.setCell ⟨g, k, none⟩ (.int .i64 x)) B B1 T oa ob oc cc gs (is.set k x) bs js := by
  obtain ⟨h1, h2, h3, h4, h5, h6⟩ := h
  rcases h1 with h0 | ⟨g, rfl, p1, p2, p3⟩
  · omega
  · obtain ⟨c1, c2, c3⟩ := p2.write hk x
    refine ⟨g, rfl, by omega, c1, c2, .inr ⟨g, rfl, p1, c3, p3⟩, ?_, h3.imp id fun h => h.set p1.2, h4, h5, by simpa [World.setCell] using h6⟩
    rcases h2 with q | ⟨g2, rfl, r1, r2⟩
    · exact .inl q
    · rcases p3 g2 rfl with q | q
      · exact .inl q
      · exact .inr ⟨g2, rfl, r1, r2.set q⟩
theorem StW.w2 {k : Nat} (h : StW u B B1 T oa ob oc cc gs is bs js) (hk : k < bs.length) (x : Bool) : ∃ g, ob = some ⟨g, 0, none⟩ ∧ (B ≤ g ∧ g < T) ∧ (∃ y, u.cell? ⟨g, k, none⟩ = some (.bool y)) ∧ u.frozen? ⟨g, k, none⟩ = false ∧ StW (u.setCell ⟨g, k, none⟩ (.bool x)) B B1 T oa ob oc cc gs is (bs.set k x) js := by
  obtain ⟨h1, h2, h3, h4, h5, h6⟩ := h
  rcases h2 with h0 | ⟨g, rfl, p1, p2⟩
  · omega
  · obtain ⟨c1, c2, c3⟩ := p2.write hk x
    refine ⟨g, rfl, by omega, c1, c2, ?_, .inr ⟨g, rfl, p1, c3⟩, h3.imp id fun h => h.set p1.2, h4, h5, by simpa [World.setCell] using h6⟩
    rcases h1 with q | ⟨g1, rfl, r1, r2, r3⟩
    · exact .inl q
    · have hne : g1 ≠ g := by
        rcases r3 g rfl with q | q
        · omega
        · exact q
      exact .inr ⟨g1, rfl, r1, r2.set (fun e => hne e.symm), fun g2 e => by rw [List.length_set]; exact r3 g2 e⟩
theorem StW.w3 {i k : Nat} (h : StW u B B1 T oa ob oc cc gs is bs js) (hi : i < js.length) (hk : k < (js[i]).length) (x : Int) : ∃ g b c, (B ≤ g ∧ g < T) ∧ oc = some ⟨b, 0, none⟩ ∧ (B ≤ b ∧ b < T) ∧ b ≠ g ∧ u.cell? ⟨b, i, none⟩ = some (.slice (some ⟨g, 0, none⟩) (js[i]).length c) ∧ (∃ y, u.cell? ⟨g, k, none⟩ = some (.int .i64 y)) ∧ u.frozen? ⟨g, k, none⟩ = false ∧ StW (u.setCell ⟨g, k, none⟩ (.int .i64 x)) B B1 T oa ob oc cc gs is bs (js.set i ((js[i]).set k x)) := by
  obtain ⟨h1, h2, h3, h4, h5, h6⟩ := h
  rcases h3 with h0 | h3
  · omega
  · obtain ⟨g, b, c, e1, q1, q2, q3, q4, q5, q6, q7, q8, q9, q10, q11⟩ := h3.write hi hk x
    have q12 := h3.2.2.1 b (by rw [q4]; simp [Value.ownBlock])
    refine ⟨g, b, c, by omega, q4, by omega, q7, q8, q9, q10, ?_, ?_, .inr q11, h4, h5, by simpa [World.setCell] using h6⟩
    · rcases h1 with q | ⟨g', e, p1, p2, p3⟩
      · exact .inl q
      · exact .inr ⟨g', e, p1, p2.set (by omega), p3⟩
    · rcases h2 with q | ⟨g', e, p1, p2⟩
      · exact .inl q
      · exact .inr ⟨g', e, p1, p2.set (by omega)⟩
theorem StW.ints (h : StW u B B1 T oa ob oc cc gs is bs js) : Ints u oa is := by
  rcases h.1 with h0 | ⟨g, rfl, _, p, _⟩
  · exact ⟨by omega, .inl h0⟩
  · exact p.1
theorem StW.mats (h : StW u B B1 T oa ob oc cc gs is bs js) (hl : js.length ≤ 1048576) : Mats u oc js := by
  refine ⟨hl, ?_⟩
  rcases h.2.2.1 with h0 | h3
  · exact .inl h0.1
  · by_cases hz : js.length = 0
    · exact .inl hz
    · rcases h3.2.1.2 with ⟨hn, h0⟩ | ⟨b, cap, cur, hv, hBb, hbk, r⟩
      · omega
      · have eo : oc = some ⟨b, 0, none⟩ := by cases hv; rfl
        subst eo
        refine .inr ⟨b, 0, rfl, fun i hi => ?_⟩
        have hgi : i < gs.length := by rw [h3.1]; exact hi
        have := World.ownsRow.cellAt (w := u) (base := B1) (e := 31) (size := 1) (g := b) (n := js.length) (cap := cc) (xs := hdrs gs js) h3.2.1 i (by omega)
        refine ⟨some ⟨gs[i], 0, none⟩, (js[i]).length, ?_, (h3.2.2.2.1 i hgi hi).2.2.2.1⟩
        rw [Nat.zero_add, this]
        unfold hdrs
        rw [List.getElem?_eq_getElem (by simp; omega)]
        simp [List.getElem_zipWith]
/-- Where the place of a row lies. -/
theorem StW.hdr {i : Nat} (h : StW u B B1 T oa ob oc cc gs is bs js) (hi : i < js.length) : ∃ b o c, oc = some ⟨b, 0, none⟩ ∧ u.cell? ⟨b, i, none⟩ = some (.slice o (js[i]).length c) := by
  rcases h.2.2.1 with h0 | h3
  · omega
  · rcases h3.2.1.2 with ⟨hn, h0⟩ | ⟨b, cap, cur, hv, hBb, hbk, r⟩
    · omega
    · have eo : oc = some ⟨b, 0, none⟩ := by cases hv; rfl
      subst eo
      have hgi : i < gs.length := by rw [h3.1]; exact hi
      have := World.ownsRow.cellAt (w := u) (base := B1) (e := 31) (size := 1) (g := b) (n := js.length) (cap := cc) (xs := hdrs gs js) h3.2.1 i (by omega)
      refine ⟨b, some ⟨gs[i], 0, none⟩, (js[i]).length, rfl, ?_⟩
      rw [this]
      unfold hdrs
      rw [List.getElem?_eq_getElem (by simp; omega)]
      simp [List.getElem_zipWith]
end
end Go.Proofs.YtpdnnpnclgcpoaaDoor

/- Facts about a reader, and about a store that is filled beside it. -/
namespace Go.Proofs.YtpdnnpnclgcpoaaDoor
open Go.RowKit Go.Iv
set_option linter.unusedSimpArgs false
set_option linter.unusedVariables false

theorem Left.callR {u w v : World} {b len cap : Nat} {a : Option Addr} (h : Left b a len cap u w) (k : Below w.heap.size w v) : Left b a len cap u v := by
  obtain ⟨⟨⟨p, hp, hh⟩, hc, hn⟩, q⟩ := h
  exact ⟨⟨⟨p, hp, (k.block b (Array.getElem?_eq_some_iff.1 hh).1).trans hh⟩, hc.below k, hn⟩, ⟨k.os.trans q.os, k.tape.trans q.tape, k.output.trans q.output, Nat.le_trans q.size k.size, fun i hi hne => (k.block i (Nat.lt_of_lt_of_le hi q.size)).trans (q.block i hi hne)⟩⟩
theorem OwnI.at4 {u v : World} {g : Nat} {xs : List Int} (h : OwnI u g xs) (hb : v.heap[g]? = u.heap[g]?) (hs : u.heap.size ≤ v.heap.size) : OwnI v g xs := by
  refine ⟨⟨h.1.1, ?_⟩, fun o => (World.frozen?_of_block (w := u) hb).trans (h.2.1 o), Nat.lt_of_lt_of_le h.2.2 hs⟩
  rcases h.1.2 with h0 | ⟨cb, co, e, hc⟩
  · exact .inl h0
  · cases e
    exact .inr ⟨g, 0, rfl, fun i hi => (World.cell?_of_block (w := u) hb).trans (hc i hi)⟩
theorem OwnB.at4 {u v : World} {g : Nat} {xs : List Bool} (h : OwnB u g xs) (hb : v.heap[g]? = u.heap[g]?) (hs : u.heap.size ≤ v.heap.size) : OwnB v g xs := by
  refine ⟨⟨h.1.1, ?_⟩, fun o => (World.frozen?_of_block (w := u) hb).trans (h.2.1 o), Nat.lt_of_lt_of_le h.2.2 hs⟩
  rcases h.1.2 with h0 | ⟨cb, co, e, hc⟩
  · exact .inl h0
  · cases e
    exact .inr ⟨g, 0, rfl, fun i hi => (World.cell?_of_block (w := u) hb).trans (hc i hi)⟩
theorem StW.at4 {u v : World} {B B1 T cc : Nat} {oa ob oc : Option Addr} {gs : List Nat} {is : List Int} {bs : List Bool} {js : List (List Int)} (h : StW u B B1 T oa ob oc cc gs is bs js) (hb : ∀ g, B ≤ g → g < u.heap.size → v.heap[g]? = u.heap[g]?) (hs : u.heap.size ≤ v.heap.size) : StW v B B1 T oa ob oc cc gs is bs js := by
  obtain ⟨h1, h2, h3, h4, h5, h6⟩ := h
  refine ⟨?_, ?_, ?_, h4, h5, Nat.le_trans h6 hs⟩
  · rcases h1 with q | ⟨g, e, p1, p2, p3⟩
    · exact .inl q
    · exact .inr ⟨g, e, p1, p2.at4 (hb g p1.1 p2.2.2) hs, p3⟩
  · rcases h2 with q | ⟨g, e, p1, p2⟩
    · exact .inl q
    · exact .inr ⟨g, e, p1, p2.at4 (hb g p1.1 p2.2.2) hs⟩
  · rcases h3 with q | h3
    · exact .inl q
    · refine .inr ⟨h3.1, own_at h3.2.1 (fun g hg => hb g (Nat.le_trans h4 (h3.2.1.lt g hg).1) (h3.2.1.lt g hg).2), h3.2.2.1, fun i q1 q2 => ⟨(h3.2.2.2.1 i q1 q2).1, (h3.2.2.2.1 i q1 q2).2.1, (h3.2.2.2.1 i q1 q2).2.2.1, (h3.2.2.2.1 i q1 q2).2.2.2.at4 (hb _ (Nat.le_trans h4 (h3.2.2.2.1 i q1 q2).1) (h3.2.2.2.1 i q1 q2).2.2.2.2.2) hs⟩, h3.2.2.2.2.1, Nat.le_trans h3.2.2.2.2.2 hs⟩
theorem StW.kp {u v : World} {B B1 T cc b : Nat} {oa ob oc : Option Addr} {gs : List Nat} {is : List Int} {bs : List Bool} {js : List (List Int)} (h : StW u B B1 T oa ob oc cc gs is bs js) (k : Kp b u v) (hb : b < B) : StW v B B1 T oa ob oc cc gs is bs js := h.at4 (fun g h1 h2 => k.block g h2 (by omega)) k.size
/-- The boxes beside the reader. -/
def InQ (w0 : World) (b : Nat) (a : Option Addr) (len cap q : Nat) (x0 y0 z0 x1 y1 z1 x2 y2 z2 : Value) (u : World) : Prop :=
  C3 u w0.heap.size x0 y0 z0 ∧ C3 u (w0.heap.size + 1) x1 y1 z1 ∧ C3 u (w0.heap.size + 2) (.slice none 0 0) (.slice none 0 0) (.slice none 0 0) ∧ C3 u q x2 y2 z2 ∧ Left b a len cap w0 u
theorem InQ.kp {w0 u v : World} {b len cap q : Nat} {a : Option Addr} {x0 y0 z0 x1 y1 z1 x2 y2 z2 : Value} (h : InQ w0 b a len cap q x0 y0 z0 x1 y1 z1 x2 y2 z2 u) (k : Left b a len cap u v) (hb : b < w0.heap.size) (hq : q ≠ b) : InQ w0 b a len cap q x0 y0 z0 x1 y1 z1 x2 y2 z2 v :=
  ⟨h.1.kp k.2 (by omega), h.2.1.kp k.2 (by omega), h.2.2.1.kp k.2 (by omega), h.2.2.2.1.kp k.2 hq, h.2.2.2.2.trans k⟩
theorem InQ.far {w0 u : World} {b len cap q c o : Nat} {a : Option Addr} {x0 y0 z0 x1 y1 z1 x2 y2 z2 x : Value} (h : InQ w0 b a len cap q x0 y0 z0 x1 y1 z1 x2 y2 z2 u) (h1 : w0.heap.size + 2 < c) (h2 : c ≠ q) (hb : b < w0.heap.size) (hcode : ∀ x, a = some x → 0 < len → x.block < w0.heap.size) : InQ w0 b a len cap q x0 y0 z0 x1 y1 z1 x2 y2 z2 (u.setCell ⟨c, o, none⟩ x) :=
  ⟨h.1.other (by omega), h.2.1.other (by omega), h.2.2.1.other (by omega), h.2.2.2.1.other h2, h.2.2.2.2.set (by omega) hb hcode _⟩
theorem InQ.drew {w0 u : World} {b len cap q : Nat} {a : Option Addr} {x0 y0 z0 x1 y1 z1 x2 y2 z2 : Value} (h : InQ w0 b a len cap q x0 y0 z0 x1 y1 z1 x2 y2 z2 u) : InQ w0 b a len cap q x0 y0 z0 x1 y1 z1 x2 y2 z2 u.drew := ⟨h.1, h.2.1, h.2.2.1, h.2.2.2.1, h.2.2.2.2.drew⟩
/-- How long such a store's rows are. -/
def InN (n1 n2 n3 : Nat) (is : List Int) (bs : List Bool) (js : List (List Int)) : Prop := is.length = n1 ∧ bs.length = n2 ∧ js.length = n3 ∧ ∀ k, (h : k < js.length) → (js[k]).length ≤ 16
theorem InN.set3 {n1 n2 n3 : Nat} {is : List Int} {bs : List Bool} {js : List (List Int)} (h : InN n1 n2 n3 is bs js) (k t : Nat) (hk : k < js.length) (v : Int) : InN n1 n2 n3 is bs (js.set k ((js[k]).set t v)) := by
  refine ⟨h.1, h.2.1, by rw [List.length_set]; exact h.2.2.1, fun i h1 => ?_⟩
  have h1' := h1
  rw [List.length_set] at h1'
  by_cases e : i = k
  · subst e; rw [List.getElem_set_self, List.length_set]; exact h.2.2.2 i h1'
  · rw [List.getElem_set_ne (by omega)]; exact h.2.2.2 i h1'
theorem sn_lens (vs fs : List ByteArray) (rs : List (ByteArray × Int)) : ∃ n1 n2 n3, InN n1 n2 n3 (snI vs fs rs) (snB vs fs rs) (snJ vs fs rs) ∧ n1 ≤ 5 ∧ n2 ≤ 3 ∧ n3 ≤ 2 ∧ n1 ≤ vs.length ∧ n3 ≤ rs.length := by
  cases hd : declB vs fs rs
  · rw [(sn_no hd).1, (sn_no hd).2.1, (sn_no hd).2.2]
    exact ⟨0, 0, 0, ⟨rfl, rfl, rfl, fun k h => absurd h (Nat.not_lt_zero _)⟩, by omega, by omega, by omega, by omega, by omega⟩
  · rw [(sn_yes hd).1, (sn_yes hd).2.1, (sn_yes hd).2.2]
    have q : declP vs fs rs := of_decide_eq_true hd
    refine ⟨vs.length, fs.length, rs.length, ⟨zI_len _, by simp [zB], rowsZ_len rs, fun k h => ?_⟩, q.1, q.2.1, q.2.2.1, Nat.le_refl _, Nat.le_refl _⟩
    have hk : k < rs.length := by rw [rowsZ_len] at h; exact h
    obtain ⟨s, e1, e2, e3⟩ := decl_size hd k hk
    have e : (rowsZ rs)[k] = zI rs[k].2.toNat := by simp [rowsZ]
    rw [e, zI_len, e3]
    exact e2
theorem snB_len {n1 n2 n3 : Nat} {is : List Int} {bs : List Bool} {js : List (List Int)} (h : InN n1 n2 n3 is bs js) : is.length = n1 ∧ bs.length = n2 ∧ js.length = n3 := ⟨h.1, h.2.1, h.2.2.1⟩
end Go.Proofs.YtpdnnpnclgcpoaaDoor

/- A store, drawn. -/
namespace Go.Proofs.YtpdnnpnclgcpoaaDoor
open Go.RowKit Go.Iv
set_option linter.unusedSimpArgs false
set_option linter.unusedVariables false

/-- The boxes beside the reader. -/
def InT (w0 : World) (b : Nat) (a : Option Addr) (len cap q : Nat) (x0 y0 z0 x2 y2 z2 : Value) (u : World) : Prop :=
 C3 u w0.heap.size x0 y0 z0 ∧ C3 u (w0.heap.size + 1) (.slice none 0 0) (.slice none 0 0) (.slice none 0 0) ∧ C3 u q x2 y2 z2 ∧ Left b a len cap w0 u
theorem InT.kp {w0 u v : World} {b len cap q : Nat} {a : Option Addr} {x0 y0 z0 x2 y2 z2 : Value} (h : InT w0 b a len cap q x0 y0 z0 x2 y2 z2 u) (k : Left b a len cap u v) (hb : b < w0.heap.size) (hq : q ≠ b) : InT w0 b a len cap q x0 y0 z0 x2 y2 z2 v :=
 ⟨h.1.kp k.2 (by omega), h.2.1.kp k.2 (by omega), h.2.2.1.kp k.2 hq, h.2.2.2.trans k⟩
theorem InT.far {w0 u : World} {b len cap q c o : Nat} {a : Option Addr} {x0 y0 z0 x2 y2 z2 x : Value} (h : InT w0 b a len cap q x0 y0 z0 x2 y2 z2 u) (h1 : w0.heap.size + 1 < c) (h2 : c ≠ q) (hb : b < w0.heap.size) (hcode : ∀ x, a = some x → 0 < len → x.block < w0.heap.size) : InT w0 b a len cap q x0 y0 z0 x2 y2 z2 (u.setCell ⟨c, o, none⟩ x) :=
 ⟨h.1.other (by omega), h.2.1.other (by omega), h.2.2.1.other h2, h.2.2.2.set (by omega) hb hcode _⟩
theorem InT.drew {w0 u : World} {b len cap q : Nat} {a : Option Addr} {x0 y0 z0 x2 y2 z2 : Value} (h : InT w0 b a len cap q x0 y0 z0 x2 y2 z2 u) : InT w0 b a len cap q x0 y0 z0 x2 y2 z2 u.drew := ⟨h.1, h.2.1, h.2.2.1, h.2.2.2.drew⟩
/-- How long such a store's rows are, and their numbers in range. -/
def RgS (is : List Int) (js : List (List Int)) : Prop := (∀ i, (h : i < is.length) → (-9223372036854775808 ≤ is[i] ∧ is[i] ≤ 9223372036854775807)) ∧ ∀ k, (h : k < js.length) → ∀ i, (h2 : i < (js[k]).length) → (-9223372036854775808 ≤ (js[k])[i] ∧ (js[k])[i] ≤ 9223372036854775807)
def InM (n1 n2 n3 : Nat) (is : List Int) (bs : List Bool) (js : List (List Int)) : Prop := is.length = n1 ∧ bs.length = n2 ∧ js.length = n3 ∧ (∀ k, (h : k < js.length) → (js[k]).length ≤ 16) ∧ RgS is js
theorem InM.set1 {n1 n2 n3 : Nat} {is : List Int} {bs : List Bool} {js : List (List Int)} (h : InM n1 n2 n3 is bs js) (j : Nat) (n : Int) (hn : In n) : InM n1 n2 n3 (is.set j n) bs js := by
 refine ⟨by rw [List.length_set]; exact h.1, h.2.1, h.2.2.1, h.2.2.2.1, fun i h1 => ?_, h.2.2.2.2.2⟩
 have h1' := h1
 rw [List.length_set] at h1'
 by_cases e : i = j
 ·subst e; rw [List.getElem_set_self]; exact hn
 ·rw [List.getElem_set_ne (by omega)]; exact h.2.2.2.2.1 i h1'
theorem InM.set2 {n1 n2 n3 : Nat} {is : List Int} {bs : List Bool} {js : List (List Int)} (h : InM n1 n2 n3 is bs js) (j : Nat) (x : Bool) : InM n1 n2 n3 is (bs.set j x) js := ⟨h.1, by rw [List.length_set]; exact h.2.1, h.2.2⟩
theorem InM.set3 {n1 n2 n3 : Nat} {is : List Int} {bs : List Bool} {js : List (List Int)} (h : InM n1 n2 n3 is bs js) (k t : Nat) (hk : k < js.length) (v : Int) (hv : In v) : InM n1 n2 n3 is bs (js.set k ((js[k]).set t v)) := by
 have q := InN.set3 (is := is) (bs := bs) ⟨h.1, h.2.1, h.2.2.1, h.2.2.2.1⟩ k t hk v
 refine ⟨q.1, q.2.1, q.2.2.1, q.2.2.2, h.2.2.2.2.1, fun i h1 l h2 => ?_⟩
 have h1' := h1
 rw [List.length_set] at h1'
 by_cases e : i = k
 ·subst e
  rw [List.getElem_set_self, List.length_set] at h2
  by_cases f : l = t
  ·subst f; simp only [List.getElem_set_self]; exact hv
  ·simp only [List.getElem_set_self, List.getElem_set_ne (Ne.symm f)]; exact h.2.2.2.2.2 i h1' l h2
 ·have e' : k ≠ i := fun q => e q.symm
  rw [List.getElem_set_ne e'] at h2
  simp only [List.getElem_set_ne e']
  exact h.2.2.2.2.2 i h1' l h2
theorem sm_lens (vs fs : List ByteArray) (rs : List (ByteArray × Int)) : ∃ n1 n2 n3, InM n1 n2 n3 (snI vs fs rs) (snB vs fs rs) (snJ vs fs rs) ∧ n1 ≤ 5 ∧ n2 ≤ 3 ∧ n3 ≤ 2 ∧ n1 ≤ vs.length ∧ n3 ≤ rs.length := by
 obtain ⟨n1, n2, n3, h, q⟩ := sn_lens vs fs rs
 refine ⟨n1, n2, n3, ⟨h.1, h.2.1, h.2.2.1, h.2.2.2, ?_⟩, q⟩
 cases hd : declB vs fs rs
 ·rw [(sn_no hd).1, (sn_no hd).2.2]
  exact ⟨fun i k => absurd k (Nat.not_lt_zero _), fun i k => absurd k (Nat.not_lt_zero _)⟩
 ·rw [(sn_yes hd).1, (sn_yes hd).2.2]
  refine ⟨fun i k => ?_, fun i k l m => ?_⟩
  ·simp only [zI, List.getElem_replicate]; omega
  ·simp only [rowsZ, zI, List.getElem_map, List.getElem_replicate]; omega
set_option maxRecDepth 20000 in
set_option maxHeartbeats 32000000 in
theorem rstore_c (b : Nat) (a : Option Addr) (len cap : Nat) (a1 a2 a3 : Option Addr) (c1 c2 c3 : Nat) (vs fs : List ByteArray) (rs : List (ByteArray × Int)) (w : World) (h : Rdr w b a len cap) (hv : Strs w a1 vs) (hf : Strs w a2 fs) (hr : Arrs w a3 rs)
  (hz : ∀ x ∈ namesOf vs fs rs, x.size ≤ 1048576) :
  Calls Tryd.prog 104 #[.pointer (some ⟨b, 0, none⟩), .agg #[.slice a1 vs.length c1, .slice a2 fs.length c2, .slice a3 rs.length c3]] w fun e w' => ∃ (oa ob oc : Option Addr) (ca cb cc B1 T n1 n2 n3 : Nat) (gs : List Nat) (is : List Int) (bs : List Bool) (js : List (List Int)),
   e = .returned (.agg #[.slice oa is.length ca, .slice ob bs.length cb, .slice oc js.length cc]) ∧ StW w' w.heap.size B1 T oa ob oc cc gs is bs js ∧ InM n1 n2 n3 is bs js ∧ (n1 ≤ 5 ∧ n2 ≤ 3 ∧ n3 ≤ 2 ∧ ca = n1) ∧ Left b a len cap w w' := by
 have hbw : b < w.heap.size := h.lt
 have HCO := hide h.2.1.lt
 have HS := hide (And.intro hv (And.intro hf (And.intro hr hz)))
 have hl0 := ((Left.refl h).alloc (Obj.cells #[.slice a1 vs.length c1, .slice a2 fs.length c2, .slice a3 rs.length c3] 27)).alloc (Obj.cells #[.slice none 0 0, .slice none 0 0, .slice none 0 0] 35)
 clear h hv hf hr hz
 have b0 := B2.new w (.slice a1 vs.length c1) (.slice a2 fs.length c2) (.slice a3 rs.length c3) (.slice none 0 0) (.slice none 0 0) (.slice none 0 0) 27 35
 have hs3 : w.heap.size + 2 ≤ ((w.alloc (Obj.cells #[.slice a1 vs.length c1, .slice a2 fs.length c2, .slice a3 rs.length c3] 27)).alloc (Obj.cells #[.slice none 0 0, .slice none 0 0, .slice none 0 0] 35)).heap.size := by simp
 go_enter Tryd.func104, Tryd.ntmps104
 go_upto_region 1 with fail
 generalize (w.alloc (Obj.cells #[.slice a1 vs.length c1, .slice a2 fs.length c2, .slice a3 rs.length c3] 27)).alloc (Obj.cells #[.slice none 0 0, .slice none 0 0, .slice none 0 0] 35) = u at b0 hs3 hl0 ⊢
 have HBX := hide b0
 have HL0 := hide hl0
 clear b0 hl0
 have q0 := (unhide HBX).1.1
 have q1 := (unhide HBX).1.2.1
 have q2 := (unhide HBX).1.2.2.1
 go_wp2_with fail
 refine (sStoreNewN_c a1 a2 a3 c1 c2 c3 vs fs rs _ ((unhide HS).1.call (unhide HBX).2.2) ((unhide HS).2.1.call (unhide HBX).2.2) ((unhide HS).2.2.1.call (unhide HBX).2.2) (unhide HS).2.2.2).mono ?_
 obtain ⟨n1, n2, n3, hin, hn5, hn3, hn2, hnv, hnr⟩ := sm_lens vs fs rs
 generalize snI vs fs rs = is0 at hin ⊢
 generalize snB vs fs rs = bs0 at hin ⊢
 generalize snJ vs fs rs = js0 at hin ⊢
 rintro e u1 ⟨oa, ca, ob, cb, oc, cc, rfl, hst, kb, hca⟩
 have HCA := hide (show ca = n1 from hca.trans hin.1)
 clear hca
 rw [hin.1, hin.2.1, hin.2.2.1]
 have HN0 := hide hin
 clear hin
 obtain ⟨B1, gs, hst⟩ := StW.ofR hst kb.size
 have hst2 : StW u1 (w.heap.size + 2) B1 u1.heap.size oa ob oc cc gs is0 bs0 js0 := by
  obtain ⟨g1, g2, g3, g4, g5, g6⟩ := hst
  refine ⟨?_, ?_, g3, by omega, g5, g6⟩
  ·rcases g1 with q | ⟨g, e, p1, p2, p3⟩
   ·exact .inl q
   ·exact .inr ⟨g, e, ⟨by omega, p1.2⟩, p2, p3⟩
  ·rcases g2 with q | ⟨g, e, p1, p2⟩
   ·exact .inl q
   ·exact .inr ⟨g, e, ⟨by omega, p1.2⟩, p2⟩
 have bq := C3.new u1 (.slice oa n1 ca) (.slice ob n2 cb) (.slice oc n3 cc) 35
 have ka := (Below.refl _ u1).alloc (Nat.le_refl _) (Obj.cells #[.slice oa n1 ca, .slice ob n2 cb, .slice oc n3 cc] 35)
 have hb2 := ((unhide HBX).call kb).call ka
 have hst3 := hst2.call ka
 have hq3 : w.heap.size + 1 < u1.heap.size := ((unhide HBX).call kb).2.1.lt
 have hlf := ((unhide HL0).callR kb).callR ka
 clear hst hst2 kb ka q0 q1 q2 hs3 HS HL0
 go_upto_region 2 with fail
 generalize u1.alloc (Obj.cells #[.slice oa n1 ca, .slice ob n2 cb, .slice oc n3 cc] 35) = u2 at bq hb2 hst3 hlf ⊢
 obtain ⟨q, hq⟩ : ∃ q, q = u1.heap.size := ⟨_, rfl⟩
 rw [← hq] at bq hst3 hq3 ⊢
 clear hq HBX
 have HP := hide (show InT w b a len cap q (.slice a1 vs.length c1) (.slice a2 fs.length c2) (.slice a3 rs.length c3) (.slice oa n1 ca) (.slice ob n2 cb) (.slice oc n3 cc) u2 from ⟨hb2.1, hb2.2.1, bq, hlf⟩)
 clear bq hb2 hlf
 have HST := hide hst3
 clear hst3
 have hn1I : (n1 : Int) ≤ 5 := by omega
 have hn2I : (n2 : Int) ≤ 3 := by omega
 have hn3I : (n3 : Int) ≤ 2 := by omega
 have s0 := (unhide HP).2.2.1.1
 go_wp2
 clear s0
 go_loopw [6] (fun i wr => ∃ (j : Nat) (is : List Int), i = .int .i64 j ∧ j ≤ n1 ∧ InM n1 n2 n3 is bs0 js0 ∧ StW wr (w.heap.size + 2) B1 q oa ob oc cc gs is bs0 js0 ∧ InT w b a len cap q (.slice a1 vs.length c1) (.slice a2 fs.length c2) (.slice a3 rs.length c3) (.slice oa n1 ca) (.slice ob n2 cb) (.slice oc n3 cc) wr) (fun i _ => n1 - (intOf i).toNat)
 case atStart => exact ⟨0, _, rfl, Nat.zero_le _, unhide HN0, unhide HST, unhide HP⟩
 case round =>
  clear HP HST HN0
  obtain ⟨j, is, rfl, hj, hN, hst, hp⟩ := hrel
  have HN := hide hN
  have HST := hide hst
  have HP := hide hp
  clear hN hst hp
  have s0 := (unhide HP).2.2.1.1
  by_cases hlt : j < n1
  ·have hltI : (j : Int) < (n1 : Int) := by omega
   have hji : j < is.length := by have := (unhide HN).1; omega
   obtain ⟨g1, rfl, hg1, _⟩ := (unhide HST).w1 hji 0
   go_upto_region 5 with fail
   have HP := hide ((unhide HP).drew)
   have HST := hide ((unhide HST).call (Below.refl _ _).drew)
   obtain ⟨wz, hwz⟩ : ∃ x, x = wr.drew := ⟨_, rfl⟩
   rw [← hwz] at HP HST
   refine wp_region_held_drew (S := (fun u9 => u9.cell? ⟨q, 0, none⟩ = some (.slice (some ⟨g1, 0, none⟩) n1 ca) ∧ Hid True)) (by kernel_rfl) (by exact ⟨s0, hide trivial⟩) (fun hHeld => ?_)
   rw [← hwz] at hHeld ⊢
   clear hwz
   refine tk 0 (v := ?_) rfl ?_ ?_
   rotate_left
   ·(intro w9 hSw; (try dsimp only at hSw); go_simp; try with_reducible rfl)
   try simp only [Act.put, sa, sb, sc]
   refine tk 1 (v := ?_) rfl ?_ ?_
   rotate_left
   ·(intro w9 hSw; (try dsimp only at hSw); go_simp; try with_reducible rfl)
   try simp only [Act.put, sa, sb, sc]
   refine tk 2 (v := ?_) rfl ?_ ?_
   rotate_left
   ·(intro w9 hSw; (try dsimp only at hSw); go_simp; try with_reducible rfl)
   try simp only [Act.put, sa, sb, sc]
   refine tk 3 (v := ?_) rfl ?_ ?_
   rotate_left
   ·(intro w9 hSw; (try dsimp only at hSw); go_simp; try with_reducible rfl)
   try simp only [Act.put, sa, sb, sc]
   refine wpAnyH_ready (rs := [4]) (by kernel_rfl) (by simp) ?_
   refine AllReadyH.cons (i := 4) rfl (fun K hK => ?_) AllReadyH.nil
   go_simp
   refine (num_c b a len cap _ (unhide HP).2.2.2.1).mono ?_
   rintro e v1 ⟨n, rfl, hnI, hl⟩
   have HNI := hide hnI
   clear hnI
   have HP := hide ((unhide HP).kp hl hbw (by omega))
   have HST := hide ((unhide HST).kp hl.2 (by omega))
   have hq := (show (fun u9 => u9.cell? ⟨q, 0, none⟩ = some (.slice (some ⟨g1, 0, none⟩) n1 ca) ∧ Hid True) v1 from ⟨(World.cell?_of_block (w := wz) (hl.2.block _ (World.block_lt_of_cell? wz _ hHeld.1) (by first | (show q ≠ b; omega) | (show w.heap.size + 1 ≠ b; omega) | (show b3 ≠ b; omega)))).trans hHeld.1, hide trivial⟩)
   clear hl hHeld
   refine hK.out _ _ hq (fun hHeld => ?_)
   clear hK K hq
   try simp only [Act.put, sa, sb, sc]
   refine tk 5 (v := ?_) rfl ?_ ?_
   rotate_left
   ·(intro w9 hSw; (try dsimp only at hSw); go_simp; try with_reducible rfl)
   try simp only [Act.put, sa, sb, sc]
   refine wpAnyH_ready (rs := [6]) (by kernel_rfl) (by simp) ?_
   refine AllReadyH.cons (i := 6) rfl (fun K hK => ?_) AllReadyH.nil
   obtain ⟨g9, eg, hg9, ⟨y, hy9⟩, hf9, hst9⟩ := (unhide HST).w1 hji n
   cases eg
   have HST := hide hst9
   have HP := hide ((unhide HP).far (c := g1) (o := j) (x := .int .i64 n) (by omega) (by omega) hbw (unhide HCO))
   clear hst9
   go_simp
   refine hK.out _ _ ⟨(unhide HP).2.2.1.1, hide trivial⟩ (fun hHeld => ?_)
   clear hK K hHeld
   try simp only [Act.put, sa, sb, sc]
   refine wpAnyH_done (by kernel_rfl) ?_ _
   have HN := hide ((unhide HN).set1 j n (unhide HNI))
   clear s0 hy9 hf9
   go_wp2
   go_roundw
   case rel => exact ⟨j + 1, is.set j n, by go_num, by omega, unhide HN, unhide HST, unhide HP⟩
   case measure => simp [intOf]; omega
  ·have hltI : ¬ (j : Int) < (n1 : Int) := by omega
   go_upto_region 6 with fail
   clear s0 hltI hlt hj
   go_upto_region 6 with fail
   generalize wr = wo at HST HP ⊢
   have s1 := (unhide HP).2.2.1.2.1
   go_wp2
   clear s1
   go_loopw [7] (fun i wr => ∃ (j : Nat) (bs : List Bool), i = .int .i64 j ∧ j ≤ n2 ∧ InM n1 n2 n3 is bs js0 ∧ StW wr (w.heap.size + 2) B1 q oa ob oc cc gs is bs js0 ∧ InT w b a len cap q (.slice a1 vs.length c1) (.slice a2 fs.length c2) (.slice a3 rs.length c3) (.slice oa n1 ca) (.slice ob n2 cb) (.slice oc n3 cc) wr) (fun i _ => n2 - (intOf i).toNat)
   case atStart => exact ⟨0, _, rfl, Nat.zero_le _, unhide HN, unhide HST, unhide HP⟩
   case round =>
    clear HP HST HN
    obtain ⟨j, bs, rfl, hj, hN, hst, hp⟩ := hrel
    have HN := hide hN
    have HST := hide hst
    have HP := hide hp
    clear hN hst hp
    have s1 := (unhide HP).2.2.1.2.1
    by_cases hlt : j < n2
    ·have hltI : (j : Int) < (n2 : Int) := by omega
     have hjb : j < bs.length := by have := (unhide HN).2.1; omega
     obtain ⟨g2, rfl, hg2, _⟩ := (unhide HST).w2 hjb true
     go_upto_region 9 with fail
     have HP := hide ((unhide HP).drew)
     have HST := hide ((unhide HST).call (Below.refl _ _).drew)
     obtain ⟨wz, hwz⟩ : ∃ x, x = wr.drew := ⟨_, rfl⟩
     rw [← hwz] at HP HST
     refine wp_region_held_drew (S := (fun u9 => u9.cell? ⟨q, 1, none⟩ = some (.slice (some ⟨g2, 0, none⟩) n2 cb) ∧ Hid True)) (by kernel_rfl) (by exact ⟨s1, hide trivial⟩) (fun hHeld => ?_)
     rw [← hwz] at hHeld ⊢
     clear hwz
     refine tk 0 (v := ?_) rfl ?_ ?_
     rotate_left
     ·(intro w9 hSw; (try dsimp only at hSw); go_simp; try with_reducible rfl)
     try simp only [Act.put, sa, sb, sc]
     refine tk 1 (v := ?_) rfl ?_ ?_
     rotate_left
     ·(intro w9 hSw; (try dsimp only at hSw); go_simp; try with_reducible rfl)
     try simp only [Act.put, sa, sb, sc]
     refine tk 2 (v := ?_) rfl ?_ ?_
     rotate_left
     ·(intro w9 hSw; (try dsimp only at hSw); go_simp; try with_reducible rfl)
     try simp only [Act.put, sa, sb, sc]
     refine tk 3 (v := ?_) rfl ?_ ?_
     rotate_left
     ·(intro w9 hSw; (try dsimp only at hSw); go_simp; try with_reducible rfl)
     try simp only [Act.put, sa, sb, sc]
     refine wpAnyH_ready (rs := [4]) (by kernel_rfl) (by simp) ?_
     refine AllReadyH.cons (i := 4) rfl (fun K hK => ?_) AllReadyH.nil
     go_simp
     refine (once_c b a len cap 2 (by decide) (by decide) _ (unhide HP).2.2.2.1).mono ?_
     rintro e v1 ⟨x, rfl, hl⟩
     have HP := hide ((unhide HP).kp hl hbw (by omega))
     have HST := hide ((unhide HST).kp hl.2 (by omega))
     have hq := (show (fun u9 => u9.cell? ⟨q, 1, none⟩ = some (.slice (some ⟨g2, 0, none⟩) n2 cb) ∧ Hid True) v1 from ⟨(World.cell?_of_block (w := wz) (hl.2.block _ (World.block_lt_of_cell? wz _ hHeld.1) (by first | (show q ≠ b; omega) | (show w.heap.size + 1 ≠ b; omega) | (show b3 ≠ b; omega)))).trans hHeld.1, hide trivial⟩)
     clear hl hHeld
     refine hK.out _ _ hq (fun hHeld => ?_)
     clear hK K hq
     try simp only [Act.put, sa, sb, sc]
     refine tk 5 (v := ?_) rfl ?_ ?_
     rotate_left
     ·(intro w9 hSw; (try dsimp only at hSw); go_simp; try with_reducible rfl)
     try simp only [Act.put, sa, sb, sc]
     refine wpAnyH_ready (rs := [6]) (by kernel_rfl) (by simp) ?_
     refine AllReadyH.cons (i := 6) rfl (fun K hK => ?_) AllReadyH.nil
     obtain ⟨g9, eg, hg9, ⟨y, hy9⟩, hf9, hst9⟩ := (unhide HST).w2 hjb x
     cases eg
     have HST := hide hst9
     have HP := hide ((unhide HP).far (c := g2) (o := j) (x := .bool x) (by omega) (by omega) hbw (unhide HCO))
     clear hst9
     go_simp
     refine hK.out _ _ ⟨(unhide HP).2.2.1.2.1, hide trivial⟩ (fun hHeld => ?_)
     clear hK K hHeld
     try simp only [Act.put, sa, sb, sc]
     refine wpAnyH_done (by kernel_rfl) ?_ _
     have HN := hide ((unhide HN).set2 j x)
     clear s1 hy9 hf9
     go_wp2
     go_roundw
     case rel => exact ⟨j + 1, bs.set j x, by go_num, by omega, unhide HN, unhide HST, unhide HP⟩
     case measure => simp [intOf]; omega
    ·have hltI : ¬ (j : Int) < (n2 : Int) := by omega
     go_upto_region 10 with fail
     clear s1 hltI hlt hj
     generalize wr = wo2 at HST HP ⊢
     have s2 := (unhide HP).2.2.1.2.2.1
     go_wp2
     clear s2
     go_loopw [8] (fun i wr => ∃ (j : Nat) (js : List (List Int)), i = .int .i64 j ∧ j ≤ n3 ∧ InM n1 n2 n3 is bs js ∧ StW wr (w.heap.size + 2) B1 q oa ob oc cc gs is bs js ∧ InT w b a len cap q (.slice a1 vs.length c1) (.slice a2 fs.length c2) (.slice a3 rs.length c3) (.slice oa n1 ca) (.slice ob n2 cb) (.slice oc n3 cc) wr) (fun i _ => n3 - (intOf i).toNat)
     case atStart => exact ⟨0, _, rfl, Nat.zero_le _, unhide HN, unhide HST, unhide HP⟩
     case round =>
      clear HP HST HN
      obtain ⟨j, js, rfl, hj, hN, hst, hp⟩ := hrel
      have HN := hide hN
      have HST := hide hst
      have HP := hide hp
      clear hN hst hp
      have s2 := (unhide HP).2.2.1.2.2.1
      by_cases hlt : j < n3
      ·have hltI : (j : Int) < (n3 : Int) := by omega
       go_upto_region 13 with fail
       clear s2
       generalize wr = wi at HST HP ⊢
       have HN2 := HN
       generalize js = js1 at HST HN2
       go_wp2
       go_loopw [9] (fun i wr => ∃ (t : Nat) (js : List (List Int)), i = .int .i64 t ∧ t ≤ 16 ∧ InM n1 n2 n3 is bs js ∧ StW wr (w.heap.size + 2) B1 q oa ob oc cc gs is bs js ∧ InT w b a len cap q (.slice a1 vs.length c1) (.slice a2 fs.length c2) (.slice a3 rs.length c3) (.slice oa n1 ca) (.slice ob n2 cb) (.slice oc n3 cc) wr) (fun i _ => 17 - (intOf i).toNat)
       case atStart => exact ⟨0, _, rfl, Nat.zero_le _, unhide HN2, unhide HST, unhide HP⟩
       case round =>
        clear HP HST HN2 HN
        obtain ⟨t, js, rfl, ht, hN, hst, hp⟩ := hrel
        have HN := hide hN
        have HST := hide hst
        have HP := hide hp
        clear hN hst hp
        have s2 := (unhide HP).2.2.1.2.2.1
        have hj2 : j < js.length := by have := (unhide HN).2.2.1; omega
        obtain ⟨b3, oo, c, rfl, hh⟩ := (unhide HST).hdr hj2
        obtain ⟨s, hs⟩ : ∃ s, s = (js[j]).length := ⟨_, rfl⟩
        have hs16 : s ≤ 16 := by rw [hs]; exact (unhide HN).2.2.2.1 j hj2
        rw [← hs] at hh
        have HSS := hide hs
        clear hs
        have hs16I : (s : Int) ≤ 16 := by omega
        have htI6 : (t : Int) ≤ 16 := by omega
        by_cases hts : t < s
        ·have htI : (t : Int) < (s : Int) := by omega
         have htl : t < (js[j]).length := by have := unhide HSS; omega
         obtain ⟨g3, b4, c3', hg3, eb, hb3, hbg, hh3, _, _, _⟩ := (unhide HST).w3 hj2 htl 0
         cases eb
         rw [← unhide HSS] at hh3
         have hoo : some (Value.slice oo s c) = some (Value.slice (some ⟨g3, 0, none⟩) s c3') := hh.symm.trans hh3
         cases hoo
         clear hh3
         go_upto_region 16 with fail
         have HP := hide ((unhide HP).drew)
         have HST := hide ((unhide HST).call (Below.refl _ _).drew)
         obtain ⟨wz, hwz⟩ : ∃ x, x = wr.drew := ⟨_, rfl⟩
         rw [← hwz] at HP HST
         refine wp_region_held_drew (S := (fun u9 => u9.cell? ⟨q, 2, none⟩ = some (.slice (some ⟨b3, 0, none⟩) n3 cc) ∧ u9.cell? ⟨b3, j, none⟩ = some (.slice (some ⟨g3, 0, none⟩) s c))) (by kernel_rfl) (by exact ⟨s2, hh⟩) (fun hHeld => ?_)
         rw [← hwz] at hHeld ⊢
         clear hwz
         refine tk 0 (v := ?_) rfl ?_ ?_
         rotate_left
         ·(intro w9 hSw; (try dsimp only at hSw); go_simp; try with_reducible rfl)
         try simp only [Act.put, sa, sb, sc]
         refine tk 1 (v := ?_) rfl ?_ ?_
         rotate_left
         ·(intro w9 hSw; (try dsimp only at hSw); go_simp; try with_reducible rfl)
         try simp only [Act.put, sa, sb, sc]
         refine tk 2 (v := ?_) rfl ?_ ?_
         rotate_left
         ·(intro w9 hSw; (try dsimp only at hSw); go_simp; try with_reducible rfl)
         try simp only [Act.put, sa, sb, sc]
         refine tk 3 (v := ?_) rfl ?_ ?_
         rotate_left
         ·(intro w9 hSw; (try dsimp only at hSw); go_simp; try with_reducible rfl)
         try simp only [Act.put, sa, sb, sc]
         refine tk 4 (v := ?_) rfl ?_ ?_
         rotate_left
         ·(intro w9 hSw; (try dsimp only at hSw); go_simp; try with_reducible rfl)
         try simp only [Act.put, sa, sb, sc]
         refine tk 5 (v := ?_) rfl ?_ ?_
         rotate_left
         ·(intro w9 hSw; (try dsimp only at hSw); go_simp; try with_reducible rfl)
         try simp only [Act.put, sa, sb, sc]
         refine tk 6 (v := ?_) rfl ?_ ?_
         rotate_left
         ·(intro w9 hSw; (try dsimp only at hSw); go_simp; try with_reducible rfl)
         try simp only [Act.put, sa, sb, sc]
         refine wpAnyH_ready (rs := [7]) (by kernel_rfl) (by simp) ?_
         refine AllReadyH.cons (i := 7) rfl (fun K hK => ?_) AllReadyH.nil
         go_simp
         refine (below_c b a len cap 9 (by decide) _ (unhide HP).2.2.2.1).mono ?_
         rintro e v1 ⟨x, rfl, x0, x1, x2, hl⟩
         have hwr : IntKind.i64.wrap (x - 3) = x - 3 := by rw [IntKind.wrap_i64]; omega
         have HX3 := hide (show In (x - 3) from by unfold In; omega)
         clear x0 x1 x2
         have HP := hide ((unhide HP).kp hl hbw (by omega))
         have HST := hide ((unhide HST).kp hl.2 (by omega))
         have hq := (show (fun u9 => u9.cell? ⟨q, 2, none⟩ = some (.slice (some ⟨b3, 0, none⟩) n3 cc) ∧ u9.cell? ⟨b3, j, none⟩ = some (.slice (some ⟨g3, 0, none⟩) s c)) v1 from ⟨(World.cell?_of_block (w := wz) (hl.2.block _ (World.block_lt_of_cell? wz _ hHeld.1) (by first | (show q ≠ b; omega) | (show w.heap.size + 1 ≠ b; omega) | (show b3 ≠ b; omega)))).trans hHeld.1, (World.cell?_of_block (w := wz) (hl.2.block _ (World.block_lt_of_cell? wz _ hHeld.2) (by first | (show q ≠ b; omega) | (show w.heap.size + 1 ≠ b; omega) | (show b3 ≠ b; omega)))).trans hHeld.2⟩)
         clear hl hHeld
         refine hK.out _ _ hq (fun hHeld => ?_)
         clear hK K hq
         try simp only [Act.put, sa, sb, sc]
         refine tk 8 (v := ?_) rfl ?_ ?_
         rotate_left
         ·(intro w9 hSw; (try dsimp only at hSw); go_simp; try with_reducible rfl)
         try simp only [Act.put, sa, sb, sc]
         refine tk 9 (v := ?_) rfl ?_ ?_
         rotate_left
         ·(intro w9 hSw; (try dsimp only at hSw); go_simp; try with_reducible rfl)
         try simp only [Act.put, sa, sb, sc]
         refine wpAnyH_ready (rs := [10]) (by kernel_rfl) (by simp) ?_
         refine AllReadyH.cons (i := 10) rfl (fun K hK => ?_) AllReadyH.nil
         obtain ⟨g9, b9, c9, hg9, eb9, hb9, hbg9, hh9, ⟨y, hy9⟩, hf9, hst9⟩ := (unhide HST).w3 hj2 htl (x - 3)
         cases eb9
         rw [← unhide HSS] at hh9
         have hoo : some (Value.slice (some ⟨g3, 0, none⟩) s c) = some (Value.slice (some ⟨g9, 0, none⟩) s c9) := hHeld.2.symm.trans hh9
         cases hoo
         have HST := hide hst9
         have HP := hide ((unhide HP).far (c := g3) (o := t) (x := .int .i64 (x - 3)) (by omega) (by omega) hbw (unhide HCO))
         clear hst9 hh9
         go_simp
         refine hK.out _ _ ⟨(unhide HP).2.2.1.2.2.1, (World.cell?_setCell_other _ _ _ _ (fun e => by have := congrArg Addr.block e; simp at this; omega)).trans hHeld.2⟩ (fun hHeld => ?_)
         clear hK K hHeld
         try simp only [Act.put, sa, sb, sc]
         refine wpAnyH_done (by kernel_rfl) ?_ _
         have HN := hide ((unhide HN).set3 j t hj2 (x - 3) (unhide HX3))
         clear s2 hh hy9 hf9 hwr
         go_wp2
         go_roundw
         case rel => exact ⟨t + 1, js.set j ((js[j]).set t (x - 3)), by go_num, by omega, unhide HN, unhide HST, unhide HP⟩
         case measure => simp [intOf]; omega
        ·have htI : ¬ (t : Int) < (s : Int) := by omega
         go_wp2
         go_roundw
         case rel => exact ⟨j + 1, js, by go_num, by omega, unhide HN, unhide HST, unhide HP⟩
         case measure => simp [intOf]; omega
      ·have hltI : ¬ (j : Int) < (n3 : Int) := by omega
       have t0 := (unhide HP).2.2.1.1
       have t1 := (unhide HP).2.2.1.2.1
       have r0 : wr.cell? ⟨w.heap.size + 1, 0, none⟩ = _ := (unhide HP).2.1.1
       have r1 : wr.cell? ⟨w.heap.size + 1, 1, none⟩ = _ := (unhide HP).2.1.2.1
       have r2 : wr.cell? ⟨w.heap.size + 1, 2, none⟩ = _ := (unhide HP).2.1.2.2.1
       have f0 : wr.frozen? ⟨w.heap.size + 1, 0, none⟩ = _ := (unhide HP).2.1.2.2.2 0
       have f1 : wr.frozen? ⟨w.heap.size + 1, 1, none⟩ = _ := (unhide HP).2.1.2.2.2 1
       have f2 : wr.frozen? ⟨w.heap.size + 1, 2, none⟩ = _ := (unhide HP).2.1.2.2.2 2
       have hN := unhide HN
       have hsw := (((unhide HST).far (c := w.heap.size + 1) (o := 0) (x := .slice oa n1 ca) (.inl (by omega))).far (c := w.heap.size + 1) (o := 1) (x := .slice ob n2 cb) (.inl (by omega))).far (c := w.heap.size + 1) (o := 2) (x := .slice oc n3 cc) (.inl (by omega))
       have hbel := (((unhide HP).2.2.2.set (c := w.heap.size + 1) (o := 0) (by omega) hbw (unhide HCO) (.slice oa n1 ca)).set (c := w.heap.size + 1) (o := 1) (by omega) hbw (unhide HCO) (.slice ob n2 cb)).set (c := w.heap.size + 1) (o := 2) (by omega) hbw (unhide HCO) (.slice oc n3 cc)
       have HSW := hide hsw
       have HBL := hide hbel
       clear hsw hbel
       go_wp2
       refine bodyPost_ret (v := .agg #[.slice oa n1 ca, .slice ob n2 cb, .slice oc n3 cc]) (by simp [results, Tryd.results104, go_sem, r0, r1, r2]) rfl ⟨oa, ob, oc, ca, cb, cc, B1, q, n1, n2, n3, gs, is, bs, js, by rw [hN.1, hN.2.1, hN.2.2.1], ?_, hN, ⟨by omega, by omega, by omega, unhide HCA⟩, unhide HBL⟩
       obtain ⟨p1, p2, p3, p4, p5, p6⟩ := unhide HSW
       refine ⟨?_, ?_, p3, by omega, p5, p6⟩
       ·rcases p1 with x | ⟨g, e, k1, k2, k3⟩
        ·exact .inl x
        ·exact .inr ⟨g, e, ⟨by omega, k1.2⟩, k2, k3⟩
       ·rcases p2 with x | ⟨g, e, k1, k2⟩
        ·exact .inl x
        ·exact .inr ⟨g, e, ⟨by omega, k1.2⟩, k2⟩
end Go.Proofs.YtpdnnpnclgcpoaaDoor

