/- Marks of an answer that is a row of bounds, of any length. -/
import Derived.Test.YtcjefmeadnmbhaaDoorTjL
namespace Go.Proofs.YtcjefmeadnmbhaaDoor
open Go.RowKit
set_option linter.unusedSimpArgs false
set_option linter.unusedVariables false

/-- Marks lie in the row, if there is one. -/
def HeldT (w : World) (oc : Option Addr) (k : Int) (ps : List PE) (es : List ER) : Prop := es.length = 0 ∨ ∃ g, oc = some ⟨g, 0, none⟩ ∧ TM w g k (mdT ps es) (mdT ps es).length
theorem HeldT.call {w w' : World} {oc : Option Addr} {k : Int} {ps : List PE} {es : List ER} (h : HeldT w oc k ps es) (hb : Below w.heap.size w w') : HeldT w' oc k ps es := by
  rcases h with h | ⟨g, e, h⟩
  · exact .inl h
  · exact .inr ⟨g, e, h.call hb⟩
theorem mdT_tot {ps : List PE} {es : List ER} (h : ps.length = es.length) : kN (mdT ps es) (mdT ps es).length = es.length + 2 * totE es :=
  kN_tot _ _ (mdT_len h) (fun i a b => by rw [mdT_at i a (by rw [h]; exact b) b]; exact ⟨rfl, rfl⟩)
theorem totE_small : ∀ (es : List ER), (∀ i, (h : i < es.length) → es[i].2.1.length ≤ 5 ∧ es[i].2.2.length ≤ 5) → totE es ≤ 10 * es.length
  | [], _ => by simp [totE]
  | e :: es, h => by
    have r := totE_small es (fun i a => by have := h (i + 1) (by simpa using a); rw [List.getElem_cons_succ] at this; exact this)
    have q := h 0 (by simp)
    rw [List.getElem_cons_zero] at q
    have t : totE (e :: es) = e.2.1.length + e.2.2.length + totE es := by simp [totE]
    rw [t, List.length_cons]
    omega
theorem markRowT_c (oc : Option Addr) (cc B T : Nat) (ps : List PE) (es : List ER) (k : Int) (hk : 0 ≤ k ∧ k ≤ 274877906944) (hl : es.length ≤ 8 ∧ ∀ i, (h : i < es.length) → es[i].2.1.length ≤ 5 ∧ es[i].2.2.length ≤ 5) (w : World) (r : RowT w B T oc cc ps es) :
    Calls Tryd.prog 23 #[.slice oc es.length cc, .int .i64 k] w fun e w' => e = .returned (.int .i64 (k + ((es.length + 2 * totE es : Nat) : Int))) ∧ HeldT w' oc k ps es ∧ Mid B T w w' := by
  have ts := totE_small es hl.2
  have tt := mdT_tot r.1
  have el := mdT_len r.1
  by_cases h0 : es.length = 0
  · have e0 : es = [] := List.length_eq_zero_iff.mp h0
    subst e0
    refine (markT0_c oc cc k w).mono ?_
    rintro e w' ⟨rfl, rfl⟩
    exact ⟨by simp [totE], .inl rfl, Mid.refl _ _ _⟩
  · obtain ⟨g, rfl, _⟩ := r.at (by omega)
    obtain ⟨t, t1, t2⟩ := r.tm (k := k) (by omega)
    have q := markT_c g cc B T (mdT ps es) k hk (by rw [el]; omega) (by rw [tt]; omega) (fun i h => by
      have h2 : i < es.length := by rw [← el]; exact h
      have h1 : i < ps.length := by rw [r.1]; exact h2
      rw [mdT_at i h h1 h2]
      have := hl.2 i h2
      show es[i].2.1.length ≤ 1048576 ∧ es[i].2.2.length ≤ 1048576
      omega) w t t1 t2
    rw [tt, el] at q
    refine q.mono ?_
    rintro e w' ⟨rfl, a, b⟩
    exact ⟨rfl, .inr ⟨g, rfl, by rw [el]; exact a⟩, b⟩
theorem heldRowT_c (oc : Option Addr) (cc : Nat) (ps : List PE) (es : List ER) (k : Int) (hk : 0 ≤ k ∧ k ≤ 274877906944) (hp : ps.length = es.length) (hl : es.length ≤ 8 ∧ ∀ i, (h : i < es.length) → es[i].2.1.length ≤ 5 ∧ es[i].2.2.length ≤ 5) (w : World) (r : HeldT w oc k ps es) :
    Calls Tryd.prog 24 #[.slice oc es.length cc, .int .i64 k] w fun e w' => e = .returned (.int .i64 (k + ((es.length + 2 * totE es : Nat) : Int))) ∧ w' = w := by
  have ts := totE_small es hl.2
  have tt := mdT_tot hp
  have el := mdT_len hp
  rcases r with h0 | ⟨g, rfl, t⟩
  · have e0 : es = [] := List.length_eq_zero_iff.mp h0
    subst e0
    refine (heldT0_c oc cc k w).mono ?_
    rintro e w' ⟨rfl, rfl⟩
    exact ⟨by simp [totE], rfl⟩
  · have q := heldT_c g cc (mdT ps es) k hk (by rw [el]; omega) (by rw [tt]; omega) (fun i h => by
      have h2 : i < es.length := by rw [← el]; exact h
      have h1 : i < ps.length := by rw [hp]; exact h2
      rw [mdT_at i h h1 h2]
      have := hl.2 i h2
      show es[i].2.1.length ≤ 1048576 ∧ es[i].2.2.length ≤ 1048576
      omega) w t
    rw [tt, el] at q
    exact q
/-- Marks in a copy that lies below H. -/
theorem markCopy_c (g c H : Nat) (es : List ER) (k : Int) (hk : 0 ≤ k ∧ k ≤ 274877906944) (hl : es.length + totE es ≤ 1048576) (w : World) (h : ∃ ds : List MD, ds.length = es.length ∧ TM w g k ds 0 ∧ (∀ i, (h : i < ds.length) → (h2 : i < es.length) → ds[i].na = es[i].2.1.length ∧ ds[i].nb = es[i].2.2.length) ∧ ∀ i, (h : i < ds.length) → g ≤ ds[i].lo ∧ ds[i].hi ≤ H) (hg : g < H) (hm : ∀ i, (h : i < es.length) → es[i].2.1.length ≤ 1048576 ∧ es[i].2.2.length ≤ 1048576) :
    Calls Tryd.prog 23 #[.slice (some ⟨g, 0, none⟩) es.length c, .int .i64 k] w fun e w' => e = .returned (.int .i64 (k + ((es.length + 2 * totE es : Nat) : Int))) ∧ Mid g H w w' := by
  obtain ⟨ds, el, t, na, hin⟩ := h
  have tt := kN_tot ds es el na
  have q := markT_c g c g H ds k hk (by omega) (by rw [tt]; omega) (fun i h => by
    have h2 : i < es.length := by rw [← el]; exact h
    have := na i h h2
    have := hm i h2
    omega) w t ⟨Nat.le_refl _, hg⟩ hin
  rw [tt, el] at q
  refine q.mono ?_
  rintro e w' ⟨rfl, _, b⟩
  exact ⟨rfl, b⟩
end Go.Proofs.YtcjefmeadnmbhaaDoor
