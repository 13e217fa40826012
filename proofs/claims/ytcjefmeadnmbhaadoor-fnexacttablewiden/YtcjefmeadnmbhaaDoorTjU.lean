/- Texts that go together: TjL, TjM, TjN. -/
import Derived.Test.YtcjefmeadnmbhaaDoorTjX
import Derived.Test.YtcjefmeadnmbhaaDoorTjY
import Derived.Test.YtcjefmeadnmbhaaDoorTabZ
/- Sizes: of a table's marks, and of joined tables. -/
namespace Go.Proofs.YtcjefmeadnmbhaaDoor
open Go.RowKit
set_option linter.unusedSimpArgs false
set_option linter.unusedVariables false

theorem szE_sum (m n : Nat) (l : Int) (h : 0 ≤ szE m n l) (h0 : 0 ≤ l) : szE m n l = l - m - n := by
  unfold szE sz1 at *
  split at h
  · omega
  · split at h
    · omega
    · rename_i a b
      rw [if_neg a, if_neg b]
      exact if_neg a
/-- How many intervals lie in a table's rows. -/
def totE (es : List ER) : Nat := (es.map fun e => e.2.1.length + e.2.2.length).sum
theorem szEL_sum : ∀ (es : List ER) (l : Int), 0 ≤ l → 0 ≤ szEL es l → (totE es : Int) ≤ l
  | [], l, h, _ => by simpa [totE] using h
  | e :: es, l, h, k => by
    by_cases g : szE e.2.1.length e.2.2.length l < 0
    · have E : szEL (e :: es) l = -1 := if_pos g
      omega
    · have E : szEL (e :: es) l = szEL es (szE e.2.1.length e.2.2.length l) := if_neg g
      rw [E] at k
      have r := szEL_sum es _ (by omega) k
      have q := szE_sum e.2.1.length e.2.2.length l (by omega) h
      have t : totE (e :: es) = e.2.1.length + e.2.2.length + totE es := by simp [totE]
      rw [t]
      omega
theorem szES_sum (es : List ER) (l : Int) (h : 0 ≤ l) (k : 0 ≤ szES es l) : (es.length : Int) + totE es ≤ l := by
  unfold szES at k
  split at k
  · omega
  · have := szEL_sum es _ (by omega) k
    omega
/-- So many marks lie in a table that is placed by ds. -/
theorem kN_tot : ∀ (ds : List MD) (es : List ER), ds.length = es.length → (∀ i, (h : i < ds.length) → (h2 : i < es.length) → ds[i].na = es[i].2.1.length ∧ ds[i].nb = es[i].2.2.length) → kN ds ds.length = es.length + 2 * totE es
  | [], [], _, _ => by simp [kN, totE]
  | [], _ :: _, h, _ => by simp at h
  | _ :: _, [], h, _ => by simp at h
  | d :: ds, e :: es, h, k => by
    have r := kN_tot ds es (by simpa using h) (fun i a b => by
      have := k (i + 1) (by simpa using a) (by simpa using b)
      rw [List.getElem_cons_succ, List.getElem_cons_succ] at this
      exact this)
    obtain ⟨k1, k2⟩ := k 0 (by simp) (by simp)
    rw [List.getElem_cons_zero, List.getElem_cons_zero] at k1 k2
    have t : totE (e :: es) = e.2.1.length + e.2.2.length + totE es := by simp [totE]
    have s : kN (d :: ds) (d :: ds).length = 1 + 2 * d.na + 2 * d.nb + kN ds ds.length := by simp [kN]
    rw [s, t, r, k1, k2, List.length_cons]
    omega
theorem jsV_len {li lj : Bool} {xs ys xs2 ys2 : List (Int × Int)} {M : Nat} (h : xs.length ≤ M ∧ ys.length ≤ M ∧ xs2.length ≤ M ∧ ys2.length ≤ M) : (jsV li lj xs ys xs2 ys2).1.length ≤ M ∧ (jsV li lj xs ys xs2 ys2).2.length ≤ M := by
  cases li <;> cases lj <;> simp only [jsV, List.length_zipWith] <;> omega
/-- The join of tables is small. -/
theorem tjV_small (vs fs : List ByteArray) (rs : List (ByteArray × Int)) (es1 es2 : List ER) : (tjV vs fs rs es1 es2).length ≤ 8 ∧ ∀ i, (h : i < (tjV vs fs rs es1 es2).length) → (tjV vs fs rs es1 es2)[i].2.1.length ≤ 5 ∧ (tjV vs fs rs es1 es2)[i].2.2.length ≤ 5 := by
  by_cases c : tabB vs fs rs es1 = true ∧ tabB vs fs rs es2 = true
  · obtain ⟨t1, t2⟩ := c
    obtain ⟨e, el⟩ := tjV_yes t1 t2
    have l8 : es1.length ≤ 8 := by
      have e := tab_len t1
      have hd : declB vs fs rs = true := by unfold tabB at t1; rw [Bool.and_eq_true] at t1; exact t1.1
      have l := (declB_len hd).2.1
      rw [e]
      have : 2 ^ fs.length ≤ 2 ^ 3 := Nat.pow_le_pow_right (by decide) l
      omega
    refine ⟨by rw [el]; exact l8, ?_⟩
    rw [e]
    intro i h
    have h1 : i < es1.length := by rw [List.length_zipWith] at h; omega
    have h2 : i < es2.length := by rw [List.length_zipWith] at h; omega
    rw [List.getElem_zipWith]
    have s1 := env_small (tab_env t1 i h1)
    have s2 := env_small (tab_env t2 i h2)
    exact jsV_len ⟨s1.1, by omega, s2.1, by omega⟩
  · have e : tjV vs fs rs es1 es2 = [] := if_neg c
    rw [e]
    exact ⟨by simp, fun i h => absurd h (Nat.not_lt_zero i)⟩
end Go.Proofs.YtcjefmeadnmbhaaDoor

/- Marks of an answer that is a row of bounds, of any length. -/
namespace Go.Proofs.YtcjefmeadnmbhaaDoor
open Go.RowKit
set_option linter.unusedSimpArgs false
set_option linter.unusedVariables false

/-- Marks lie in the row, if there is one. -/
def HeldT (w : World) (oc : Option Addr) (k : Int) (ps : List PE) (es : List ER) : Prop := es.length = 0 ∨ ∃ g, oc = some ⟨g, 0, none⟩ ∧ TM w g k (mdT ps es) (mdT ps es).length
theorem HeldT.call {w w' : World} {oc : Option Addr} {k : Int} {ps : List PE} {es : List ER} (h : HeldT w oc k ps es) (hb : Below w.heap.size w w') : HeldT w' oc k ps es := by
  rcases h with h | ⟨g, e, h⟩
  · exact .inl h
  · exact .inr ⟨g, e, h.call hb⟩
theorem mdT_tot {ps : List PE} {es : List ER} (h : ps.length = es.length) : kN (mdT ps es) (mdT ps es).length = es.length + 2 * totE es :=
  kN_tot _ _ (mdT_len h) (fun i a b => by rw [mdT_at i a (by rw [h]; exact b) b]; exact ⟨rfl, rfl⟩)
theorem totE_small : ∀ (es : List ER), (∀ i, (h : i < es.length) → es[i].2.1.length ≤ 5 ∧ es[i].2.2.length ≤ 5) → totE es ≤ 10 * es.length
  | [], _ => by simp [totE]
  | e :: es, h => by
    have r := totE_small es (fun i a => by have := h (i + 1) (by simpa using a); rw [List.getElem_cons_succ] at this; exact this)
    have q := h 0 (by simp)
    rw [List.getElem_cons_zero] at q
    have t : totE (e :: es) = e.2.1.length + e.2.2.length + totE es := by simp [totE]
    rw [t, List.length_cons]
    omega
theorem markRowT_c (oc : Option Addr) (cc B T : Nat) (ps : List PE) (es : List ER) (k : Int) (hk : 0 ≤ k ∧ k ≤ 274877906944) (hl : es.length ≤ 8 ∧ ∀ i, (h : i < es.length) → es[i].2.1.length ≤ 5 ∧ es[i].2.2.length ≤ 5) (w : World) (r : RowT w B T oc cc ps es) :
    Calls Tryd.prog 23 #[.slice oc es.length cc, .int .i64 k] w fun e w' => e = .returned (.int .i64 (k + ((es.length + 2 * totE es : Nat) : Int))) ∧ HeldT w' oc k ps es ∧ Mid B T w w' := by
  have ts := totE_small es hl.2
  have tt := mdT_tot r.1
  have el := mdT_len r.1
  by_cases h0 : es.length = 0
  · have e0 : es = [] := List.length_eq_zero_iff.mp h0
    subst e0
    refine (markT0_c oc cc k w).mono ?_
    rintro e w' ⟨rfl, rfl⟩
    exact ⟨by simp [totE], .inl rfl, Mid.refl _ _ _⟩
  · obtain ⟨g, rfl, _⟩ := r.at (by omega)
    obtain ⟨t, t1, t2⟩ := r.tm (k := k) (by omega)
    have q := markT_c g cc B T (mdT ps es) k hk (by rw [el]; omega) (by rw [tt]; omega) (fun i h => by
      have h2 : i < es.length := by rw [← el]; exact h
      have h1 : i < ps.length := by rw [r.1]; exact h2
      rw [mdT_at i h h1 h2]
      have := hl.2 i h2
      show es[i].2.1.length ≤ 1048576 ∧ es[i].2.2.length ≤ 1048576
      omega) w t t1 t2
    rw [tt, el] at q
    refine q.mono ?_
    rintro e w' ⟨rfl, a, b⟩
    exact ⟨rfl, .inr ⟨g, rfl, by rw [el]; exact a⟩, b⟩
theorem heldRowT_c (oc : Option Addr) (cc : Nat) (ps : List PE) (es : List ER) (k : Int) (hk : 0 ≤ k ∧ k ≤ 274877906944) (hp : ps.length = es.length) (hl : es.length ≤ 8 ∧ ∀ i, (h : i < es.length) → es[i].2.1.length ≤ 5 ∧ es[i].2.2.length ≤ 5) (w : World) (r : HeldT w oc k ps es) :
    Calls Tryd.prog 24 #[.slice oc es.length cc, .int .i64 k] w fun e w' => e = .returned (.int .i64 (k + ((es.length + 2 * totE es : Nat) : Int))) ∧ w' = w := by
  have ts := totE_small es hl.2
  have tt := mdT_tot hp
  have el := mdT_len hp
  rcases r with h0 | ⟨g, rfl, t⟩
  · have e0 : es = [] := List.length_eq_zero_iff.mp h0
    subst e0
    refine (heldT0_c oc cc k w).mono ?_
    rintro e w' ⟨rfl, rfl⟩
    exact ⟨by simp [totE], rfl⟩
  · have q := heldT_c g cc (mdT ps es) k hk (by rw [el]; omega) (by rw [tt]; omega) (fun i h => by
      have h2 : i < es.length := by rw [← el]; exact h
      have h1 : i < ps.length := by rw [hp]; exact h2
      rw [mdT_at i h h1 h2]
      have := hl.2 i h2
      show es[i].2.1.length ≤ 1048576 ∧ es[i].2.2.length ≤ 1048576
      omega) w t
    rw [tt, el] at q
    exact q
/-- Marks in a copy that lies below H. -/
theorem markCopy_c (g c H : Nat) (es : List ER) (k : Int) (hk : 0 ≤ k ∧ k ≤ 274877906944) (hl : es.length + totE es ≤ 1048576) (w : World) (h : ∃ ds : List MD, ds.length = es.length ∧ TM w g k ds 0 ∧ (∀ i, (h : i < ds.length) → (h2 : i < es.length) → ds[i].na = es[i].2.1.length ∧ ds[i].nb = es[i].2.2.length) ∧ ∀ i, (h : i < ds.length) → g ≤ ds[i].lo ∧ ds[i].hi ≤ H) (hg : g < H) (hm : ∀ i, (h : i < es.length) → es[i].2.1.length ≤ 1048576 ∧ es[i].2.2.length ≤ 1048576) :
    Calls Tryd.prog 23 #[.slice (some ⟨g, 0, none⟩) es.length c, .int .i64 k] w fun e w' => e = .returned (.int .i64 (k + ((es.length + 2 * totE es : Nat) : Int))) ∧ Mid g H w w' := by
  obtain ⟨ds, el, t, na, hin⟩ := h
  have tt := kN_tot ds es el na
  have q := markT_c g c g H ds k hk (by omega) (by rw [tt]; omega) (fun i h => by
    have h2 : i < es.length := by rw [← el]; exact h
    have := na i h h2
    have := hm i h2
    omega) w t ⟨Nat.le_refl _, hg⟩ hin
  rw [tt, el] at q
  refine q.mono ?_
  rintro e w' ⟨rfl, _, b⟩
  exact ⟨rfl, b⟩
end Go.Proofs.YtcjefmeadnmbhaaDoor

/- Copies of tables that may be marked. -/
namespace Go.Proofs.YtcjefmeadnmbhaaDoor
open Go.RowKit
set_option linter.unusedSimpArgs false
set_option linter.unusedVariables false

/-- A copy of a table that may be marked, below H. -/
def CPy (w : World) (g H : Nat) (es : List ER) : Prop := ∀ k : Int, ∃ ds : List MD, ds.length = es.length ∧ TM w g k ds 0 ∧ (∀ i, (h : i < ds.length) → (h2 : i < es.length) → ds[i].na = es[i].2.1.length ∧ ds[i].nb = es[i].2.2.length) ∧ ∀ i, (h : i < ds.length) → g ≤ ds[i].lo ∧ ds[i].hi ≤ H
theorem CPy.of {w : World} {g : Nat} {es : List ER} (h : OwnE w g es) (hs : SepE g es.length w) : CPy w g w.heap.size es := fun k => copy_tm k h hs
theorem CPy.mid {w w' : World} {g H lo hi : Nat} {es : List ER} (h : CPy w g H es) (m : Mid lo hi w w') (ho : hi ≤ g ∨ H ≤ lo ∧ g < lo) : CPy w' g H es := fun k => by
  obtain ⟨ds, e, t, na, hin⟩ := h k
  exact ⟨ds, e, t.mid m (by omega) (fun i h => by have := hin i h; omega), na, hin⟩
theorem CPy.call {w w' : World} {g H : Nat} {es : List ER} (h : CPy w g H es) (hb : Below w.heap.size w w') : CPy w' g H es := h.mid (Mid.of (lo := 0) (hi := 0) hb) (.inl (Nat.zero_le _))
theorem env_lenA {w : World} {a : Option Addr} {es : List ER} (h : Envs w a es) (i : Nat) (hi : i < es.length) : es[i].2.1.length ≤ 1048576 ∧ es[i].2.2.length ≤ 1048576 := by
  rcases h.2 with h0 | ⟨cb, co, _, hc⟩
  · omega
  · obtain ⟨_, _, _, _, _, _, _, q1, q2⟩ := hc i hi
    exact ⟨q1.1, q2.1⟩
end Go.Proofs.YtcjefmeadnmbhaaDoor

