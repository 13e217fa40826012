/- Rows that are written interval by interval through pointers; joined bounds. -/
import Derived.Test.YtoipaejbkcdioaaDoorIntR
namespace Go.Proofs.YtoipaejbkcdioaaDoor
open Go.RowKit
set_option linter.unusedSimpArgs false
set_option linter.unusedVariables false

def jn (p q : Int × Int) : Int × Int := (joinL p.1 p.2 q.1 q.2, joinH p.1 p.2 q.1 q.2)
/-- The first k are joined. -/
def upd (Z T : List (Int × Int)) (k : Nat) : List (Int × Int) := (List.zipWith jn Z T).take k ++ Z.drop k
theorem upd_len (Z T : List (Int × Int)) (k : Nat) (h : Z.length = T.length) (hk : k ≤ Z.length) : (upd Z T k).length = Z.length := by
  unfold upd
  simp
  omega
theorem upd_zero (Z T : List (Int × Int)) : upd Z T 0 = Z := by simp [upd]
theorem upd_all (Z T : List (Int × Int)) (h : Z.length = T.length) : upd Z T Z.length = List.zipWith jn Z T := by
  unfold upd
  rw [List.drop_length, List.append_nil, List.take_of_length_le (by simp; omega)]
theorem upd_get (Z T : List (Int × Int)) (k i : Nat) (h : Z.length = T.length) (hk : k ≤ Z.length) (hi : i < Z.length) : (upd Z T k)[i]? = some (if i < k then jn Z[i] (T[i]'(by omega)) else Z[i]) := by
  have hz : (List.zipWith jn Z T).length = Z.length := by simp; omega
  have ht : ((List.zipWith jn Z T).take k).length = k := by rw [List.length_take, hz]; omega
  unfold upd
  by_cases c : i < k
  · rw [List.getElem?_append_left (by rw [ht]; exact c), List.getElem?_take_of_lt c, if_pos c, List.getElem?_eq_getElem (by rw [hz]; exact hi), List.getElem_zipWith]
  · rw [List.getElem?_append_right (by rw [ht]; omega), ht, List.getElem?_drop, if_neg c, show k + (i - k) = i by omega, List.getElem?_eq_getElem hi]
theorem upd_at (Z T : List (Int × Int)) (k : Nat) (h : Z.length = T.length) (hk : k < Z.length) : (upd Z T k)[k]'(by rw [upd_len Z T k h (by omega)]; exact hk) = Z[k] := by
  have q := upd_get Z T k k h (by omega) hk
  rw [List.getElem?_eq_getElem (by rw [upd_len Z T k h (by omega)]; exact hk), if_neg (by omega)] at q
  exact Option.some.inj q
theorem upd_set (Z T : List (Int × Int)) (k : Nat) (h : Z.length = T.length) (hk : k < Z.length) : (upd Z T k).set k (jn Z[k] (T[k]'(by omega))) = upd Z T (k + 1) := by
  have hl : (upd Z T k).length = Z.length := upd_len Z T k h (by omega)
  have hl2 : (upd Z T (k + 1)).length = Z.length := upd_len Z T (k + 1) h (by omega)
  apply List.ext_getElem?
  intro i
  by_cases hi : i < Z.length
  · rw [List.getElem?_set, upd_get Z T (k + 1) i h (by omega) hi, upd_get Z T k i h (by omega) hi]
    by_cases e : k = i
    · subst e
      rw [if_pos rfl, if_pos (by rw [hl]; exact hk), if_pos (by omega)]
    · rw [if_neg e]
      by_cases c : i < k
      · rw [if_pos c, if_pos (by omega)]
      · rw [if_neg c, if_neg (by omega)]
  · rw [List.getElem?_eq_none (by rw [List.length_set, hl]; omega), List.getElem?_eq_none (by rw [hl2]; omega)]
/-- One interval of the rows is written, through its pointer. -/
theorem RowsE.writeAt {w : World} {B ca cb g1 g2 : Nat} {oa ob : Option Addr} {xs ys : List (Int × Int)} (h : RowsE w B oa ca ob cb xs ys) (h1 : xs.length = 0 ∨ oa = some ⟨g1, 0, none⟩) (h2 : ys.length = 0 ∨ ob = some ⟨g2, 0, none⟩) (k : Nat) (hk : k < (xs ++ ys).length) (p : Int × Int) :
    ∃ pb po, (ptrsB g1 xs.length ++ ptrsB g2 ys.length)[k]? = some ⟨pb, po, none⟩ ∧ (oa = some ⟨pb, 0, none⟩ ∨ ob = some ⟨pb, 0, none⟩) ∧ B ≤ pb ∧ pb < w.heap.size ∧ w.cell? ⟨pb, po, none⟩ = some (.int .i64 (xs ++ ys)[k].1) ∧ w.cell? ⟨pb, po + 1, none⟩ = some (.int .i64 (xs ++ ys)[k].2) ∧ (∀ o, w.frozen? ⟨pb, o, none⟩ = false) ∧
      ∃ xs' ys' : List (Int × Int), xs'.length = xs.length ∧ ys'.length = ys.length ∧ xs' ++ ys' = (xs ++ ys).set k p ∧ RowsE ((w.setCell ⟨pb, po, none⟩ (.int .i64 p.1)).setCell ⟨pb, po + 1, none⟩ (.int .i64 p.2)) B oa ca ob cb xs' ys' := by
  rw [List.length_append] at hk
  by_cases hx : k < xs.length
  · rcases h1 with h0 | h1
    · omega
    obtain ⟨g, hg, hB, hs, _, hf, hw⟩ := h.write hx p
    rw [h1] at hg
    obtain rfl : g1 = g := by injection hg with q; injection q
    have d := cellsV_at xs k hx
    subst h1
    have k1 := h.1.cellAt (k * 2) (by omega)
    have k2 := h.1.cellAt (k * 2 + 1) (by omega)
    rw [d.1] at k1
    rw [d.2] at k2
    refine ⟨g1, k * 2, ?_, .inl rfl, hB, hs, ?_, ?_, hf, xs.set k p, ys, by simp, rfl, ?_, hw⟩
    · rw [List.getElem?_append_left (by rw [ptrsB_len]; exact hx)]
      simp [ptrsB, hx]
    · rw [k1, List.getElem_append_left hx]
    · rw [k2, List.getElem_append_left hx]
    · rw [List.set_append_left _ _ hx]
  · rcases h2 with h0 | h2
    · omega
    have hy : k - xs.length < ys.length := by omega
    obtain ⟨g, hg, hB, hs, _, hf, hw⟩ := h.swap.write hy p
    rw [h2] at hg
    obtain rfl : g2 = g := by injection hg with q; injection q
    have d := cellsV_at ys (k - xs.length) hy
    subst h2
    have k1 := h.2.1.cellAt ((k - xs.length) * 2) (by omega)
    have k2 := h.2.1.cellAt ((k - xs.length) * 2 + 1) (by omega)
    rw [d.1] at k1
    rw [d.2] at k2
    refine ⟨g2, (k - xs.length) * 2, ?_, .inr rfl, hB, hs, ?_, ?_, hf, xs, ys.set (k - xs.length) p, rfl, by simp, ?_, hw.swap⟩
    · rw [List.getElem?_append_right (by rw [ptrsB_len]; omega), ptrsB_len]
      simp [ptrsB, hy]
    · rw [k1, List.getElem_append_right (by omega)]
    · rw [k2, List.getElem_append_right (by omega)]
    · rw [List.set_append_right _ _ (by omega)]
end Go.Proofs.YtoipaejbkcdioaaDoor
