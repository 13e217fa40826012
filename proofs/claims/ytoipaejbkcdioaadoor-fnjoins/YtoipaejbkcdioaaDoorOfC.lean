/- A live one with these intervals, so many of them of variables. -/
import Derived.Test.YtoipaejbkcdioaaDoorCopD
namespace Go.Proofs.YtoipaejbkcdioaaDoor
open Go.RowKit
set_option linter.unusedSimpArgs false
set_option linter.unusedVariables false

/-- Where the rest of a row begins. -/
def restAt (ad : Addr) (n cap : Nat) : Addr := if cap = n then ad else ad.add (n * 2)
theorem add0 (ad : Addr) : ad.add 0 = ad := by cases ad; rfl
theorem addAt (g i : Nat) : (⟨g, 0, none⟩ : Addr).add i = ⟨g, i, none⟩ := by unfold Addr.add; split <;> simp_all
theorem addAdd (g i j : Nat) : ((⟨g, 0, none⟩ : Addr).add i).add j = (⟨g, 0, none⟩ : Addr).add (i + j) := by
  rw [addAt, addAt]; unfold Addr.add; split <;> simp_all
theorem Ivs.newsB {w : World} {b : Nat} {xs : List (Int × Int)} (h : Ivs w (some ⟨b, 0, none⟩) xs) : ∀ j u, (cellsV xs)[j]? = some u → w.cell? ((⟨b, 0, none⟩ : Addr).add j) = some u := by
  intro j u hu
  have hadd : (⟨b, 0, none⟩ : Addr).add j = ⟨b, j, none⟩ := by unfold Addr.add; split <;> simp_all
  rw [hadd]
  have hj : j < (cellsV xs).length := (List.getElem?_eq_some_iff.1 hu).1
  rw [cellsV_len] at hj
  have hi : j / 2 < xs.length := by omega
  rcases h.2 with h0 | ⟨cb, co, e, hc⟩
  · omega
  · cases e
    have c := hc (j / 2) hi
    have d := cellsV_at xs (j / 2) hi
    rw [Nat.zero_add] at c
    by_cases q : j % 2 = 0
    · have ej : j / 2 * 2 = j := by omega
      rw [ej] at c d
      rw [c.1]
      rw [d.1] at hu
      exact hu
    · have ej : j / 2 * 2 + 1 = j := by omega
      rw [ej] at c d
      rw [c.2]
      rw [d.2] at hu
      exact hu
theorem Ivs.newsL {w : World} {b : Nat} {xs ys : List (Int × Int)} (h : Ivs w (some ⟨b, 0, none⟩) (xs ++ ys)) : ∀ j u, (cellsV xs)[j]? = some u → w.cell? ((⟨b, 0, none⟩ : Addr).add j) = some u := by
  intro j u hj
  refine h.newsB j u ?_
  rw [cellsV_app, List.getElem?_append_left (List.getElem?_eq_some_iff.mp hj).1]
  exact hj
theorem Ivs.newsR {w : World} {b c : Nat} {xs ys : List (Int × Int)} (h : Ivs w (some ⟨b, 0, none⟩) (xs ++ ys)) (hc : xs.length + ys.length ≤ c) : ∀ j u, (cellsV ys)[j]? = some u → w.cell? ((restAt ⟨b, 0, none⟩ xs.length c).add j) = some u := by
  intro j u hj
  have l := (List.getElem?_eq_some_iff.mp hj).1
  rw [cellsV_len] at l
  have e : restAt ⟨b, 0, none⟩ xs.length c = (⟨b, 0, none⟩ : Addr).add (xs.length * 2) := by unfold restAt; rw [if_neg (by omega)]
  have k := h.newsB (xs.length * 2 + j) u (by
    rw [cellsV_app, List.getElem?_append_right (by rw [cellsV_len]; omega), cellsV_len, show xs.length * 2 + j - xs.length * 2 = j by omega]; exact hj)
  rw [e, addAdd]
  exact k
/-- What stays while the rows are made: the answer's block. -/
@[reducible] def SO (w0 : World) (u : World) : Prop := Hid (Below w0.heap.size w0 u ∧ w0.heap.size + 1 ≤ u.heap.size ∧ Wr u w0.heap.size 3)
theorem SO.of {w0 u : World} (k : Below w0.heap.size w0 u) (s : w0.heap.size + 1 ≤ u.heap.size) (r : Wr u w0.heap.size 3) : SO w0 u := hide ⟨k, s, r⟩
theorem SO.out {w0 u : World} (h : SO w0 u) : Below w0.heap.size w0 u ∧ w0.heap.size + 1 ≤ u.heap.size ∧ Wr u w0.heap.size 3 := unhide h
theorem SO.drew {w0 u : World} (h : SO w0 u) : SO w0 u.drew := SO.of h.out.1.drew h.out.2.1 (h.out.2.2.call (Below.refl _ _).drew)
theorem SO.alloc {w0 u : World} (h : SO w0 u) (o : Obj) : SO w0 (u.alloc o) := SO.of (h.out.1.alloc h.out.1.size o) (by simp; have := h.out.2.1; omega) (h.out.2.2.call ((Below.refl _ _).alloc (Nat.le_refl _) o))
theorem SO.grown {w0 u v : World} {row : Option Nat} (h : SO w0 u) (hg : u.grownBy v row) (hr : ∀ j, row = some j → w0.heap.size + 1 ≤ j) : SO w0 v :=
  SO.of (h.out.1.grown hg h.out.1.size (fun j hj => by have := hr j hj; omega)) (Nat.le_trans h.out.2.1 hg.size) (h.out.2.2.grown hg (fun e => by have := hr _ e.symm; omega))
theorem SO.set {w0 u : World} {o : Nat} {v : Value} (h : SO w0 u) (ho : o < 3) : SO w0 (u.setCell ⟨w0.heap.size, o, none⟩ v) :=
  SO.of (h.out.1.setCell (Nat.le_refl _) _) (by rw [size_setCell]; exact h.out.2.1) (h.out.2.2.set _ ho)
set_option maxRecDepth 20000 in
set_option maxHeartbeats 8000000 in
theorem l6Of_c (g c len : Nat) (xs ys : List (Int × Int)) (w : World) (hx : Ivs w (some ⟨g, 0, none⟩) (xs ++ ys)) (hlen : len = xs.length + ys.length) (hc : xs.length + ys.length ≤ c) (hl : xs.length ≤ 1000 ∧ ys.length ≤ 1000) :
    Calls Tryd.prog 75 #[.slice (some ⟨g, 0, none⟩) len c, .int .i64 (xs.length : Int)] w fun e w' => ∃ oa ca ob cb, e = .returned (.agg #[.bool true, .slice oa xs.length ca, .slice ob ys.length cb]) ∧ RowsE w' w.heap.size oa ca ob cb xs ys ∧ Below w.heap.size w w' := by
  obtain ⟨ad, had⟩ : ∃ ad : Addr, ad = ⟨g, 0, none⟩ := ⟨_, rfl⟩
  obtain ⟨rd, hrd⟩ : ∃ rd : Addr, rd = restAt ad xs.length c := ⟨_, rfl⟩
  have HNL := hide (show ∀ u, Below w.heap.size w u → ∀ j v, (cellsV xs)[j]? = some v → u.cell? (ad.add j) = some v from fun u hu => by rw [had]; exact (hx.call hu).newsL)
  have HNR := hide (show ∀ u, Below w.heap.size w u → ∀ j v, (cellsV ys)[j]? = some v → u.cell? (rd.add j) = some v from fun u hu => by rw [hrd, had]; exact (hx.call hu).newsR hc)
  have e00 : ad.add 0 = ad := add0 ad
  have e01 : (if c = xs.length then some ad else some (ad.add (xs.length * 2))) = some rd := by rw [hrd]; unfold restAt; split <;> rfl
  have n1 : (xs.length : Int) ≤ (c : Int) := by omega
  have n2 : (xs.length : Int) ≤ (len : Int) := by omega
  have n3 : len - xs.length = ys.length := by omega
  rw [← had]
  clear had hrd
  have T1 := C3.new w (.bool false) (.slice none 0 0) (.slice none 0 0) 30
  have hs := SO.of (w0 := w) ((Below.refl _ _).alloc (Nat.le_refl _) (Obj.cells #[.bool false, .slice none 0 0, .slice none 0 0] 30)) (by simp) ⟨fun o ho => by
    rcases (by omega : o = 0 ∨ o = 1 ∨ o = 2) with rfl | rfl | rfl
    · exact ⟨_, T1.1⟩
    · exact ⟨_, T1.2.1⟩
    · exact ⟨_, T1.2.2.1⟩, T1.2.2.2, T1.lt⟩
  have HS := hide hs
  clear hx hlen T1 hs
  obtain ⟨inf, hi, hz0, hz1, hz2⟩ := info_parts ivInfo
  go_enter Tryd.func75, Tryd.ntmps75
  go_wp2_with fail
  generalize w.alloc (Obj.cells #[.bool false, .slice none 0 0, .slice none 0 0] 30) = u at HS ⊢
  have hs := unhide HS
  have hz := hs.out.2.1
  clear HS
  go_region_held3 (SO w)
    (first | exact SO.drew (by assumption) | exact SO.alloc (by assumption) _ | exact hs2 | exact hs3 | exact SO.set (SO.set (SO.set (by assumption) (by omega)) (by omega)) (by omega))
    (first
      | (refine step_app2 _ (by rfl) _ _ _ (by rfl) (w.heap.size + 1) 67 inf (.agg #[.int .i64 0, .int .i64 0]) 2 16 Tryd.underlying28 hi hz0 hz1 hz2 rfl (by decide) (.slice (some ⟨_, 0, none⟩) 0 0) 0 [] (by rfl) (rowG (by first | (refine old_atD ?_; rfl) | (refine new_atD ?_; rfl) | (refine new_atD ?_; simp; done) | (refine old_at ?_; rfl) | (refine new_at ?_; rfl) | (refine new_at ?_; simp; done)) (by first | omega | (simp; omega))) ad xs.length c (cellsV xs) (by rfl) (cellsV_len _) (unhide HNL _ (SO.out (by assumption)).1) (cellsV_one _) (by unfold maxLen; omega) (by omega) (by first | omega | (simp; omega)) ?_; intro oa ca w1 hown hgrow hloc; have hs2 := SO.grown (by assumption) hgrow (fun j hj => by simp [Value.ownBlock] at hj; omega))
      | (refine step_app2 _ (by rfl) _ _ _ (by rfl) (w.heap.size + 1) 67 inf (.agg #[.int .i64 0, .int .i64 0]) 2 16 Tryd.underlying28 hi hz0 hz1 hz2 rfl (by decide) (.slice (some ⟨_, 0, none⟩) 0 0) 0 [] (by rfl) (by first | exact rowG_kept hgrow (by first | (refine old_atD ?_; rfl) | (refine new_atD ?_; rfl) | (refine new_atD ?_; simp; done) | (refine old_at ?_; rfl) | (refine new_at ?_; rfl) | (refine new_at ?_; simp; done)) (by first | omega | (simp; omega)) (by simp [Value.ownBlock]) | exact rowG (by first | (refine old_atD ?_; rfl) | (refine new_atD ?_; rfl) | (refine new_atD ?_; simp; done) | (refine old_at ?_; rfl) | (refine new_at ?_; rfl) | (refine new_at ?_; simp; done)) (by have := hs2.out.2.1; first | omega | (simp; omega))) rd ys.length (c - xs.length) (cellsV ys) (by rfl) (cellsV_len _) (unhide HNR _ (SO.out (by assumption)).1) (cellsV_one _) (by unfold maxLen; omega) (by omega) (by have := hs2.out.2.1; first | omega | (simp; omega)) ?_; intro ob cb w2 hown2 hgrow2 hloc2; have hs3 := SO.grown (by assumption) hgrow2 (fun j hj => by have := hs2.out.2.1; simp [Value.ownBlock] at hj; omega); obtain ⟨v0, q0⟩ := hs3.out.2.2.1 0 (by omega); obtain ⟨v1, q1⟩ := hs3.out.2.2.1 1 (by omega); obtain ⟨v2, q2⟩ := hs3.out.2.2.1 2 (by omega); have f0 := hs3.out.2.2.2.1 0; have f1 := hs3.out.2.2.2.1 1; have f2 := hs3.out.2.2.2.1 2))
  all_goals rename_i hHeld
  all_goals
    have HB := hide hHeld.out.1
    have z1 := hgrow.size
    have z2 := hgrow2.size
    have HW := hide (show RowsE w2 (w.heap.size + 1) oa ca ob cb xs ys by
      rw [Nat.zero_add, List.nil_append] at hown hown2
      rw [Nat.zero_add] at hloc hloc2
      simp at z1 z2
      have z3 := hs2.out.2.1
      first
        | exact rows_apart hown hown hgrow2 hown2 hloc hloc2 (fun j h h' => by simp at h; omega) (by first | exact Nat.le_refl _ | (simp; done))
        | exact rows_apart hown (hown.alloc _) hgrow2 hown2 hloc hloc2 (fun j h h' => by omega) (by first | exact Nat.le_refl _ | (simp; done)))
    clear hHeld hs hs2 hs3 hown hown2 hgrow hgrow2 hloc hloc2 z1 z2
    go_wp2
    exact bodyPost_ret (v := .agg #[.bool true, .slice oa xs.length ca, .slice ob ys.length cb]) (by simp [results, Tryd.results75, go_sem, q0, q1, q2]) rfl ⟨oa, ca, ob, cb, rfl, ((((unhide HW).set (by omega)).set (by omega)).set (by omega)).down (by omega), unhide HB⟩
end Go.Proofs.YtoipaejbkcdioaaDoor
