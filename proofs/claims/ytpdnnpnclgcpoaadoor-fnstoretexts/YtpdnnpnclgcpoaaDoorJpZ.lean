/- Texts that go together: OfC, JoiF, JoiG. -/
import Derived.Test.YtpdnnpnclgcpoaaDoorCoZ
import Derived.Test.YtpdnnpnclgcpoaaDoorJoZ
/- A live one with these intervals, so many of them of variables. -/
namespace Go.Proofs.YtpdnnpnclgcpoaaDoor
open Go.RowKit
set_option linter.unusedSimpArgs false
set_option linter.unusedVariables false

/-- Where the rest of a row begins. -/
def restAt (ad : Addr) (n cap : Nat) : Addr := if cap = n then ad else ad.add (n * 2)
theorem add0 (ad : Addr) : ad.add 0 = ad := by cases ad; rfl
theorem addAt (g i : Nat) : (⟨g, 0, none⟩ : Addr).add i = ⟨g, i, none⟩ := by unfold Addr.add; split <;> simp_all
theorem addAdd (g i j : Nat) : ((⟨g, 0, none⟩ : Addr).add i).add j = (⟨g, 0, none⟩ : Addr).add (i + j) := by
  rw [addAt, addAt]; unfold Addr.add; split <;> simp_all
theorem Ivs.newsB {w : World} {b : Nat} {xs : List (Int × Int)} (h : Ivs w (some ⟨b, 0, none⟩) xs) : ∀ j u, (cellsV xs)[j]? = some u → w.cell? ((⟨b, 0, none⟩ : Addr).add j) = some u := by
  intro j u hu
  have hadd : (⟨b, 0, none⟩ : Addr).add j = ⟨b, j, none⟩ := by unfold Addr.add; split <;> simp_all
  rw [hadd]
  have hj : j < (cellsV xs).length := (List.getElem?_eq_some_iff.1 hu).1
  rw [cellsV_len] at hj
  have hi : j / 2 < xs.length := by omega
  rcases h.2 with h0 | ⟨cb, co, e, hc⟩
  · omega
  · cases e
    have c := hc (j / 2) hi
    have d := cellsV_at xs (j / 2) hi
    rw [Nat.zero_add] at c
    by_cases q : j % 2 = 0
    · have ej : j / 2 * 2 = j := by omega
      rw [ej] at c d
      rw [c.1]
      rw [d.1] at hu
      exact hu
    · have ej : j / 2 * 2 + 1 = j := by omega
      rw [ej] at c d
      rw [c.2]
      rw [d.2] at hu
      exact hu
theorem Ivs.newsL {w : World} {b : Nat} {xs ys : List (Int × Int)} (h : Ivs w (some ⟨b, 0, none⟩) (xs ++ ys)) : ∀ j u, (cellsV xs)[j]? = some u → w.cell? ((⟨b, 0, none⟩ : Addr).add j) = some u := by
  intro j u hj
  refine h.newsB j u ?_
  rw [cellsV_app, List.getElem?_append_left (List.getElem?_eq_some_iff.mp hj).1]
  exact hj
theorem Ivs.newsR {w : World} {b c : Nat} {xs ys : List (Int × Int)} (h : Ivs w (some ⟨b, 0, none⟩) (xs ++ ys)) (hc : xs.length + ys.length ≤ c) : ∀ j u, (cellsV ys)[j]? = some u → w.cell? ((restAt ⟨b, 0, none⟩ xs.length c).add j) = some u := by
  intro j u hj
  have l := (List.getElem?_eq_some_iff.mp hj).1
  rw [cellsV_len] at l
  have e : restAt ⟨b, 0, none⟩ xs.length c = (⟨b, 0, none⟩ : Addr).add (xs.length * 2) := by unfold restAt; rw [if_neg (by omega)]
  have k := h.newsB (xs.length * 2 + j) u (by
    rw [cellsV_app, List.getElem?_append_right (by rw [cellsV_len]; omega), cellsV_len, show xs.length * 2 + j - xs.length * 2 = j by omega]; exact hj)
  rw [e, addAdd]
  exact k
/-- What stays while the rows are made: the answer's block. -/
@[reducible] def SO (w0 : World) (u : World) : Prop := Hid (Below w0.heap.size w0 u ∧ w0.heap.size + 1 ≤ u.heap.size ∧ Wr u w0.heap.size 3)
theorem SO.of {w0 u : World} (k : Below w0.heap.size w0 u) (s : w0.heap.size + 1 ≤ u.heap.size) (r : Wr u w0.heap.size 3) : SO w0 u := hide ⟨k, s, r⟩
theorem SO.out {w0 u : World} (h : SO w0 u) : Below w0.heap.size w0 u ∧ w0.heap.size + 1 ≤ u.heap.size ∧ Wr u w0.heap.size 3 := unhide h
theorem SO.drew {w0 u : World} (h : SO w0 u) : SO w0 u.drew := SO.of h.out.1.drew h.out.2.1 (h.out.2.2.call (Below.refl _ _).drew)
theorem SO.alloc {w0 u : World} (h : SO w0 u) (o : Obj) : SO w0 (u.alloc o) := SO.of (h.out.1.alloc h.out.1.size o) (by simp; have := h.out.2.1; omega) (h.out.2.2.call ((Below.refl _ _).alloc (Nat.le_refl _) o))
theorem SO.grown {w0 u v : World} {row : Option Nat} (h : SO w0 u) (hg : u.grownBy v row) (hr : ∀ j, row = some j → w0.heap.size + 1 ≤ j) : SO w0 v :=
  SO.of (h.out.1.grown hg h.out.1.size (fun j hj => by have := hr j hj; omega)) (Nat.le_trans h.out.2.1 hg.size) (h.out.2.2.grown hg (fun e => by have := hr _ e.symm; omega))
theorem SO.set {w0 u : World} {o : Nat} {v : Value} (h : SO w0 u) (ho : o < 3) : SO w0 (u.setCell ⟨w0.heap.size, o, none⟩ v) :=
  SO.of (h.out.1.setCell (Nat.le_refl _) _) (by rw [size_setCell]; exact h.out.2.1) (h.out.2.2.set _ ho)
set_option maxRecDepth 20000 in
set_option maxHeartbeats 8000000 in
theorem l6Of_c (g c len : Nat) (xs ys : List (Int × Int)) (w : World) (hx : Ivs w (some ⟨g, 0, none⟩) (xs ++ ys)) (hlen : len = xs.length + ys.length) (hc : xs.length + ys.length ≤ c) (hl : xs.length ≤ 1000 ∧ ys.length ≤ 1000) :
    Calls Tryd.prog 103 #[.slice (some ⟨g, 0, none⟩) len c, .int .i64 (xs.length : Int)] w fun e w' => ∃ oa ca ob cb, e = .returned (.agg #[.bool true, .slice oa xs.length ca, .slice ob ys.length cb]) ∧ RowsE w' w.heap.size oa ca ob cb xs ys ∧ Below w.heap.size w w' := by
  obtain ⟨ad, had⟩ : ∃ ad : Addr, ad = ⟨g, 0, none⟩ := ⟨_, rfl⟩
  obtain ⟨rd, hrd⟩ : ∃ rd : Addr, rd = restAt ad xs.length c := ⟨_, rfl⟩
  have HNL := hide (show ∀ u, Below w.heap.size w u → ∀ j v, (cellsV xs)[j]? = some v → u.cell? (ad.add j) = some v from fun u hu => by rw [had]; exact (hx.call hu).newsL)
  have HNR := hide (show ∀ u, Below w.heap.size w u → ∀ j v, (cellsV ys)[j]? = some v → u.cell? (rd.add j) = some v from fun u hu => by rw [hrd, had]; exact (hx.call hu).newsR hc)
  have e00 : ad.add 0 = ad := add0 ad
  have e01 : (if c = xs.length then some ad else some (ad.add (xs.length * 2))) = some rd := by rw [hrd]; unfold restAt; split <;> rfl
  have n1 : (xs.length : Int) ≤ (c : Int) := by omega
  have n2 : (xs.length : Int) ≤ (len : Int) := by omega
  have n3 : len - xs.length = ys.length := by omega
  rw [← had]
  clear had hrd
  have T1 := C3.new w (.bool false) (.slice none 0 0) (.slice none 0 0) 43
  have hs := SO.of (w0 := w) ((Below.refl _ _).alloc (Nat.le_refl _) (Obj.cells #[.bool false, .slice none 0 0, .slice none 0 0] 43)) (by simp) ⟨fun o ho => by
    rcases (by omega : o = 0 ∨ o = 1 ∨ o = 2) with rfl | rfl | rfl
    · exact ⟨_, T1.1⟩
    · exact ⟨_, T1.2.1⟩
    · exact ⟨_, T1.2.2.1⟩, T1.2.2.2, T1.lt⟩
  have HS := hide hs
  clear hx hlen T1 hs
  obtain ⟨inf, hi, hz0, hz1, hz2⟩ := info_parts ivInfo
  go_enter Tryd.func103, Tryd.ntmps103
  go_wp2_with fail
  generalize w.alloc (Obj.cells #[.bool false, .slice none 0 0, .slice none 0 0] 43) = u at HS ⊢
  have hs := unhide HS
  have hz := hs.out.2.1
  clear HS
  go_region_held3 (SO w)
    (first | exact SO.drew (by assumption) | exact SO.alloc (by assumption) _ | exact hs2 | exact hs3 | exact SO.set (SO.set (SO.set (by assumption) (by omega)) (by omega)) (by omega))
    (first
      | (refine step_app2 _ (by rfl) _ _ _ (by rfl) (w.heap.size + 1) 81 inf (.agg #[.int .i64 0, .int .i64 0]) 2 16 Tryd.underlying41 hi hz0 hz1 hz2 rfl (by decide) (.slice (some ⟨_, 0, none⟩) 0 0) 0 [] (by rfl) (rowG (by first | (refine old_atD ?_; rfl) | (refine new_atD ?_; rfl) | (refine new_atD ?_; simp; done) | (refine old_at ?_; rfl) | (refine new_at ?_; rfl) | (refine new_at ?_; simp; done)) (by first | omega | (simp; omega))) ad xs.length c (cellsV xs) (by rfl) (cellsV_len _) (unhide HNL _ (SO.out (by assumption)).1) (cellsV_one _) (by unfold maxLen; omega) (by omega) (by first | omega | (simp; omega)) ?_; intro oa ca w1 hown hgrow hloc; have hs2 := SO.grown (by assumption) hgrow (fun j hj => by simp [Value.ownBlock] at hj; omega))
      | (refine step_app2 _ (by rfl) _ _ _ (by rfl) (w.heap.size + 1) 81 inf (.agg #[.int .i64 0, .int .i64 0]) 2 16 Tryd.underlying41 hi hz0 hz1 hz2 rfl (by decide) (.slice (some ⟨_, 0, none⟩) 0 0) 0 [] (by rfl) (by first | exact rowG_kept hgrow (by first | (refine old_atD ?_; rfl) | (refine new_atD ?_; rfl) | (refine new_atD ?_; simp; done) | (refine old_at ?_; rfl) | (refine new_at ?_; rfl) | (refine new_at ?_; simp; done)) (by first | omega | (simp; omega)) (by simp [Value.ownBlock]) | exact rowG (by first | (refine old_atD ?_; rfl) | (refine new_atD ?_; rfl) | (refine new_atD ?_; simp; done) | (refine old_at ?_; rfl) | (refine new_at ?_; rfl) | (refine new_at ?_; simp; done)) (by have := hs2.out.2.1; first | omega | (simp; omega))) rd ys.length (c - xs.length) (cellsV ys) (by rfl) (cellsV_len _) (unhide HNR _ (SO.out (by assumption)).1) (cellsV_one _) (by unfold maxLen; omega) (by omega) (by have := hs2.out.2.1; first | omega | (simp; omega)) ?_; intro ob cb w2 hown2 hgrow2 hloc2; have hs3 := SO.grown (by assumption) hgrow2 (fun j hj => by have := hs2.out.2.1; simp [Value.ownBlock] at hj; omega); obtain ⟨v0, q0⟩ := hs3.out.2.2.1 0 (by omega); obtain ⟨v1, q1⟩ := hs3.out.2.2.1 1 (by omega); obtain ⟨v2, q2⟩ := hs3.out.2.2.1 2 (by omega); have f0 := hs3.out.2.2.2.1 0; have f1 := hs3.out.2.2.2.1 1; have f2 := hs3.out.2.2.2.1 2))
  all_goals rename_i hHeld
  all_goals
    have HB := hide hHeld.out.1
    have z1 := hgrow.size
    have z2 := hgrow2.size
    have HW := hide (show RowsE w2 (w.heap.size + 1) oa ca ob cb xs ys by
      rw [Nat.zero_add, List.nil_append] at hown hown2
      rw [Nat.zero_add] at hloc hloc2
      simp at z1 z2
      have z3 := hs2.out.2.1
      first
        | exact rows_apart hown hown hgrow2 hown2 hloc hloc2 (fun j h h' => by simp at h; omega) (by first | exact Nat.le_refl _ | (simp; done))
        | exact rows_apart hown (hown.alloc _) hgrow2 hown2 hloc hloc2 (fun j h h' => by omega) (by first | exact Nat.le_refl _ | (simp; done)))
    clear hHeld hs hs2 hs3 hown hown2 hgrow hgrow2 hloc hloc2 z1 z2
    go_wp2
    exact bodyPost_ret (v := .agg #[.bool true, .slice oa xs.length ca, .slice ob ys.length cb]) (by simp [results, Tryd.results103, go_sem, q0, q1, q2]) rfl ⟨oa, ca, ob, cb, rfl, ((((unhide HW).set (by omega)).set (by omega)).set (by omega)).down (by omega), unhide HB⟩
end Go.Proofs.YtpdnnpnclgcpoaaDoor

/- Joined bounds: the specification's loop. -/
namespace Go.Proofs.YtpdnnpnclgcpoaaDoor
open Go.RowKit
set_option linter.unusedSimpArgs false
set_option linter.unusedVariables false

def jm (p q : Int × Int) : Int × Int := (mn p.1 q.1, mx p.2 q.2)
def jsV (li lj : Bool) (xs ys xs2 ys2 : List (Int × Int)) : List (Int × Int) × List (Int × Int) :=
  match li, lj with
  | false, _ => (xs2, ys2)
  | true, false => (xs, ys)
  | true, true => (List.zipWith jm xs xs2, List.zipWith jm ys ys2)
theorem jm_snoc (zs zt : List (Int × Int)) (k : Nat) (h : k < zs.length) (h2 : k < zt.length) : cellsV ((List.zipWith jm zs zt).take k) ++ [.int .i64 (mn zs[k].1 zt[k].1), .int .i64 (mx zs[k].2 zt[k].2)] = cellsV ((List.zipWith jm zs zt).take (k + 1)) := by
  rw [List.take_succ_eq_append_getElem (by simp; omega), cellsV_app, List.getElem_zipWith]
  rfl
theorem one2 (x y : Int) : (∀ u ∈ [Value.int .i64 x, Value.int .i64 y], u.oneCell' = true) := by
  intro u hu
  simp at hu
  rcases hu with rfl | rfl <;> rfl
/-- Two bounds and the answer, each in a block. -/
def Q6 (w0 : World) (x1 y1 z1 x2 y2 z2 : Value) (u : World) : Prop := C3 u w0.heap.size x1 y1 z1 ∧ C3 u (w0.heap.size + 1) x2 y2 z2 ∧ C3 u (w0.heap.size + 2) (.bool false) (.slice none 0 0) (.slice none 0 0) ∧ Below w0.heap.size w0 u
theorem Q6.call {w0 u v : World} {x1 y1 z1 x2 y2 z2 : Value} (h : Q6 w0 x1 y1 z1 x2 y2 z2 u) (hb : Below u.heap.size u v) : Q6 w0 x1 y1 z1 x2 y2 z2 v :=
  ⟨h.1.call hb, h.2.1.call hb, h.2.2.1.call hb, h.2.2.2.trans (hb.mono h.2.2.2.size)⟩
theorem Q6.new (w : World) (x1 y1 z1 x2 y2 z2 : Value) (t1 t2 t3 : TypeId) : Q6 w x1 y1 z1 x2 y2 z2 (((w.alloc (Obj.cells #[x1, y1, z1] t1)).alloc (Obj.cells #[x2, y2, z2] t2)).alloc (Obj.cells #[.bool false, .slice none 0 0, .slice none 0 0] t3)) := by
  have T1 := ((C3.new w x1 y1 z1 t1).alloc (Obj.cells #[x2, y2, z2] t2)).alloc (Obj.cells #[.bool false, .slice none 0 0, .slice none 0 0] t3)
  have T2 := (C3.new (w.alloc (Obj.cells #[x1, y1, z1] t1)) x2 y2 z2 t2).alloc (Obj.cells #[.bool false, .slice none 0 0, .slice none 0 0] t3)
  have T3 := C3.new ((w.alloc (Obj.cells #[x1, y1, z1] t1)).alloc (Obj.cells #[x2, y2, z2] t2)) (.bool false) (.slice none 0 0) (.slice none 0 0) t3
  rw [show (w.alloc (Obj.cells #[x1, y1, z1] t1)).heap.size = w.heap.size + 1 by simp] at T2
  rw [show ((w.alloc (Obj.cells #[x1, y1, z1] t1)).alloc (Obj.cells #[x2, y2, z2] t2)).heap.size = w.heap.size + 2 by simp] at T3
  exact ⟨T1, T2, T3, (((Below.refl _ _).alloc (Nat.le_refl _) _).alloc (by simp) _).alloc (by simp; omega) _⟩
/-- Four cells of an older world that stay. -/
@[reducible] def SJ (w0 : World) (a1 a2 a3 a4 : Addr) (v1 v2 v3 v4 : Value) (u : World) : Prop := u.cell? a1 = some v1 ∧ u.cell? a2 = some v2 ∧ u.cell? a3 = some v3 ∧ u.cell? a4 = some v4 ∧ Hid ((w0.cell? a1 = some v1 ∧ w0.cell? a2 = some v2 ∧ w0.cell? a3 = some v3 ∧ w0.cell? a4 = some v4) ∧ Below w0.heap.size w0 u)
theorem SJ.of {w0 u : World} {a1 a2 a3 a4 : Addr} {v1 v2 v3 v4 : Value} (c : w0.cell? a1 = some v1 ∧ w0.cell? a2 = some v2 ∧ w0.cell? a3 = some v3 ∧ w0.cell? a4 = some v4) (k : Below w0.heap.size w0 u) : SJ w0 a1 a2 a3 a4 v1 v2 v3 v4 u :=
  ⟨(k.cell (World.block_lt_of_cell? _ _ c.1)).trans c.1, (k.cell (World.block_lt_of_cell? _ _ c.2.1)).trans c.2.1, (k.cell (World.block_lt_of_cell? _ _ c.2.2.1)).trans c.2.2.1, (k.cell (World.block_lt_of_cell? _ _ c.2.2.2)).trans c.2.2.2, hide ⟨c, k⟩⟩
theorem SJ.bel {w0 u : World} {a1 a2 a3 a4 : Addr} {v1 v2 v3 v4 : Value} (h : SJ w0 a1 a2 a3 a4 v1 v2 v3 v4 u) : Below w0.heap.size w0 u := (unhide h.2.2.2.2).2
theorem SJ.drew {w0 u : World} {a1 a2 a3 a4 : Addr} {v1 v2 v3 v4 : Value} (h : SJ w0 a1 a2 a3 a4 v1 v2 v3 v4 u) : SJ w0 a1 a2 a3 a4 v1 v2 v3 v4 u.drew := SJ.of (unhide h.2.2.2.2).1 h.bel.drew
theorem SJ.alloc {w0 u : World} {a1 a2 a3 a4 : Addr} {v1 v2 v3 v4 : Value} (h : SJ w0 a1 a2 a3 a4 v1 v2 v3 v4 u) (o : Obj) : SJ w0 a1 a2 a3 a4 v1 v2 v3 v4 (u.alloc o) := SJ.of (unhide h.2.2.2.2).1 (h.bel.alloc h.bel.size o)
theorem SJ.call {w0 u v : World} {a1 a2 a3 a4 : Addr} {v1 v2 v3 v4 : Value} (kb : Below u.heap.size u v) (h : SJ w0 a1 a2 a3 a4 v1 v2 v3 v4 u) : SJ w0 a1 a2 a3 a4 v1 v2 v3 v4 v := SJ.of (unhide h.2.2.2.2).1 (h.bel.trans (kb.mono h.bel.size))
theorem SJ.grown {w0 u u1 : World} {a1 a2 a3 a4 : Addr} {v1 v2 v3 v4 v : Value} {e : TypeId} {size n : Nat} {xs : List Value} (h : SJ w0 a1 a2 a3 a4 v1 v2 v3 v4 u) (ho : u.ownsRow w0.heap.size e size v n xs) (hg : u.grownBy u1 v.ownBlock) : SJ w0 a1 a2 a3 a4 v1 v2 v3 v4 u1 :=
  SJ.of (unhide h.2.2.2.2).1 (h.bel.grown hg h.bel.size (fun j hj => (ho.lt j hj).1))
theorem own_atJ {w : World} {B n cap : Nat} {oa : Option Addr} {e : TypeId} {size : Nat} {xs : List Value} (h : w.ownsRow B e size (.slice oa n cap) n xs) (h0 : 0 < n) : ∃ g, oa = some ⟨g, 0, none⟩ := by
  rcases h.2 with ⟨_, h1⟩ | ⟨g, cap', cur, hv, _⟩
  · omega
  · exact ⟨g, by cases hv; rfl⟩
theorem own_capJ {w : World} {B n cap g : Nat} {e : TypeId} {size : Nat} {xs : List Value} (h : w.ownsRow B e size (.slice (some ⟨g, 0, none⟩) n cap) n xs) : n ≤ cap := by
  rcases h.2 with ⟨h0, h1⟩ | ⟨g', cap', cur, hv, _, _, hn, _⟩
  · omega
  · cases hv; exact hn
set_option maxRecDepth 20000 in
set_option maxHeartbeats 8000000 in
theorem l6Join_c (li : Bool) (e1 e2 : Option Addr) (d1 d2 : Nat) (xs ys : List (Int × Int)) (lj : Bool) (e3 e4 : Option Addr) (d3 d4 : Nat) (xs2 ys2 : List (Int × Int)) (w : World)
    (hx : Ivs w e1 xs) (hy : Ivs w e2 ys) (hx2 : Ivs w e3 xs2) (hy2 : Ivs w e4 ys2)
    (hl0 : xs.length ≤ 1000 ∧ ys.length ≤ 1000 ∧ xs2.length ≤ 1000 ∧ ys2.length ≤ 1000) (hl : li = true → lj = true → xs.length = xs2.length ∧ ys.length = ys2.length ∧ xs.length + ys.length ≤ 7) :
    Calls Tryd.prog 62 #[.agg #[.bool li, .slice e1 xs.length d1, .slice e2 ys.length d2], .agg #[.bool lj, .slice e3 xs2.length d3, .slice e4 ys2.length d4]] w
    fun e w' => ∃ oa ca ob cb, e = .returned (.agg #[.bool (li || lj), .slice oa (jsV li lj xs ys xs2 ys2).1.length ca, .slice ob (jsV li lj xs ys xs2 ys2).2.length cb]) ∧ RowsE w' w.heap.size oa ca ob cb (jsV li lj xs ys xs2 ys2).1 (jsV li lj xs ys xs2 ys2).2 ∧ Below w.heap.size w w' := by
  have HX := hide hx
  have HY := hide hy
  have HX2 := hide hx2
  have HY2 := hide hy2
  have HL0 := hide hl0
  have HB := hide (Q6.new w (.bool li) (.slice e1 xs.length d1) (.slice e2 ys.length d2) (.bool lj) (.slice e3 xs2.length d3) (.slice e4 ys2.length d4) 43 43 43)
  clear hx hy hx2 hy2 hl0
  obtain ⟨inf, hi, hz0, hz1, hz2⟩ := info_parts ivInfo
  go_enter Tryd.func62, Tryd.ntmps62
  go_upto_region 1 with fail
  generalize ((w.alloc (Obj.cells #[.bool li, .slice e1 xs.length d1, .slice e2 ys.length d2] 43)).alloc (Obj.cells #[.bool lj, .slice e3 xs2.length d3, .slice e4 ys2.length d4] 43)).alloc (Obj.cells #[.bool false, .slice none 0 0, .slice none 0 0] 43) = u at HB ⊢
  have z3 : w.heap.size + 2 < u.heap.size := (unhide HB).2.2.1.lt
  have p0 := (unhide HB).1.1
  have p1 := (unhide HB).1.2.1
  have p2 := (unhide HB).1.2.2.1
  have q0 := (unhide HB).2.1.1
  have q1 := (unhide HB).2.1.2.1
  have q2 := (unhide HB).2.1.2.2.1
  cases li
  · go_wp2_with fail
    refine (l6Copy_c lj e3 e4 d3 d4 xs2 ys2 _ ((unhide HX2).call (unhide HB).2.2.2) ((unhide HY2).call (unhide HB).2.2.2) (by have := unhide HL0; omega)).mono ?_
    rintro e u1 ⟨oa, ca, ob, cb, rfl, hrows, kb⟩
    have HB := hide ((unhide HB).call kb)
    have HRW := hide hrows
    clear kb hrows p0 p1 p2 q0 q1 q2
    have r0 := (unhide HB).2.2.1.1
    have r1 := (unhide HB).2.2.1.2.1
    have r2 := (unhide HB).2.2.1.2.2.1
    have f0 := (unhide HB).2.2.1.2.2.2 0
    have f1 := (unhide HB).2.2.1.2.2.2 1
    have f2 := (unhide HB).2.2.1.2.2.2 2
    go_wp2
    exact bodyPost_ret (v := .agg #[.bool lj, .slice oa xs2.length ca, .slice ob ys2.length cb]) (by simp [results, Tryd.results62, go_sem, r0, r1, r2]) rfl ⟨oa, ca, ob, cb, rfl, ((((unhide HRW).set (b := w.heap.size + 2) z3).set (b := w.heap.size + 2) z3).set (b := w.heap.size + 2) z3).down (B' := w.heap.size) (by omega), (((unhide HB).2.2.2.setCell (by first | exact Nat.le_add_right _ _ | (simp; done) | (simp; omega)) _).setCell (by first | exact Nat.le_add_right _ _ | (simp; done) | (simp; omega)) _).setCell (by first | exact Nat.le_add_right _ _ | (simp; done) | (simp; omega)) _⟩
  cases lj
  · go_wp2_with fail
    refine (l6Copy_c true e1 e2 d1 d2 xs ys _ ((unhide HX).call (unhide HB).2.2.2) ((unhide HY).call (unhide HB).2.2.2) (by have := unhide HL0; omega)).mono ?_
    rintro e u1 ⟨oa, ca, ob, cb, rfl, hrows, kb⟩
    have HB := hide ((unhide HB).call kb)
    have HRW := hide hrows
    clear kb hrows p0 p1 p2 q0 q1 q2
    have r0 := (unhide HB).2.2.1.1
    have r1 := (unhide HB).2.2.1.2.1
    have r2 := (unhide HB).2.2.1.2.2.1
    have f0 := (unhide HB).2.2.1.2.2.2 0
    have f1 := (unhide HB).2.2.1.2.2.2 1
    have f2 := (unhide HB).2.2.1.2.2.2 2
    go_wp2
    exact bodyPost_ret (v := .agg #[.bool true, .slice oa xs.length ca, .slice ob ys.length cb]) (by simp [results, Tryd.results62, go_sem, r0, r1, r2]) rfl ⟨oa, ca, ob, cb, rfl, ((((unhide HRW).set (b := w.heap.size + 2) z3).set (b := w.heap.size + 2) z3).set (b := w.heap.size + 2) z3).down (B' := w.heap.size) (by omega), (((unhide HB).2.2.2.setCell (by first | exact Nat.le_add_right _ _ | (simp; done) | (simp; omega)) _).setCell (by first | exact Nat.le_add_right _ _ | (simp; done) | (simp; omega)) _).setCell (by first | exact Nat.le_add_right _ _ | (simp; done) | (simp; omega)) _⟩
  have HL := hide (hl rfl rfl)
  have hL := (hl rfl rfl).2.2
  clear hl
  have HXY := hide (show List.zipWith jm (xs ++ ys) (xs2 ++ ys2) = List.zipWith jm xs xs2 ++ List.zipWith jm ys ys2 from List.zipWith_append (unhide HL).1)
  have HXL := hide (show (List.zipWith jm xs xs2).length = xs.length ∧ (List.zipWith jm ys ys2).length = ys.length by have := unhide HL; simp; omega)
  have HJ := hide (show jsV true true xs ys xs2 ys2 = (List.zipWith jm xs xs2, List.zipWith jm ys ys2) from rfl)
  go_wp2_with fail
  refine (l6List_c true e1 e2 d1 d2 xs ys _ ((unhide HX).call (unhide HB).2.2.2) ((unhide HY).call (unhide HB).2.2.2) (by omega)).mono ?_
  rintro e u2 ⟨oa, cap, rfl, R, kb⟩
  have HR2 := hide R
  have zu2 : w.heap.size + 2 < u2.heap.size := Nat.lt_of_lt_of_le z3 kb.size
  have HB := hide ((unhide HB).call kb)
  clear R kb p0 p1 p2 q0 q1 q2 z3
  have q0 := (unhide HB).2.1.1
  have q1 := (unhide HB).2.1.2.1
  have q2 := (unhide HB).2.1.2.2.1
  go_wp2_with fail
  refine (l6List_c true e3 e4 d3 d4 xs2 ys2 _ ((unhide HX2).call (unhide HB).2.2.2) ((unhide HY2).call (unhide HB).2.2.2) (by have := unhide HL; omega)).mono ?_
  rintro e u3 ⟨ob, cap2, rfl, R, kb⟩
  have HR3 := hide R
  have HR2 := hide ((unhide HR2).call kb)
  have z3 : w.heap.size + 2 < u3.heap.size := Nat.lt_of_lt_of_le zu2 kb.size
  have HB := hide ((unhide HB).call kb)
  clear R kb q0 q1 q2 HX HY HX2 HY2 zu2
  have HN := hide (show xs.length + ys.length = (xs ++ ys).length by rw [List.length_append])
  have HM := hide (show xs.length + ys.length = (xs2 ++ ys2).length by rw [List.length_append]; have := unhide HL; omega)
  rw [show xs2.length + ys2.length = xs.length + ys.length by have := unhide HL; omega]
  generalize xs ++ ys = zs at HXY HR2 HN ⊢
  generalize xs2 ++ ys2 = zt at HXY HR3 HM ⊢
  have HLL := hide (Eq.refl (xs.length + ys.length))
  generalize hLe : xs.length + ys.length = L at hL HN HM ⊢
  have HLE := hide hLe
  clear hLe HLL
  have hL' : (L : Int) ≤ 7 := by omega
  go_wp2
  go_loopw [7, 8] (fun l i wr => ∃ (k g cap : Nat), k ≤ L ∧ i = .int .i64 k ∧ l = .slice (some ⟨g, 0, none⟩) k cap ∧ wr.ownsRow u3.heap.size 81 2 (.slice (some ⟨g, 0, none⟩) k cap) k (cellsV ((List.zipWith jm zs zt).take k)) ∧ Below u3.heap.size u3 wr) (fun _ i _ => L - (intOf i).toNat)
  case atStart => exact ⟨0, u3.heap.size, 0, Nat.zero_le _, rfl, rfl, rowV u3 u3.heap.size (Nat.le_refl _), (Below.refl _ _).alloc (Nat.le_refl _) _⟩
  case round =>
    obtain ⟨k, g, cp, hk, rfl, rfl, ho, hb⟩ := hrel
    have HO := hide ho
    have HD := hide hb
    clear ho
    by_cases hlt : k < L
    · have hk' : k < zs.length := by rw [← unhide HN]; exact hlt
      have hm' : k < zt.length := by rw [← unhide HM]; exact hlt
      rcases (unhide HR2).2 with h0 | ⟨cb, co, rfl, hc⟩
      · omega
      rcases (unhide HR3).2 with h0 | ⟨cb2, co2, rfl, hc2⟩
      · omega
      have c4 : u3.cell? ⟨cb, co + k * 2, none⟩ = some (.int .i64 zs[k].1) ∧ u3.cell? ⟨cb, co + k * 2 + 1, none⟩ = some (.int .i64 zs[k].2) ∧ u3.cell? ⟨cb2, co2 + k * 2, none⟩ = some (.int .i64 zt[k].1) ∧ u3.cell? ⟨cb2, co2 + k * 2 + 1, none⟩ = some (.int .i64 zt[k].2) := ⟨(hc k hk').1, (hc k hk').2, (hc2 k hm').1, (hc2 k hm').2⟩
      have HT := hide (jm_snoc zs zt k hk' hm')
      clear hc hc2
      have hs := SJ.of c4 hb
      clear c4 hb
      generalize zs[k].1 = x at hs HT
      generalize zs[k].2 = y at hs HT
      generalize zt[k].1 = x2 at hs HT
      generalize zt[k].2 = y2 at hs HT
      have hlt' : (k : Int) < (L : Int) := by omega
      have zw := (unhide HD).size
      go_wp2_with fail
      go_region_held3 (SJ u3 ⟨cb, co + k * 2, none⟩ ⟨cb, co + k * 2 + 1, none⟩ ⟨cb2, co2 + k * 2, none⟩ ⟨cb2, co2 + k * 2 + 1, none⟩ (.int .i64 x) (.int .i64 y) (.int .i64 x2) (.int .i64 y2))
        (first | exact SJ.drew (by assumption) | exact SJ.alloc (by assumption) _ | exact hs2 | exact hs4)
        (first
          | (go_at_call 102; refine (l2Join_c _ _ _ _ _).mono ?_; rintro e u4 ⟨rfl, kb⟩; have hs2 := SJ.call kb (SJ.drew hs); have kq := (Below.refl wr.heap.size wr).drew.trans kb)
          | (refine step_app _ (by rfl) _ _ _ (by rfl) u3.heap.size 81 inf (.agg #[.int .i64 0, .int .i64 0]) 2 16 Tryd.underlying41 hi hz0 hz1 hz2 rfl (by decide) _ _ _ (by rfl) ((own_call (unhide HO) kq).alloc _) ⟨_, 0, none⟩ 1 1 [.int .i64 (mn x x2), .int .i64 (mx y y2)] (by rfl) rfl (World.news_of_block (heap_alloc_new _ _)) (one2 _ _) (by unfold maxLen; omega) (by omega) (by have := kq.size; simp; omega) ?_; intro oa' cap' w5 hown hgrow; have hs4 := SJ.grown (SJ.alloc hs2 _) ((own_call (unhide HO) kq).alloc _) hgrow))
      rename_i hHeld
      obtain ⟨g', rfl⟩ := own_atJ hown (by omega)
      have HO5 := hide hown
      have HD5 := hide hs4.bel
      rw [unhide HT] at HO5
      clear hHeld hs hs2 hs4 hown hgrow kq kb
      go_wp2
      go_roundw
      case rel => exact ⟨k + 1, g', cap', by omega, by go_num, rfl, unhide HO5, unhide HD5⟩
      case measure => simp [intOf]; omega
    · obtain rfl : L = k := by omega
      have HOC := own_capJ (unhide HO)
      have HIV := hide (show Ivs wr (some ⟨g, 0, none⟩) (List.zipWith jm xs xs2 ++ List.zipWith jm ys ys2) by
        have h := unhide HO
        rw [List.take_of_length_le (by rw [List.length_zipWith, ← unhide HN, ← unhide HM]; omega), unhide HXY] at h
        exact (Ivs.ofOwn h (by omega)).2)
      have z5 : w.heap.size + 2 < wr.heap.size := Nat.lt_of_lt_of_le z3 hb.size
      have HB := hide ((unhide HB).call hb)
      clear hb HO HD HR2 HR3
      have p1 := (unhide HB).1.2.1
      go_wp2_with fail
      have hof := l6Of_c g cp L (List.zipWith jm xs xs2) (List.zipWith jm ys ys2) wr (unhide HIV) (by have := unhide HXL; have := unhide HLE; omega) (by have := unhide HXL; have := unhide HLE; omega) (by have := unhide HXL; have := unhide HL0; omega)
      rw [(unhide HXL).1, (unhide HXL).2] at hof
      refine hof.mono ?_
      rintro e u6 ⟨oc, cc, od, cd, rfl, hrows, kb⟩
      have HB := hide ((unhide HB).call kb)
      have HRW := hide hrows
      clear kb hrows p1 hof
      have r0 := (unhide HB).2.2.1.1
      have r1 := (unhide HB).2.2.1.2.1
      have r2 := (unhide HB).2.2.1.2.2.1
      have f0 := (unhide HB).2.2.1.2.2.2 0
      have f1 := (unhide HB).2.2.1.2.2.2 1
      have f2 := (unhide HB).2.2.1.2.2.2 2
      go_wp2
      exact bodyPost_ret (v := .agg #[.bool true, .slice oc xs.length cc, .slice od ys.length cd]) (by simp [results, Tryd.results62, go_sem, r0, r1, r2]) rfl ⟨oc, cc, od, cd, by rw [unhide HJ, (unhide HXL).1, (unhide HXL).2]; rfl, ((((unhide HRW).set (b := w.heap.size + 2) z5).set (b := w.heap.size + 2) z5).set (b := w.heap.size + 2) z5).down (B' := w.heap.size) (by omega), (((unhide HB).2.2.2.setCell (by first | exact Nat.le_add_right _ _ | (simp; done) | (simp; omega)) _).setCell (by first | exact Nat.le_add_right _ _ | (simp; done) | (simp; omega)) _).setCell (by first | exact Nat.le_add_right _ _ | (simp; done) | (simp; omega)) _⟩
end Go.Proofs.YtpdnnpnclgcpoaaDoor

/- Joined bounds: the specification's function. -/
namespace Go.Proofs.YtpdnnpnclgcpoaaDoor
open Go.RowKit
set_option linter.unusedSimpArgs false
set_option linter.unusedVariables false

theorem jn_jm (xs ys : List (Int × Int)) (h : ∀ k, (h : k < xs.length) → xs[k].1 ≤ xs[k].2) (h2 : ∀ k, (h : k < ys.length) → ys[k].1 ≤ ys[k].2) : List.zipWith jn xs ys = List.zipWith jm xs ys := by
  apply List.ext_getElem
  · simp
  · intro k k1 k2
    rw [List.length_zipWith] at k1
    rw [List.getElem_zipWith, List.getElem_zipWith]
    unfold jn jm joinL joinH
    rw [if_pos ⟨h k (by omega), h2 k (by omega)⟩, if_pos ⟨h k (by omega), h2 k (by omega)⟩]
theorem env_ivs {vs fs : List ByteArray} {rs : List (ByteArray × Int)} {li : Bool} {xs ys : List (Int × Int)} (h : envB vs fs rs li xs ys = true) (hl : li = true) : (∀ k, (h : k < xs.length) → xs[k].1 ≤ xs[k].2) ∧ (∀ k, (h : k < ys.length) → ys[k].1 ≤ ys[k].2) := by
  unfold envB at h
  rw [Bool.and_eq_true] at h
  have h2 := of_decide_eq_true h.2
  rcases h2 with ⟨h3, _⟩ | ⟨_, _, _, h5⟩
  · rw [hl] at h3; cases h3
  · refine ⟨fun k hk => ?_, fun k hk => ?_⟩
    · have q := h5 k (by rw [List.length_append]; omega)
      rw [List.getElem_append_left hk] at q
      exact q
    · have q := h5 (xs.length + k) (by rw [List.length_append]; omega)
      rw [List.getElem_append_right (by omega)] at q
      simpa using q
theorem joi_js {vs fs : List ByteArray} {rs : List (ByteArray × Int)} {li lj : Bool} {xs ys xs2 ys2 : List (Int × Int)} (h : envB vs fs rs li xs ys = true) (h2 : envB vs fs rs lj xs2 ys2 = true) : joiL vs fs rs li xs ys lj xs2 ys2 = (li || lj) ∧ joiV vs fs rs li xs ys lj xs2 ys2 = jsV li lj xs ys xs2 ys2 := by
  unfold joiL joiV
  rw [h, h2]
  refine ⟨by simp, ?_⟩
  cases li
  · simp [jsV]
  · cases lj
    · simp [jsV]
    · have a := env_ivs h rfl
      have b := env_ivs h2 rfl
      simp [jsV, jn_jm xs xs2 a.1 b.1, jn_jm ys ys2 a.2 b.2]
end Go.Proofs.YtpdnnpnclgcpoaaDoor

