/- Texts that go together: SnC, SnD, SnE. -/
import Derived.Test.YtpdnnpnclgcpoaaDoorMaZ
import Derived.Test.YtpdnnpnclgcpoaaDoorCoZ
import Derived.Test.YtpdnnpnclgcpoaaDoorNaZ
/- A new store: rows of zeros, and a row of rows of zeros. -/
namespace Go.Proofs.YtpdnnpnclgcpoaaDoor
open Go.RowKit
set_option linter.unusedSimpArgs false
set_option linter.unusedVariables false

def zI (n : Nat) : List Int := List.replicate n 0
def zB (n : Nat) : List Bool := List.replicate n false
theorem zI_len (n : Nat) : (zI n).length = n := List.length_replicate
theorem zB_len (n : Nat) : (zB n).length = n := List.length_replicate
theorem OwnI.zero {w w1 : World} {g n : Nat} (h : FillI w g (zI n) 0 w1) (hn : n ≤ 1048576) : OwnI w1 g (zI n) := by
  refine ⟨⟨by rw [zI_len]; exact hn, .inr ⟨g, 0, rfl, fun i hi => ?_⟩⟩, h.2.2.1, h.2.2.2.1⟩
  rw [Nat.zero_add, h.2.1 i hi (Nat.zero_le _)]
  simp [zI]
theorem OwnB.zero {w w1 : World} {g n : Nat} (h : FillB w g (zB n) 0 w1) (hn : n ≤ 1048576) : OwnB w1 g (zB n) := by
  refine ⟨⟨by rw [zB_len]; exact hn, .inr ⟨g, 0, rfl, fun i hi => ?_⟩⟩, h.2.2.1, h.2.2.2.1⟩
  rw [Nat.zero_add, h.2.1 i hi (Nat.zero_le _)]
  simp [zB]
theorem OwnI.bel {w w1 : World} {b B : Nat} {xs : List Int} (h : OwnI w b xs) (hb : Below B w w1) (hB : b < B) : OwnI w1 b xs :=
  ⟨h.1.to hb (fun x hx _ => by cases hx; exact hB), fun o => (hb.frozen (by exact hB)).trans (h.2.1 o), Nat.lt_of_lt_of_le h.2.2 hb.size⟩
theorem OwnB.bel {w w1 : World} {b B : Nat} {xs : List Bool} (h : OwnB w b xs) (hb : Below B w w1) (hB : b < B) : OwnB w1 b xs :=
  ⟨h.1.to hb (fun x hx _ => by cases hx; exact hB), fun o => (hb.frozen (by exact hB)).trans (h.2.1 o), Nat.lt_of_lt_of_le h.2.2 hb.size⟩
theorem C3.bel {w w1 : World} {b B : Nat} {x y z : Value} (h : C3 w b x y z) (hb : Below B w w1) (hB : b < B) : C3 w1 b x y z :=
  ⟨(hb.cell (by exact hB)).trans h.1, (hb.cell (by exact hB)).trans h.2.1, (hb.cell (by exact hB)).trans h.2.2.1, fun o => (hb.frozen (by exact hB)).trans (h.2.2.2 o)⟩
/-- What stands ahead of the rows: numbers, truths, the declaration's block and the answer's. -/
def SnG (w0 : World) (g1 g2 : Nat) (is : List Int) (bs : List Bool) (x y z : Value) (u : World) : Prop := OwnI u g1 is ∧ OwnB u g2 bs ∧ C3 u w0.heap.size x y z ∧ C3 u (w0.heap.size + 1) (.slice none 0 0) (.slice none 0 0) (.slice none 0 0) ∧ Below w0.heap.size w0 u
theorem SnG.bel {w0 u v : World} {g1 g2 B : Nat} {is : List Int} {bs : List Bool} {x y z : Value} (h : SnG w0 g1 g2 is bs x y z u) (hb : Below B u v) (h1 : g1 < B) (h2 : g2 < B) (h3 : w0.heap.size + 1 < B) : SnG w0 g1 g2 is bs x y z v :=
  ⟨h.1.bel hb h1, h.2.1.bel hb h2, h.2.2.1.bel hb (by omega), h.2.2.2.1.bel hb h3, h.2.2.2.2.trans (hb.mono (by omega))⟩
theorem SnG.set {w0 u : World} {g1 g2 c o : Nat} {is : List Int} {bs : List Bool} {x y z v : Value} (h : SnG w0 g1 g2 is bs x y z u) (h1 : c ≠ g1) (h2 : c ≠ g2) (h3 : w0.heap.size + 1 < c) : SnG w0 g1 g2 is bs x y z (u.setCell ⟨c, o, none⟩ v) :=
  ⟨h.1.set h1, h.2.1.set h2, h.2.2.1.other (by omega), h.2.2.2.1.other (by omega), h.2.2.2.2.setCell (by show w0.heap.size ≤ c; omega) _⟩
/-- Places of rows in a row. -/
def hdrs (gs : List Nat) (js : List (List Int)) : List Value := List.zipWith (fun g j => Value.slice (some ⟨g, 0, none⟩) (List.length j) (List.length j)) gs js
/-- A row of rows of the call's own. -/
def RowJ (w : World) (B T : Nat) (oc : Option Addr) (cc : Nat) (gs : List Nat) (js : List (List Int)) : Prop :=
  gs.length = js.length ∧ w.ownsRow B 31 1 (.slice oc js.length cc) js.length (hdrs gs js) ∧ (∀ b, (Value.slice oc js.length cc).ownBlock = some b → b < T) ∧ (∀ i, (h : i < gs.length) → (h2 : i < js.length) → B ≤ gs[i] ∧ gs[i] < T ∧ (Value.slice oc js.length cc).ownBlock ≠ some gs[i] ∧ OwnI w gs[i] js[i]) ∧ gs.Pairwise (· < ·) ∧ T ≤ w.heap.size
theorem RowJ.nil (w : World) (B : Nat) : RowJ w B w.heap.size none 0 [] [] := ⟨rfl, World.ownsRow_nil _ _ _ _, (fun b h => nomatch h), (fun i h _ => absurd h (Nat.not_lt_zero i)), List.Pairwise.nil, Nat.le_refl _⟩
theorem RowJ.call {w w' : World} {B T cc : Nat} {oc : Option Addr} {gs : List Nat} {js : List (List Int)} (h : RowJ w B T oc cc gs js) (hb : Below w.heap.size w w') : RowJ w' B T oc cc gs js :=
  ⟨h.1, own_call h.2.1 hb, h.2.2.1, fun i h1 h2 => ⟨(h.2.2.2.1 i h1 h2).1, (h.2.2.2.1 i h1 h2).2.1, (h.2.2.2.1 i h1 h2).2.2.1, (h.2.2.2.1 i h1 h2).2.2.2.call hb⟩, h.2.2.2.2.1, Nat.le_trans h.2.2.2.2.2 hb.size⟩
theorem RowJ.set {w : World} {B T cc c o : Nat} {oc : Option Addr} {gs : List Nat} {js : List (List Int)} {x : Value} (h : RowJ w B T oc cc gs js) (hc : c < B) : RowJ (w.setCell ⟨c, o, none⟩ x) B T oc cc gs js :=
  ⟨h.1, own_set h.2.1 hc, h.2.2.1, fun i h1 h2 => ⟨(h.2.2.2.1 i h1 h2).1, (h.2.2.2.1 i h1 h2).2.1, (h.2.2.2.1 i h1 h2).2.2.1, (h.2.2.2.1 i h1 h2).2.2.2.set (by have := (h.2.2.2.1 i h1 h2).1; omega)⟩, h.2.2.2.2.1, by simpa [World.setCell] using h.2.2.2.2.2⟩
/-- One row more: made at g, its place appended. -/
theorem RowJ.snoc {u1 u2 u3 : World} {B T cc cc' g s : Nat} {oc oc' : Option Addr} {gs : List Nat} {js : List (List Int)} (h : RowJ u1 B T oc cc gs js) (hT : T ≤ g) (hg : OwnI u1 g (zI s)) (hB : B ≤ g)
    (hb : Below u1.heap.size u1 u2) (hown : u3.ownsRow B 31 1 (.slice oc' (js.length + 1) cc') (js.length + 1) (hdrs gs js ++ [.slice (some ⟨g, 0, none⟩) s s])) (hgrow : u2.grownBy u3 (Value.slice oc js.length cc).ownBlock)
    (hloc : (Value.slice oc' (js.length + 1) cc').ownBlock = (Value.slice oc js.length cc).ownBlock ∨ (Value.slice oc' (js.length + 1) cc').ownBlock = some u2.heap.size) : RowJ u3 B u3.heap.size oc' cc' (gs ++ [g]) (js ++ [zI s]) := by
  have hz : (zI s).length = s := zI_len s
  have hgl : g < u2.heap.size := Nat.lt_of_lt_of_le hg.2.2 hb.size
  have hT2 : T ≤ u2.heap.size := Nat.le_trans h.2.2.2.2.2 hb.size
  have keep : ∀ (q : Nat) (xs : List Int), OwnI u2 q xs → (Value.slice oc js.length cc).ownBlock ≠ some q → OwnI u3 q xs := fun q xs ho hne => by
    have hbk := hgrow.block q ho.2.2 (fun e => hne e.symm)
    refine ⟨⟨ho.1.1, ?_⟩, fun o => (World.frozen?_of_block (w := u2) hbk).trans (ho.2.1 o), Nat.lt_of_lt_of_le ho.2.2 hgrow.size⟩
    rcases ho.1.2 with h0 | ⟨cb, co, he, hc⟩
    · exact .inl h0
    · obtain ⟨rfl, rfl⟩ : q = cb ∧ 0 = co := by injection he with e; injection e with e1 e2; exact ⟨e1, e2⟩
      exact .inr ⟨q, 0, rfl, fun i hi => (World.cell?_of_block (w := u2) hbk).trans (hc i hi)⟩
  have e1 : hdrs (gs ++ [g]) (js ++ [zI s]) = hdrs gs js ++ [.slice (some ⟨g, 0, none⟩) s s] := by
    unfold hdrs
    rw [List.zipWith_append h.1]
    simp [hz]
  have el : (js ++ [zI s]).length = js.length + 1 := by simp
  refine ⟨by simp [h.1], by rw [el, e1]; exact hown, fun b hb' => ?_, fun i h1 h2 => ?_, ?_, Nat.le_refl _⟩
  · rw [el] at hb'
    exact (hown.lt b hb').2
  · rw [el]
    by_cases hi : i < gs.length
    · have hj : i < js.length := by rw [← h.1]; exact hi
      have q := h.2.2.2.1 i hi hj
      rw [List.getElem_append_left hi, List.getElem_append_left hj]
      refine ⟨q.1, by have := hgrow.size; omega, fun e => ?_, keep _ _ (q.2.2.2.call hb) q.2.2.1⟩
      rcases hloc with l | l
      · exact q.2.2.1 (l.symm.trans e)
      · rw [l] at e
        have := Option.some.inj e
        omega
    · have ei : i = gs.length := by simp at h1; omega
      subst ei
      rw [List.getElem_append_right (Nat.le_refl _), List.getElem_append_right (by rw [h.1]; exact Nat.le_refl _)]
      simp only [Nat.sub_self, h.1, List.getElem_cons_zero]
      have ng : (Value.slice oc js.length cc).ownBlock ≠ some g := fun e => by have := h.2.2.1 g e; omega
      refine ⟨hB, by have := hgrow.size; omega, fun e => ?_, keep _ _ (hg.call hb) ng⟩
      rcases hloc with l | l
      · exact ng (l.symm.trans e)
      · rw [l] at e
        have := Option.some.inj e
        omega
  · rw [List.pairwise_append]
    refine ⟨h.2.2.2.2.1, List.pairwise_singleton _ _, fun a ha b hb' => ?_⟩
    simp at hb'
    subst hb'
    obtain ⟨i, hi, rfl⟩ := List.getElem_of_mem ha
    have := (h.2.2.2.1 i hi (by rw [← h.1]; exact hi)).2.1
    omega
/-- What a new store is. -/
def snI (vs fs : List ByteArray) (rs : List (ByteArray × Int)) : List Int := if declB vs fs rs = true then zI vs.length else []
def snB (vs fs : List ByteArray) (rs : List (ByteArray × Int)) : List Bool := if declB vs fs rs = true then zB fs.length else []
def rowsZ (rs : List (ByteArray × Int)) : List (List Int) := rs.map fun r => zI r.2.toNat
def snJ (vs fs : List ByteArray) (rs : List (ByteArray × Int)) : List (List Int) := if declB vs fs rs = true then rowsZ rs else []
/-- A store of the call's own. -/
def StoR (w : World) (B T : Nat) (oa ob oc : Option Addr) (cc : Nat) (is : List Int) (bs : List Bool) (js : List (List Int)) : Prop :=
  (is = [] ∧ bs = [] ∧ js = [] ∧ oc = none ∧ cc = 0) ∨ ∃ g1 g2 B1 gs, oa = some ⟨g1, 0, none⟩ ∧ ob = some ⟨g2, 0, none⟩ ∧ g1 ≠ g2 ∧ (B ≤ g1 ∧ g1 < B1) ∧ (B ≤ g2 ∧ g2 < B1) ∧ B1 ≤ T ∧ OwnI w g1 is ∧ OwnB w g2 bs ∧ RowJ w B1 T oc cc gs js
theorem sn_no {vs fs : List ByteArray} {rs : List (ByteArray × Int)} (h : declB vs fs rs = false) : snI vs fs rs = [] ∧ snB vs fs rs = [] ∧ snJ vs fs rs = [] := by
  unfold snI snB snJ; rw [h]; exact ⟨rfl, rfl, rfl⟩
theorem sn_yes {vs fs : List ByteArray} {rs : List (ByteArray × Int)} (h : declB vs fs rs = true) : snI vs fs rs = zI vs.length ∧ snB vs fs rs = zB fs.length ∧ snJ vs fs rs = rowsZ rs := by
  unfold snI snB snJ; rw [h]; exact ⟨rfl, rfl, rfl⟩
theorem rowsZ_len (rs : List (ByteArray × Int)) : (rowsZ rs).length = rs.length := by simp [rowsZ]
theorem rowsZ_take (rs : List (ByteArray × Int)) (k : Nat) (h : k < rs.length) : (rowsZ rs).take (k + 1) = (rowsZ rs).take k ++ [zI rs[k].2.toNat] := by
  rw [List.take_succ_eq_append_getElem (by rw [rowsZ_len]; exact h)]
  simp [rowsZ]
end Go.Proofs.YtpdnnpnclgcpoaaDoor

/- A new store: the program's. -/
namespace Go.Proofs.YtpdnnpnclgcpoaaDoor
open Go.RowKit
set_option linter.unusedSimpArgs false
set_option linter.unusedVariables false

/-- A struct's cells stay while a region goes on. -/
@[reducible] def SN (w0 : World) (b : Nat) (x y z : Value) (u : World) : Prop := u.cell? ⟨b, 0, none⟩ = some x ∧ u.cell? ⟨b, 1, none⟩ = some y ∧ u.cell? ⟨b, 2, none⟩ = some z ∧ Hid (C3 u b x y z ∧ Below w0.heap.size w0 u)
theorem SN.of {w0 : World} {b : Nat} {x y z : Value} (h : C3 w0 b x y z) : SN w0 b x y z w0 := ⟨h.1, h.2.1, h.2.2.1, hide ⟨h, Below.refl _ _⟩⟩
theorem SN.bel {w0 u : World} {b : Nat} {x y z : Value} (h : SN w0 b x y z u) : Below w0.heap.size w0 u := (unhide h.2.2.2).2
theorem SN.call {w0 u v : World} {b : Nat} {x y z : Value} (h : SN w0 b x y z u) (hb : Below u.heap.size u v) : SN w0 b x y z v := by
  have c := (unhide h.2.2.2).1.call hb
  exact ⟨c.1, c.2.1, c.2.2.1, hide ⟨c, h.bel.trans (hb.mono h.bel.size)⟩⟩
theorem SN.drew {w0 u : World} {b : Nat} {x y z : Value} (h : SN w0 b x y z u) : SN w0 b x y z u.drew := h.call (Below.refl _ _).drew
theorem SN.set {w0 u : World} {b c o : Nat} {x y z v : Value} (h : SN w0 b x y z u) (hb : b < w0.heap.size) (hc : w0.heap.size ≤ c) : SN w0 b x y z (u.setCell ⟨c, o, none⟩ v) := by
  have k := (unhide h.2.2.2).1.other (c := c) (o := o) (v := v) (by omega)
  exact ⟨k.1, k.2.1, k.2.2.1, hide ⟨k, h.bel.setCell (by exact hc) _⟩⟩
/-- Two cells stay. -/
@[reducible] def SZ (w0 : World) (a b : Addr) (x y : Value) (u : World) : Prop := u.cell? a = some x ∧ u.cell? b = some y ∧ Hid (w0.heap.size ≤ u.heap.size)
theorem SZ.of {w0 : World} {a b : Addr} {x y : Value} (h : w0.cell? a = some x) (h2 : w0.cell? b = some y) : SZ w0 a b x y w0 := ⟨h, h2, hide (Nat.le_refl _)⟩
theorem SZ.sz {w0 u : World} {a b : Addr} {x y : Value} (h : SZ w0 a b x y u) : w0.heap.size ≤ u.heap.size := unhide h.2.2
theorem SZ.call {w0 u v : World} {a b : Addr} {x y : Value} (h : SZ w0 a b x y u) (hb : Below u.heap.size u v) : SZ w0 a b x y v :=
  ⟨(hb.cell (World.block_lt_of_cell? _ _ h.1)).trans h.1, (hb.cell (World.block_lt_of_cell? _ _ h.2.1)).trans h.2.1, hide (Nat.le_trans h.sz hb.size)⟩
theorem SZ.drew {w0 u : World} {a b : Addr} {x y : Value} (h : SZ w0 a b x y u) : SZ w0 a b x y u.drew := h.call (Below.refl _ _).drew
theorem SZ.grown {w0 u v : World} {a b : Nat} {oa ob : Nat} {x y : Value} {row : Option Nat} (h : SZ w0 ⟨a, oa, none⟩ ⟨b, ob, none⟩ x y u) (hg : u.grownBy v row) (h1 : ∀ j, row = some j → j ≠ a ∧ j ≠ b) : SZ w0 ⟨a, oa, none⟩ ⟨b, ob, none⟩ x y v :=
  ⟨(World.cell?_of_block (w := u) (hg.block a (World.block_lt_of_cell? _ _ h.1) (fun e => (h1 a e.symm).1 rfl))).trans h.1, (World.cell?_of_block (w := u) (hg.block b (World.block_lt_of_cell? _ _ h.2.1) (fun e => (h1 b e.symm).2 rfl))).trans h.2.1, hide (Nat.le_trans h.sz hg.size)⟩
theorem SZ.set {w0 u : World} {a b c o oa ob : Nat} {x y v : Value} (h : SZ w0 ⟨a, oa, none⟩ ⟨b, ob, none⟩ x y u) (h1 : c ≠ a) (h2 : c ≠ b) : SZ w0 ⟨a, oa, none⟩ ⟨b, ob, none⟩ x y (u.setCell ⟨c, o, none⟩ v) :=
  ⟨(World.cell?_setCell_other _ _ _ _ (fun e => h1 (congrArg Addr.block e))).trans h.1, (World.cell?_setCell_other _ _ _ _ (fun e => h2 (congrArg Addr.block e))).trans h.2.1, hide (by have := h.sz; simpa [World.setCell] using this)⟩
theorem one_new (w : World) (g s : Nat) : (∀ j u, [Value.slice (some ⟨g, 0, none⟩) s s][j]? = some u → (w.alloc (Obj.cells #[.slice (some ⟨g, 0, none⟩) s s] 31)).cell? ((⟨w.heap.size, 0, none⟩ : Addr).add j) = some u) := World.news_of_block (heap_alloc_new _ _)
/-- The declaration's block and the answer's. -/
def SnB (w0 : World) (x y z : Value) (u : World) : Prop := C3 u w0.heap.size x y z ∧ C3 u (w0.heap.size + 1) (.slice none 0 0) (.slice none 0 0) (.slice none 0 0) ∧ Below w0.heap.size w0 u
theorem SnB.call {w0 u v : World} {x y z : Value} (h : SnB w0 x y z u) (hb : Below u.heap.size u v) : SnB w0 x y z v := ⟨h.1.call hb, h.2.1.call hb, h.2.2.trans (hb.mono h.2.2.size)⟩
theorem SnB.new (w : World) (x y z : Value) (t0 t1 : TypeId) : SnB w x y z ((w.alloc (Obj.cells #[x, y, z] t0)).alloc (Obj.cells #[.slice none 0 0, .slice none 0 0, .slice none 0 0] t1)) := by
  have k := C3.new (w.alloc (Obj.cells #[x, y, z] t0)) (.slice none 0 0) (.slice none 0 0) (.slice none 0 0) t1
  rw [show (w.alloc (Obj.cells #[x, y, z] t0)).heap.size = w.heap.size + 1 by simp] at k
  exact ⟨(C3.new w x y z t0).alloc _, k, ((Below.refl _ _).alloc (Nat.le_refl _) _).alloc (by simp) _⟩
theorem RowJ.up {w : World} {B T T' cc : Nat} {oc : Option Addr} {gs : List Nat} {js : List (List Int)} (h : RowJ w B T oc cc gs js) (hT : T ≤ T') (h2 : T' ≤ w.heap.size) : RowJ w B T' oc cc gs js :=
  ⟨h.1, h.2.1, fun b hb => Nat.lt_of_lt_of_le (h.2.2.1 b hb) hT, fun i h1 h2 => ⟨(h.2.2.2.1 i h1 h2).1, Nat.lt_of_lt_of_le (h.2.2.2.1 i h1 h2).2.1 hT, (h.2.2.2.1 i h1 h2).2.2⟩, h.2.2.2.2.1, h2⟩
theorem arr_at {w : World} {a : Nat} {rs : List (ByteArray × Int)} (h : Arrs w (some ⟨a, 0, none⟩) rs) (k : Nat) (hk : k < rs.length) : w.cell? ⟨a, k * 2, none⟩ = some (.string rs[k].1) ∧ w.cell? ⟨a, k * 2 + 1, none⟩ = some (.int .i64 rs[k].2) := by
  rcases h.2 with h0 | ⟨cb, co, he, hc⟩
  · omega
  · obtain ⟨rfl, rfl⟩ : a = cb ∧ 0 = co := by injection he with q; injection q with q1 q2; exact ⟨q1, q2⟩
    have := hc k hk
    rw [Nat.zero_add] at this
    exact this
theorem decl_size {vs fs : List ByteArray} {rs : List (ByteArray × Int)} (h : declB vs fs rs = true) (k : Nat) (hk : k < rs.length) : ∃ s : Nat, rs[k].2 = (s : Int) ∧ s ≤ 16 ∧ rs[k].2.toNat = s := by
  have h1 := (of_decide_eq_true h).2.2.2.1 k hk
  exact ⟨rs[k].2.toNat, by omega, by omega, rfl⟩
end Go.Proofs.YtpdnnpnclgcpoaaDoor

/- A new store: the specification's. -/
namespace Go.Proofs.YtpdnnpnclgcpoaaDoor
open Go.RowKit
set_option linter.unusedSimpArgs false
set_option linter.unusedVariables false

theorem arr_atO {w : World} {a : Option Addr} {rs : List (ByteArray × Int)} (h : Arrs w a rs) (k : Nat) (hk : k < rs.length) : ∃ cb co, a = some ⟨cb, co, none⟩ ∧ w.cell? ⟨cb, co + k * 2, none⟩ = some (.string rs[k].1) ∧ w.cell? ⟨cb, co + k * 2 + 1, none⟩ = some (.int .i64 rs[k].2) := by
 rcases h.2 with h0 | ⟨cb, co, he, hc⟩
 ·omega
 ·exact ⟨cb, co, he, hc k hk⟩
set_option maxRecDepth 20000 in
set_option maxHeartbeats 16000000 in
theorem sStoreNewN_c (a1 a2 a3 : Option Addr) (c1 c2 c3 : Nat) (vs fs : List ByteArray) (rs : List (ByteArray × Int)) (w : World) (hv : Strs w a1 vs) (hf : Strs w a2 fs) (hr : Arrs w a3 rs)
  (hz : ∀ x ∈ namesOf vs fs rs, x.size ≤ 1048576) :
  Calls Tryd.prog 50 #[.agg #[.slice a1 vs.length c1, .slice a2 fs.length c2, .slice a3 rs.length c3]] w fun e w' => ∃ oa ca ob cb oc cc, e = .returned (.agg #[.slice oa (snI vs fs rs).length ca, .slice ob (snB vs fs rs).length cb, .slice oc (snJ vs fs rs).length cc]) ∧ StoR w' w.heap.size w'.heap.size oa ob oc cc (snI vs fs rs) (snB vs fs rs) (snJ vs fs rs) ∧ Below w.heap.size w w' ∧ ca = (snI vs fs rs).length := by
 have HV := hide hv
 have HF0 := hide hf
 have HR := hide hr
 have HZ := hide hz
 have HB := hide (SnB.new w (.slice a1 vs.length c1) (.slice a2 fs.length c2) (.slice a3 rs.length c3) 27 35)
 clear hv hf hr hz
 obtain ⟨inf, hi, hz0, hz1, hz2⟩ := info_parts matInfo
 go_enter Tryd.func50, Tryd.ntmps50
 go_wp2_with fail
 generalize (w.alloc (Obj.cells #[.slice a1 vs.length c1, .slice a2 fs.length c2, .slice a3 rs.length c3] 27)).alloc (Obj.cells #[.slice none 0 0, .slice none 0 0, .slice none 0 0] 35) = u at HB ⊢
 refine (sDeclOk_c a1 a2 a3 c1 c2 c3 vs fs rs _ ((unhide HV).call (unhide HB).2.2) ((unhide HF0).call (unhide HB).2.2) ((unhide HR).call (unhide HB).2.2) (unhide HZ)).mono ?_
 rintro e u1 ⟨rfl, kb⟩
 have HB := hide ((unhide HB).call kb)
 clear kb
 cases h1 : declB vs fs rs
 ·have HN := hide (sn_no h1)
  have HRB := hide (unhide HB).2.1
  have r0 := (unhide HRB).1
  have r1 := (unhide HRB).2.1
  have r2 := (unhide HRB).2.2.1
  have f0 := (unhide HRB).2.2.2 0
  have f1 := (unhide HRB).2.2.2 1
  have f2 := (unhide HRB).2.2.2 2
  clear h1
  go_wp2
  exact bodyPost_ret (v := .agg #[.slice none 0 0, .slice none 0 0, .slice none 0 0]) (by simp [results, Tryd.results50, go_sem, r0, r1, r2]) rfl ⟨none, 0, none, 0, none, 0, by rw [(unhide HN).1, (unhide HN).2.1, (unhide HN).2.2]; rfl, by rw [(unhide HN).1, (unhide HN).2.1, (unhide HN).2.2]; exact .inl ⟨rfl, rfl, rfl, rfl, rfl⟩, (((unhide HB).2.2.setCell (by first | exact Nat.le_add_right _ _ | (simp; done) | (simp; omega)) _).setCell (by first | exact Nat.le_add_right _ _ | (simp; done) | (simp; omega)) _).setCell (by first | exact Nat.le_add_right _ _ | (simp; done) | (simp; omega)) _, by rw [(unhide HN).1]; rfl⟩
 have HYS := hide (sn_yes h1)
 have H1 := hide h1
 have HLEN := hide (declB_len h1)
 clear h1
 have hnv : vs.length ≤ 1048576 := by have := unhide HLEN; omega
 have hnf : fs.length ≤ 1048576 := by have := unhide HLEN; omega
 have lv5 : (vs.length : Int) ≤ 5 := by have := unhide HLEN; omega
 have lf3 : (fs.length : Int) ≤ 3 := by have := unhide HLEN; omega
 have lr2 : (rs.length : Int) ≤ 2 := by have := unhide HLEN; omega
 have HD := hide (unhide HB).1
 have HDL := hide (unhide HB).1.lt
 go_upto_region 3 with fail
 go_cut [3] (fun p wc => ∃ gi gf gb, p = .pointer (some ⟨gb, 0, none⟩) ∧ C3 wc gb (.slice (some ⟨gi, 0, none⟩) vs.length vs.length) (.slice (some ⟨gf, 0, none⟩) fs.length fs.length) (.slice none 0 0) ∧ OwnI wc gi (zI vs.length) ∧ OwnB wc gf (zB fs.length) ∧ gi ≠ gf ∧ gb ≠ gi ∧ gb ≠ gf ∧ u1.heap.size ≤ gi ∧ u1.heap.size ≤ gf ∧ u1.heap.size ≤ gb ∧ Below u1.heap.size u1 wc)
 case first =>
  have hk := hide (SN.drew (SN.of (unhide HD)))
  obtain ⟨wz0, hw0⟩ : ∃ x, x = u1.drew := ⟨_, rfl⟩
  rw [← hw0] at hk
  refine wp_region_held_drew (S := (SN u1 w.heap.size (.slice a1 vs.length c1) (.slice a2 fs.length c2) (.slice a3 rs.length c3))) (by kernel_rfl) (by rw [← hw0]; exact unhide hk) (fun hHeld => ?_)
  rw [← hw0] at hHeld ⊢
  clear hw0
  refine tk 0 (oi := ⟨some 9, Op.fieldAddr 27 (Operand.tmp 1) 0, 0, _, _, none⟩) (v := ?_) rfl ?_ ?_
  rotate_left
  ·(intro w hSw; (try dsimp only at hSw); go_simp; try with_reducible rfl)
  try simp only [Act.put, sa, sb, sc]
  refine tk 1 (oi := ⟨some 10, Op.load 24 (Operand.tmp 9), 24, _, _, none⟩) (v := ?_) rfl ?_ ?_
  rotate_left
  ·(intro w hSw; (try dsimp only at hSw); go_simp; try with_reducible rfl)
  try simp only [Act.put, sa, sb, sc]
  refine tk 2 (oi := ⟨some 11, Op.call { callee := Callee.builtin Builtin.len, args := #[Operand.tmp 10], argTypes := #[24] }, 3, _, _, none⟩) (v := ?_) rfl ?_ ?_
  rotate_left
  ·(intro w hSw; (try dsimp only at hSw); go_simp; try with_reducible rfl)
  try simp only [Act.put, sa, sb, sc]
  refine tk 4 (oi := ⟨some 13, Op.fieldAddr 27 (Operand.tmp 1) 1, 0, _, _, none⟩) (v := ?_) rfl ?_ ?_
  rotate_left
  ·(intro w hSw; (try dsimp only at hSw); go_simp; try with_reducible rfl)
  try simp only [Act.put, sa, sb, sc]
  refine tk 5 (oi := ⟨some 14, Op.load 24 (Operand.tmp 13), 24, _, _, none⟩) (v := ?_) rfl ?_ ?_
  rotate_left
  ·(intro w hSw; (try dsimp only at hSw); go_simp; try with_reducible rfl)
  try simp only [Act.put, sa, sb, sc]
  refine tk 6 (oi := ⟨some 15, Op.call { callee := Callee.builtin Builtin.len, args := #[Operand.tmp 14], argTypes := #[24] }, 3, _, _, none⟩) (v := ?_) rfl ?_ ?_
  rotate_left
  ·(intro w hSw; (try dsimp only at hSw); go_simp; try with_reducible rfl)
  try simp only [Act.put, sa, sb, sc]
  refine wpAnyH_ready (rs := [3, 7, 9]) (by kernel_rfl) (by simp) ?_
  refine AllReadyH.cons (i := 3) (o := ⟨some 12, Op.makeSlice 31 (Operand.tmp 11) (Operand.tmp 11), 31, _, _, none⟩) rfl (fun K hK => ?_) (AllReadyH.cons (i := 7) (o := ⟨some 16, Op.makeSlice 32 (Operand.tmp 15) (Operand.tmp 15), 32, _, _, none⟩) rfl (fun K hK => ?_) (AllReadyH.cons (i := 9) (o := ⟨some 3, Op.alloc 35, 0, _, _, none⟩) rfl (fun K hK => ?_) AllReadyH.nil))
  ·obtain ⟨wz1, hmk, hf⟩ := makeI_c vs.length hnv (zI vs.length) (zI_len _) wz0
   have ka : Below wz0.heap.size wz0 wz1 := hf.2.2.2.2.2
   have HI := OwnI.zero hf hnv
   clear hf
   have hlg : u1.heap.size ≤ wz0.heap.size := (unhide hk).bel.size
   have hk := hide ((unhide hk).call ka)
   clear ka
   go_simp
   refine hK.out _ _ (unhide hk) (fun hHeld => ?_)
   clear hK K hHeld hmk
   try simp only [Act.put, sa, sb, sc]
   have hHeld := unhide hk
   generalize wz0.heap.size = gi at HI hlg  ⊢
   have HI := hide HI
   have HLgi := hide hlg
   clear hlg
   refine wpAnyH_ready (rs := [7, 9]) (by kernel_rfl) (by simp) ?_
   refine AllReadyH.cons (i := 7) (o := ⟨some 16, Op.makeSlice 32 (Operand.tmp 15) (Operand.tmp 15), 32, _, _, none⟩) rfl (fun K hK => ?_) (AllReadyH.cons (i := 9) (o := ⟨some 3, Op.alloc 35, 0, _, _, none⟩) rfl (fun K hK => ?_) AllReadyH.nil)
   ·obtain ⟨wz2, hmk, hf⟩ := makeB_c fs.length hnf (zB fs.length) (zB_len _) wz1
    have ka : Below wz1.heap.size wz1 wz2 := hf.2.2.2.2.2
    have HF := OwnB.zero hf hnf
    clear hf
    have hlg : u1.heap.size ≤ wz1.heap.size := (unhide hk).bel.size
    have n_gi : gi < wz1.heap.size := (unhide HI).2.2
    have hk := hide ((unhide hk).call ka)
    have HI := hide ((unhide HI).call ka)
    clear ka
    go_simp
    refine hK.out _ _ (unhide hk) (fun hHeld => ?_)
    clear hK K hHeld hmk
    try simp only [Act.put, sa, sb, sc]
    have hHeld := unhide hk
    generalize wz1.heap.size = gf at HF hlg n_gi ⊢
    have HF := hide HF
    have HLgf := hide hlg
    clear hlg
    have HN_gi_gf := hide n_gi
    clear n_gi
    refine tk 8 (oi := ⟨some 17, Op.build 35 #[(0, Operand.tmp 12), (1, Operand.tmp 16)], 35, _, _, none⟩) (v := ?_) rfl ?_ ?_
    rotate_left
    ·(intro w hSw; (try dsimp only at hSw); go_simp; try with_reducible rfl)
    try simp only [Act.put, sa, sb, sc]
    refine wpAnyH_ready (rs := [9]) (by kernel_rfl) (by simp) ?_
    refine AllReadyH.cons (i := 9) (o := ⟨some 3, Op.alloc 35, 0, _, _, none⟩) rfl (fun K hK => ?_) AllReadyH.nil
    have HA := C3.new wz2 (.slice none 0 0) (.slice none 0 0) (.slice none 0 0) 35
    have ka := (Below.refl _ wz2).alloc (Nat.le_refl _) (Obj.cells #[.slice none 0 0, .slice none 0 0, .slice none 0 0] 35)
    have hlg : u1.heap.size ≤ wz2.heap.size := (unhide hk).bel.size
    have n_gi : gi < wz2.heap.size := (unhide HI).2.2
    have n_gf : gf < wz2.heap.size := (unhide HF).2.2
    have hk := hide ((unhide hk).call ka)
    have HI := hide ((unhide HI).call ka)
    have HF := hide ((unhide HF).call ka)
    clear ka
    go_simp
    refine hK.out _ _ (unhide hk) (fun hHeld => ?_)
    clear hK K hHeld
    try simp only [Act.put, sa, sb, sc]
    generalize hg : wz2.alloc (Obj.cells #[.slice none 0 0, .slice none 0 0, .slice none 0 0] 35) = wz3 at HA hk HI HF ⊢
    clear hg
    have hHeld := unhide hk
    generalize wz2.heap.size = gb at HA hlg n_gi n_gf ⊢
    have HA := hide HA
    have HLgb := hide hlg
    clear hlg
    have HN_gi_gb := hide n_gi
    clear n_gi
    have HN_gf_gb := hide n_gf
    clear n_gf
    refine wpAnyH_ready (rs := [10]) (by kernel_rfl) (by simp) ?_
    refine AllReadyH.cons (i := 10) (o := ⟨none, Op.store 35 (Operand.tmp 3) (Operand.tmp 17), 0, _, _, none⟩) rfl (fun K hK => ?_) AllReadyH.nil
    obtain ⟨c0, c1_, c2_, cf⟩ := unhide HA
    have f0 := cf 0
    have f1 := cf 1
    have f2 := cf 2
    clear cf
    go_simp
    refine hK.out _ _ ?_ (fun hHeld => ?_)
    ·exact (((unhide hk).set (unhide HDL) (unhide HLgb)).set (unhide HDL) (unhide HLgb)).set (unhide HDL) (unhide HLgb)
    clear hK K c0 c1_ c2_ f0 f1 f2 hHeld
    try simp only [Act.put, sa, sb, sc]
    refine wpAnyH_done (by kernel_rfl) ?_ _
    go_wp2_with fail
    go_meet
    exact ⟨gi, gf, gb, rfl, (((unhide HA).set0 _).set1 _).set2 _, (((unhide HI).set (Nat.ne_of_gt (unhide HN_gi_gb))).set (Nat.ne_of_gt (unhide HN_gi_gb))).set (Nat.ne_of_gt (unhide HN_gi_gb)), (((unhide HF).set (Nat.ne_of_gt (unhide HN_gf_gb))).set (Nat.ne_of_gt (unhide HN_gf_gb))).set (Nat.ne_of_gt (unhide HN_gf_gb)), (Nat.ne_of_lt (unhide HN_gi_gf)), (Nat.ne_of_gt (unhide HN_gi_gb)), (Nat.ne_of_gt (unhide HN_gf_gb)), unhide HLgi, unhide HLgf, unhide HLgb, (((unhide hk).bel.setCell (by exact unhide HLgb) _).setCell (by exact unhide HLgb) _).setCell (by exact unhide HLgb) _⟩
   ·have HA := C3.new wz1 (.slice none 0 0) (.slice none 0 0) (.slice none 0 0) 35
    have ka := (Below.refl _ wz1).alloc (Nat.le_refl _) (Obj.cells #[.slice none 0 0, .slice none 0 0, .slice none 0 0] 35)
    have hlg : u1.heap.size ≤ wz1.heap.size := (unhide hk).bel.size
    have n_gi : gi < wz1.heap.size := (unhide HI).2.2
    have hk := hide ((unhide hk).call ka)
    have HI := hide ((unhide HI).call ka)
    clear ka
    go_simp
    refine hK.out _ _ (unhide hk) (fun hHeld => ?_)
    clear hK K hHeld
    try simp only [Act.put, sa, sb, sc]
    generalize hg : wz1.alloc (Obj.cells #[.slice none 0 0, .slice none 0 0, .slice none 0 0] 35) = wz2 at HA hk HI ⊢
    clear hg
    have hHeld := unhide hk
    generalize wz1.heap.size = gb at HA hlg n_gi ⊢
    have HA := hide HA
    have HLgb := hide hlg
    clear hlg
    have HN_gi_gb := hide n_gi
    clear n_gi
    refine wpAnyH_ready (rs := [7]) (by kernel_rfl) (by simp) ?_
    refine AllReadyH.cons (i := 7) (o := ⟨some 16, Op.makeSlice 32 (Operand.tmp 15) (Operand.tmp 15), 32, _, _, none⟩) rfl (fun K hK => ?_) AllReadyH.nil
    obtain ⟨wz3, hmk, hf⟩ := makeB_c fs.length hnf (zB fs.length) (zB_len _) wz2
    have ka : Below wz2.heap.size wz2 wz3 := hf.2.2.2.2.2
    have HF := OwnB.zero hf hnf
    clear hf
    have hlg : u1.heap.size ≤ wz2.heap.size := (unhide hk).bel.size
    have n_gi : gi < wz2.heap.size := (unhide HI).2.2
    have n_gb : gb < wz2.heap.size := (unhide HA).lt
    have hk := hide ((unhide hk).call ka)
    have HI := hide ((unhide HI).call ka)
    have HA := hide ((unhide HA).call ka)
    clear ka
    go_simp
    refine hK.out _ _ (unhide hk) (fun hHeld => ?_)
    clear hK K hHeld hmk
    try simp only [Act.put, sa, sb, sc]
    have hHeld := unhide hk
    generalize wz2.heap.size = gf at HF hlg n_gi n_gb ⊢
    have HF := hide HF
    have HLgf := hide hlg
    clear hlg
    have HN_gi_gf := hide n_gi
    clear n_gi
    have HN_gb_gf := hide n_gb
    clear n_gb
    refine tk 8 (oi := ⟨some 17, Op.build 35 #[(0, Operand.tmp 12), (1, Operand.tmp 16)], 35, _, _, none⟩) (v := ?_) rfl ?_ ?_
    rotate_left
    ·(intro w hSw; (try dsimp only at hSw); go_simp; try with_reducible rfl)
    try simp only [Act.put, sa, sb, sc]
    refine wpAnyH_ready (rs := [10]) (by kernel_rfl) (by simp) ?_
    refine AllReadyH.cons (i := 10) (o := ⟨none, Op.store 35 (Operand.tmp 3) (Operand.tmp 17), 0, _, _, none⟩) rfl (fun K hK => ?_) AllReadyH.nil
    obtain ⟨c0, c1_, c2_, cf⟩ := unhide HA
    have f0 := cf 0
    have f1 := cf 1
    have f2 := cf 2
    clear cf
    go_simp
    refine hK.out _ _ ?_ (fun hHeld => ?_)
    ·exact (((unhide hk).set (unhide HDL) (unhide HLgb)).set (unhide HDL) (unhide HLgb)).set (unhide HDL) (unhide HLgb)
    clear hK K c0 c1_ c2_ f0 f1 f2 hHeld
    try simp only [Act.put, sa, sb, sc]
    refine wpAnyH_done (by kernel_rfl) ?_ _
    go_wp2_with fail
    go_meet
    exact ⟨gi, gf, gb, rfl, (((unhide HA).set0 _).set1 _).set2 _, (((unhide HI).set (Nat.ne_of_gt (unhide HN_gi_gb))).set (Nat.ne_of_gt (unhide HN_gi_gb))).set (Nat.ne_of_gt (unhide HN_gi_gb)), (((unhide HF).set (Nat.ne_of_lt (unhide HN_gb_gf))).set (Nat.ne_of_lt (unhide HN_gb_gf))).set (Nat.ne_of_lt (unhide HN_gb_gf)), (Nat.ne_of_lt (unhide HN_gi_gf)), (Nat.ne_of_gt (unhide HN_gi_gb)), (Nat.ne_of_lt (unhide HN_gb_gf)), unhide HLgi, unhide HLgf, unhide HLgb, (((unhide hk).bel.setCell (by exact unhide HLgb) _).setCell (by exact unhide HLgb) _).setCell (by exact unhide HLgb) _⟩
  ·obtain ⟨wz1, hmk, hf⟩ := makeB_c fs.length hnf (zB fs.length) (zB_len _) wz0
   have ka : Below wz0.heap.size wz0 wz1 := hf.2.2.2.2.2
   have HF := OwnB.zero hf hnf
   clear hf
   have hlg : u1.heap.size ≤ wz0.heap.size := (unhide hk).bel.size
   have hk := hide ((unhide hk).call ka)
   clear ka
   go_simp
   refine hK.out _ _ (unhide hk) (fun hHeld => ?_)
   clear hK K hHeld hmk
   try simp only [Act.put, sa, sb, sc]
   have hHeld := unhide hk
   generalize wz0.heap.size = gf at HF hlg  ⊢
   have HF := hide HF
   have HLgf := hide hlg
   clear hlg
   refine wpAnyH_ready (rs := [3, 9]) (by kernel_rfl) (by simp) ?_
   refine AllReadyH.cons (i := 3) (o := ⟨some 12, Op.makeSlice 31 (Operand.tmp 11) (Operand.tmp 11), 31, _, _, none⟩) rfl (fun K hK => ?_) (AllReadyH.cons (i := 9) (o := ⟨some 3, Op.alloc 35, 0, _, _, none⟩) rfl (fun K hK => ?_) AllReadyH.nil)
   ·obtain ⟨wz2, hmk, hf⟩ := makeI_c vs.length hnv (zI vs.length) (zI_len _) wz1
    have ka : Below wz1.heap.size wz1 wz2 := hf.2.2.2.2.2
    have HI := OwnI.zero hf hnv
    clear hf
    have hlg : u1.heap.size ≤ wz1.heap.size := (unhide hk).bel.size
    have n_gf : gf < wz1.heap.size := (unhide HF).2.2
    have hk := hide ((unhide hk).call ka)
    have HF := hide ((unhide HF).call ka)
    clear ka
    go_simp
    refine hK.out _ _ (unhide hk) (fun hHeld => ?_)
    clear hK K hHeld hmk
    try simp only [Act.put, sa, sb, sc]
    have hHeld := unhide hk
    generalize wz1.heap.size = gi at HI hlg n_gf ⊢
    have HI := hide HI
    have HLgi := hide hlg
    clear hlg
    have HN_gf_gi := hide n_gf
    clear n_gf
    refine tk 8 (oi := ⟨some 17, Op.build 35 #[(0, Operand.tmp 12), (1, Operand.tmp 16)], 35, _, _, none⟩) (v := ?_) rfl ?_ ?_
    rotate_left
    ·(intro w hSw; (try dsimp only at hSw); go_simp; try with_reducible rfl)
    try simp only [Act.put, sa, sb, sc]
    refine wpAnyH_ready (rs := [9]) (by kernel_rfl) (by simp) ?_
    refine AllReadyH.cons (i := 9) (o := ⟨some 3, Op.alloc 35, 0, _, _, none⟩) rfl (fun K hK => ?_) AllReadyH.nil
    have HA := C3.new wz2 (.slice none 0 0) (.slice none 0 0) (.slice none 0 0) 35
    have ka := (Below.refl _ wz2).alloc (Nat.le_refl _) (Obj.cells #[.slice none 0 0, .slice none 0 0, .slice none 0 0] 35)
    have hlg : u1.heap.size ≤ wz2.heap.size := (unhide hk).bel.size
    have n_gf : gf < wz2.heap.size := (unhide HF).2.2
    have n_gi : gi < wz2.heap.size := (unhide HI).2.2
    have hk := hide ((unhide hk).call ka)
    have HF := hide ((unhide HF).call ka)
    have HI := hide ((unhide HI).call ka)
    clear ka
    go_simp
    refine hK.out _ _ (unhide hk) (fun hHeld => ?_)
    clear hK K hHeld
    try simp only [Act.put, sa, sb, sc]
    generalize hg : wz2.alloc (Obj.cells #[.slice none 0 0, .slice none 0 0, .slice none 0 0] 35) = wz3 at HA hk HF HI ⊢
    clear hg
    have hHeld := unhide hk
    generalize wz2.heap.size = gb at HA hlg n_gf n_gi ⊢
    have HA := hide HA
    have HLgb := hide hlg
    clear hlg
    have HN_gf_gb := hide n_gf
    clear n_gf
    have HN_gi_gb := hide n_gi
    clear n_gi
    refine wpAnyH_ready (rs := [10]) (by kernel_rfl) (by simp) ?_
    refine AllReadyH.cons (i := 10) (o := ⟨none, Op.store 35 (Operand.tmp 3) (Operand.tmp 17), 0, _, _, none⟩) rfl (fun K hK => ?_) AllReadyH.nil
    obtain ⟨c0, c1_, c2_, cf⟩ := unhide HA
    have f0 := cf 0
    have f1 := cf 1
    have f2 := cf 2
    clear cf
    go_simp
    refine hK.out _ _ ?_ (fun hHeld => ?_)
    ·exact (((unhide hk).set (unhide HDL) (unhide HLgb)).set (unhide HDL) (unhide HLgb)).set (unhide HDL) (unhide HLgb)
    clear hK K c0 c1_ c2_ f0 f1 f2 hHeld
    try simp only [Act.put, sa, sb, sc]
    refine wpAnyH_done (by kernel_rfl) ?_ _
    go_wp2_with fail
    go_meet
    exact ⟨gi, gf, gb, rfl, (((unhide HA).set0 _).set1 _).set2 _, (((unhide HI).set (Nat.ne_of_gt (unhide HN_gi_gb))).set (Nat.ne_of_gt (unhide HN_gi_gb))).set (Nat.ne_of_gt (unhide HN_gi_gb)), (((unhide HF).set (Nat.ne_of_gt (unhide HN_gf_gb))).set (Nat.ne_of_gt (unhide HN_gf_gb))).set (Nat.ne_of_gt (unhide HN_gf_gb)), (Nat.ne_of_gt (unhide HN_gf_gi)), (Nat.ne_of_gt (unhide HN_gi_gb)), (Nat.ne_of_gt (unhide HN_gf_gb)), unhide HLgi, unhide HLgf, unhide HLgb, (((unhide hk).bel.setCell (by exact unhide HLgb) _).setCell (by exact unhide HLgb) _).setCell (by exact unhide HLgb) _⟩
   ·have HA := C3.new wz1 (.slice none 0 0) (.slice none 0 0) (.slice none 0 0) 35
    have ka := (Below.refl _ wz1).alloc (Nat.le_refl _) (Obj.cells #[.slice none 0 0, .slice none 0 0, .slice none 0 0] 35)
    have hlg : u1.heap.size ≤ wz1.heap.size := (unhide hk).bel.size
    have n_gf : gf < wz1.heap.size := (unhide HF).2.2
    have hk := hide ((unhide hk).call ka)
    have HF := hide ((unhide HF).call ka)
    clear ka
    go_simp
    refine hK.out _ _ (unhide hk) (fun hHeld => ?_)
    clear hK K hHeld
    try simp only [Act.put, sa, sb, sc]
    generalize hg : wz1.alloc (Obj.cells #[.slice none 0 0, .slice none 0 0, .slice none 0 0] 35) = wz2 at HA hk HF ⊢
    clear hg
    have hHeld := unhide hk
    generalize wz1.heap.size = gb at HA hlg n_gf ⊢
    have HA := hide HA
    have HLgb := hide hlg
    clear hlg
    have HN_gf_gb := hide n_gf
    clear n_gf
    refine wpAnyH_ready (rs := [3]) (by kernel_rfl) (by simp) ?_
    refine AllReadyH.cons (i := 3) (o := ⟨some 12, Op.makeSlice 31 (Operand.tmp 11) (Operand.tmp 11), 31, _, _, none⟩) rfl (fun K hK => ?_) AllReadyH.nil
    obtain ⟨wz3, hmk, hf⟩ := makeI_c vs.length hnv (zI vs.length) (zI_len _) wz2
    have ka : Below wz2.heap.size wz2 wz3 := hf.2.2.2.2.2
    have HI := OwnI.zero hf hnv
    clear hf
    have hlg : u1.heap.size ≤ wz2.heap.size := (unhide hk).bel.size
    have n_gf : gf < wz2.heap.size := (unhide HF).2.2
    have n_gb : gb < wz2.heap.size := (unhide HA).lt
    have hk := hide ((unhide hk).call ka)
    have HF := hide ((unhide HF).call ka)
    have HA := hide ((unhide HA).call ka)
    clear ka
    go_simp
    refine hK.out _ _ (unhide hk) (fun hHeld => ?_)
    clear hK K hHeld hmk
    try simp only [Act.put, sa, sb, sc]
    have hHeld := unhide hk
    generalize wz2.heap.size = gi at HI hlg n_gf n_gb ⊢
    have HI := hide HI
    have HLgi := hide hlg
    clear hlg
    have HN_gf_gi := hide n_gf
    clear n_gf
    have HN_gb_gi := hide n_gb
    clear n_gb
    refine tk 8 (oi := ⟨some 17, Op.build 35 #[(0, Operand.tmp 12), (1, Operand.tmp 16)], 35, _, _, none⟩) (v := ?_) rfl ?_ ?_
    rotate_left
    ·(intro w hSw; (try dsimp only at hSw); go_simp; try with_reducible rfl)
    try simp only [Act.put, sa, sb, sc]
    refine wpAnyH_ready (rs := [10]) (by kernel_rfl) (by simp) ?_
    refine AllReadyH.cons (i := 10) (o := ⟨none, Op.store 35 (Operand.tmp 3) (Operand.tmp 17), 0, _, _, none⟩) rfl (fun K hK => ?_) AllReadyH.nil
    obtain ⟨c0, c1_, c2_, cf⟩ := unhide HA
    have f0 := cf 0
    have f1 := cf 1
    have f2 := cf 2
    clear cf
    go_simp
    refine hK.out _ _ ?_ (fun hHeld => ?_)
    ·exact (((unhide hk).set (unhide HDL) (unhide HLgb)).set (unhide HDL) (unhide HLgb)).set (unhide HDL) (unhide HLgb)
    clear hK K c0 c1_ c2_ f0 f1 f2 hHeld
    try simp only [Act.put, sa, sb, sc]
    refine wpAnyH_done (by kernel_rfl) ?_ _
    go_wp2_with fail
    go_meet
    exact ⟨gi, gf, gb, rfl, (((unhide HA).set0 _).set1 _).set2 _, (((unhide HI).set (Nat.ne_of_lt (unhide HN_gb_gi))).set (Nat.ne_of_lt (unhide HN_gb_gi))).set (Nat.ne_of_lt (unhide HN_gb_gi)), (((unhide HF).set (Nat.ne_of_gt (unhide HN_gf_gb))).set (Nat.ne_of_gt (unhide HN_gf_gb))).set (Nat.ne_of_gt (unhide HN_gf_gb)), (Nat.ne_of_gt (unhide HN_gf_gi)), (Nat.ne_of_lt (unhide HN_gb_gi)), (Nat.ne_of_gt (unhide HN_gf_gb)), unhide HLgi, unhide HLgf, unhide HLgb, (((unhide hk).bel.setCell (by exact unhide HLgb) _).setCell (by exact unhide HLgb) _).setCell (by exact unhide HLgb) _⟩
  ·have HA := C3.new wz0 (.slice none 0 0) (.slice none 0 0) (.slice none 0 0) 35
   have ka := (Below.refl _ wz0).alloc (Nat.le_refl _) (Obj.cells #[.slice none 0 0, .slice none 0 0, .slice none 0 0] 35)
   have hlg : u1.heap.size ≤ wz0.heap.size := (unhide hk).bel.size
   have hk := hide ((unhide hk).call ka)
   clear ka
   go_simp
   refine hK.out _ _ (unhide hk) (fun hHeld => ?_)
   clear hK K hHeld
   try simp only [Act.put, sa, sb, sc]
   generalize hg : wz0.alloc (Obj.cells #[.slice none 0 0, .slice none 0 0, .slice none 0 0] 35) = wz1 at HA hk  ⊢
   clear hg
   have hHeld := unhide hk
   generalize wz0.heap.size = gb at HA hlg  ⊢
   have HA := hide HA
   have HLgb := hide hlg
   clear hlg
   refine wpAnyH_ready (rs := [3, 7]) (by kernel_rfl) (by simp) ?_
   refine AllReadyH.cons (i := 3) (o := ⟨some 12, Op.makeSlice 31 (Operand.tmp 11) (Operand.tmp 11), 31, _, _, none⟩) rfl (fun K hK => ?_) (AllReadyH.cons (i := 7) (o := ⟨some 16, Op.makeSlice 32 (Operand.tmp 15) (Operand.tmp 15), 32, _, _, none⟩) rfl (fun K hK => ?_) AllReadyH.nil)
   ·obtain ⟨wz2, hmk, hf⟩ := makeI_c vs.length hnv (zI vs.length) (zI_len _) wz1
    have ka : Below wz1.heap.size wz1 wz2 := hf.2.2.2.2.2
    have HI := OwnI.zero hf hnv
    clear hf
    have hlg : u1.heap.size ≤ wz1.heap.size := (unhide hk).bel.size
    have n_gb : gb < wz1.heap.size := (unhide HA).lt
    have hk := hide ((unhide hk).call ka)
    have HA := hide ((unhide HA).call ka)
    clear ka
    go_simp
    refine hK.out _ _ (unhide hk) (fun hHeld => ?_)
    clear hK K hHeld hmk
    try simp only [Act.put, sa, sb, sc]
    have hHeld := unhide hk
    generalize wz1.heap.size = gi at HI hlg n_gb ⊢
    have HI := hide HI
    have HLgi := hide hlg
    clear hlg
    have HN_gb_gi := hide n_gb
    clear n_gb
    refine wpAnyH_ready (rs := [7]) (by kernel_rfl) (by simp) ?_
    refine AllReadyH.cons (i := 7) (o := ⟨some 16, Op.makeSlice 32 (Operand.tmp 15) (Operand.tmp 15), 32, _, _, none⟩) rfl (fun K hK => ?_) AllReadyH.nil
    obtain ⟨wz3, hmk, hf⟩ := makeB_c fs.length hnf (zB fs.length) (zB_len _) wz2
    have ka : Below wz2.heap.size wz2 wz3 := hf.2.2.2.2.2
    have HF := OwnB.zero hf hnf
    clear hf
    have hlg : u1.heap.size ≤ wz2.heap.size := (unhide hk).bel.size
    have n_gb : gb < wz2.heap.size := (unhide HA).lt
    have n_gi : gi < wz2.heap.size := (unhide HI).2.2
    have hk := hide ((unhide hk).call ka)
    have HA := hide ((unhide HA).call ka)
    have HI := hide ((unhide HI).call ka)
    clear ka
    go_simp
    refine hK.out _ _ (unhide hk) (fun hHeld => ?_)
    clear hK K hHeld hmk
    try simp only [Act.put, sa, sb, sc]
    have hHeld := unhide hk
    generalize wz2.heap.size = gf at HF hlg n_gb n_gi ⊢
    have HF := hide HF
    have HLgf := hide hlg
    clear hlg
    have HN_gb_gf := hide n_gb
    clear n_gb
    have HN_gi_gf := hide n_gi
    clear n_gi
    refine tk 8 (oi := ⟨some 17, Op.build 35 #[(0, Operand.tmp 12), (1, Operand.tmp 16)], 35, _, _, none⟩) (v := ?_) rfl ?_ ?_
    rotate_left
    ·(intro w hSw; (try dsimp only at hSw); go_simp; try with_reducible rfl)
    try simp only [Act.put, sa, sb, sc]
    refine wpAnyH_ready (rs := [10]) (by kernel_rfl) (by simp) ?_
    refine AllReadyH.cons (i := 10) (o := ⟨none, Op.store 35 (Operand.tmp 3) (Operand.tmp 17), 0, _, _, none⟩) rfl (fun K hK => ?_) AllReadyH.nil
    obtain ⟨c0, c1_, c2_, cf⟩ := unhide HA
    have f0 := cf 0
    have f1 := cf 1
    have f2 := cf 2
    clear cf
    go_simp
    refine hK.out _ _ ?_ (fun hHeld => ?_)
    ·exact (((unhide hk).set (unhide HDL) (unhide HLgb)).set (unhide HDL) (unhide HLgb)).set (unhide HDL) (unhide HLgb)
    clear hK K c0 c1_ c2_ f0 f1 f2 hHeld
    try simp only [Act.put, sa, sb, sc]
    refine wpAnyH_done (by kernel_rfl) ?_ _
    go_wp2_with fail
    go_meet
    exact ⟨gi, gf, gb, rfl, (((unhide HA).set0 _).set1 _).set2 _, (((unhide HI).set (Nat.ne_of_lt (unhide HN_gb_gi))).set (Nat.ne_of_lt (unhide HN_gb_gi))).set (Nat.ne_of_lt (unhide HN_gb_gi)), (((unhide HF).set (Nat.ne_of_lt (unhide HN_gb_gf))).set (Nat.ne_of_lt (unhide HN_gb_gf))).set (Nat.ne_of_lt (unhide HN_gb_gf)), (Nat.ne_of_lt (unhide HN_gi_gf)), (Nat.ne_of_lt (unhide HN_gb_gi)), (Nat.ne_of_lt (unhide HN_gb_gf)), unhide HLgi, unhide HLgf, unhide HLgb, (((unhide hk).bel.setCell (by exact unhide HLgb) _).setCell (by exact unhide HLgb) _).setCell (by exact unhide HLgb) _⟩
   ·obtain ⟨wz2, hmk, hf⟩ := makeB_c fs.length hnf (zB fs.length) (zB_len _) wz1
    have ka : Below wz1.heap.size wz1 wz2 := hf.2.2.2.2.2
    have HF := OwnB.zero hf hnf
    clear hf
    have hlg : u1.heap.size ≤ wz1.heap.size := (unhide hk).bel.size
    have n_gb : gb < wz1.heap.size := (unhide HA).lt
    have hk := hide ((unhide hk).call ka)
    have HA := hide ((unhide HA).call ka)
    clear ka
    go_simp
    refine hK.out _ _ (unhide hk) (fun hHeld => ?_)
    clear hK K hHeld hmk
    try simp only [Act.put, sa, sb, sc]
    have hHeld := unhide hk
    generalize wz1.heap.size = gf at HF hlg n_gb ⊢
    have HF := hide HF
    have HLgf := hide hlg
    clear hlg
    have HN_gb_gf := hide n_gb
    clear n_gb
    refine wpAnyH_ready (rs := [3]) (by kernel_rfl) (by simp) ?_
    refine AllReadyH.cons (i := 3) (o := ⟨some 12, Op.makeSlice 31 (Operand.tmp 11) (Operand.tmp 11), 31, _, _, none⟩) rfl (fun K hK => ?_) AllReadyH.nil
    obtain ⟨wz3, hmk, hf⟩ := makeI_c vs.length hnv (zI vs.length) (zI_len _) wz2
    have ka : Below wz2.heap.size wz2 wz3 := hf.2.2.2.2.2
    have HI := OwnI.zero hf hnv
    clear hf
    have hlg : u1.heap.size ≤ wz2.heap.size := (unhide hk).bel.size
    have n_gb : gb < wz2.heap.size := (unhide HA).lt
    have n_gf : gf < wz2.heap.size := (unhide HF).2.2
    have hk := hide ((unhide hk).call ka)
    have HA := hide ((unhide HA).call ka)
    have HF := hide ((unhide HF).call ka)
    clear ka
    go_simp
    refine hK.out _ _ (unhide hk) (fun hHeld => ?_)
    clear hK K hHeld hmk
    try simp only [Act.put, sa, sb, sc]
    have hHeld := unhide hk
    generalize wz2.heap.size = gi at HI hlg n_gb n_gf ⊢
    have HI := hide HI
    have HLgi := hide hlg
    clear hlg
    have HN_gb_gi := hide n_gb
    clear n_gb
    have HN_gf_gi := hide n_gf
    clear n_gf
    refine tk 8 (oi := ⟨some 17, Op.build 35 #[(0, Operand.tmp 12), (1, Operand.tmp 16)], 35, _, _, none⟩) (v := ?_) rfl ?_ ?_
    rotate_left
    ·(intro w hSw; (try dsimp only at hSw); go_simp; try with_reducible rfl)
    try simp only [Act.put, sa, sb, sc]
    refine wpAnyH_ready (rs := [10]) (by kernel_rfl) (by simp) ?_
    refine AllReadyH.cons (i := 10) (o := ⟨none, Op.store 35 (Operand.tmp 3) (Operand.tmp 17), 0, _, _, none⟩) rfl (fun K hK => ?_) AllReadyH.nil
    obtain ⟨c0, c1_, c2_, cf⟩ := unhide HA
    have f0 := cf 0
    have f1 := cf 1
    have f2 := cf 2
    clear cf
    go_simp
    refine hK.out _ _ ?_ (fun hHeld => ?_)
    ·exact (((unhide hk).set (unhide HDL) (unhide HLgb)).set (unhide HDL) (unhide HLgb)).set (unhide HDL) (unhide HLgb)
    clear hK K c0 c1_ c2_ f0 f1 f2 hHeld
    try simp only [Act.put, sa, sb, sc]
    refine wpAnyH_done (by kernel_rfl) ?_ _
    go_wp2_with fail
    go_meet
    exact ⟨gi, gf, gb, rfl, (((unhide HA).set0 _).set1 _).set2 _, (((unhide HI).set (Nat.ne_of_lt (unhide HN_gb_gi))).set (Nat.ne_of_lt (unhide HN_gb_gi))).set (Nat.ne_of_lt (unhide HN_gb_gi)), (((unhide HF).set (Nat.ne_of_lt (unhide HN_gb_gf))).set (Nat.ne_of_lt (unhide HN_gb_gf))).set (Nat.ne_of_lt (unhide HN_gb_gf)), (Nat.ne_of_gt (unhide HN_gf_gi)), (Nat.ne_of_lt (unhide HN_gb_gi)), (Nat.ne_of_lt (unhide HN_gb_gf)), unhide HLgi, unhide HLgf, unhide HLgb, (((unhide hk).bel.setCell (by exact unhide HLgb) _).setCell (by exact unhide HLgb) _).setCell (by exact unhide HLgb) _⟩
 case rest =>
  obtain ⟨gi, gf, gb, rfl, hsb, hoi, hob, n1, n2, n3, l1, l2, l3, hbel⟩ := hcut
  have lw : w.heap.size + 1 < u1.heap.size := (unhide HB).2.1.lt
  have HG := hide (show SnG w gi gf (zI vs.length) (zB fs.length) (.slice a1 vs.length c1) (.slice a2 fs.length c2) (.slice a3 rs.length c3) wc from ⟨hoi, hob, (unhide HB).1.call hbel, (unhide HB).2.1.call hbel, (unhide HB).2.2.trans (hbel.mono (unhide HB).2.2.size)⟩)
  have HSB := hide hsb
  obtain ⟨B1, hB1⟩ : ∃ B, B = wc.heap.size := ⟨_, rfl⟩
  have HGB : Hid (gb < B1 ∧ gi < B1 ∧ gf < B1 ∧ w.heap.size + 1 < B1) := by rw [hB1]; exact ⟨hsb.lt, hoi.2.2, hob.2.2, (unhide HG).2.2.2.1.lt⟩
  have HGN : Hid (gb ≠ gi ∧ gb ≠ gf ∧ w.heap.size + 1 < gb ∧ gi ≠ gf ∧ w.heap.size + 1 < gi ∧ w.heap.size + 1 < gf) := ⟨n2, n3, by omega, n1, by omega, by omega⟩
  have HB0 := hide (show B1 ≤ wc.heap.size by omega)
  clear hsb hoi hob n1 n2 n3 l1 l2 l3 hbel lw hB1 HD HDL HB
  go_wp2
  go_loopw [4] (fun i wr => ∃ (J : List (List Int)) (gs : List Nat) (T : Nat) (oc : Option Addr) (cc : Nat), J.length ≤ rs.length ∧ J = (rowsZ rs).take J.length ∧ i = .int .i64 J.length ∧ C3 wr gb (.slice (some ⟨gi, 0, none⟩) vs.length vs.length) (.slice (some ⟨gf, 0, none⟩) fs.length fs.length) (.slice oc J.length cc) ∧ RowJ wr B1 T oc cc gs J ∧ SnG w gi gf (zI vs.length) (zB fs.length) (.slice a1 vs.length c1) (.slice a2 fs.length c2) (.slice a3 rs.length c3) wr ∧ B1 ≤ wr.heap.size) (fun i _ => rs.length - (intOf i).toNat)
  case atStart => exact ⟨[], [], wc.heap.size, none, 0, Nat.zero_le _, by simp, rfl, unhide HSB, RowJ.nil wc B1, unhide HG, unhide HB0⟩
  case round =>
   clear HSB HG HB0
   obtain ⟨J, gs, T, oc, cc, hJl, hJt, rfl, hsb, hrj, hg, hb1⟩ := hrel
   have HSB := hide hsb
   have HRJ := hide hrj
   have HG := hide hg
   have HJT := hide hJt
   have HB1 := hide hb1
   have HTW := hide hrj.2.2.2.2.2
   have HJL := hide (show J.length ≤ 2 by have := unhide HLEN; omega)
   clear hsb hrj hg hJt hb1
   by_cases hlt : J.length < rs.length
   ·obtain ⟨s, hs1, hs16, hs2⟩ := decl_size (unhide H1) J.length hlt
    have hs : s ≤ 1048576 := by omega
    have HJ2 := hide (rowsZ_take rs J.length hlt)
    obtain ⟨ab, ao, ea, e0, e1⟩ := arr_atO ((unhide HR).call (unhide HG).2.2.2.2) J.length hlt
    subst ea
    rw [hs1] at e1
    rw [hs2] at HJ2
    have a3l : ab < w.heap.size := by
     obtain ⟨b2, o2, eb, f0, _⟩ := arr_atO (unhide HR) J.length hlt
     cases eb
     have := World.block_lt_of_cell? _ _ f0
     exact this
    have HA3 := hide a3l
    clear a3l hs1 hs2
    have hlt' : (J.length : Int) < (rs.length : Int) := by omega
    have p2 := (unhide HG).2.2.1.2.2.1
    obtain ⟨wq, hwq⟩ : ∃ x, x = wr := ⟨_, rfl⟩
    go_upto_region 7 with fail
    rw [← hwq] at HSB HRJ HG HB1 HTW e1 p2 ⊢
    clear hwq e0
    have HKB : Hid (∀ j, (Value.slice oc J.length cc).ownBlock = some j → j ≠ w.heap.size ∧ j ≠ ab) := fun j hj => by have := ((unhide HRJ).2.1.lt j hj).1; have := unhide HGB; have := unhide HA3; omega
    have HKN : Hid (gb ≠ w.heap.size ∧ gb ≠ ab) := by have := unhide HGN; have := unhide HA3; exact ⟨by omega, by omega⟩
    have hk := hide (SZ.drew (SZ.of p2 e1))
    obtain ⟨wz0, hw0⟩ : ∃ x, x = wq.drew := ⟨_, rfl⟩
    have kd := (Below.refl wq.heap.size wq).drew
    have HSB := hide ((unhide HSB).call kd)
    have HRJ := hide ((unhide HRJ).call kd)
    have HG := hide ((unhide HG).bel kd (unhide HG).1.2.2 (unhide HG).2.1.2.2 (unhide HG).2.2.2.1.lt)
    clear kd
    rw [← hw0] at hk HSB HRJ HG
    refine wp_region_held_drew (S := (SZ wq ⟨w.heap.size, 2, none⟩ ⟨ab, ao + J.length * 2 + 1, none⟩ (.slice (some ⟨ab, ao, none⟩) rs.length c3) (.int .i64 (s : Int)))) (by kernel_rfl) (by rw [← hw0]; exact unhide hk) (fun hHeld => ?_)
    rw [← hw0] at hHeld ⊢
    clear hw0
    refine tk 0 (oi := ⟨some 25, Op.fieldAddr 35 (Operand.tmp 3) 2, 0, _, _, none⟩) (v := ?_) rfl ?_ ?_
    rotate_left
    ·(intro w hSw; (try dsimp only at hSw); go_simp; try with_reducible rfl)
    try simp only [Act.put, sa, sb, sc]
    refine tk 2 (oi := ⟨some 27, Op.fieldAddr 27 (Operand.tmp 1) 2, 0, _, _, none⟩) (v := ?_) rfl ?_ ?_
    rotate_left
    ·(intro w hSw; (try dsimp only at hSw); go_simp; try with_reducible rfl)
    try simp only [Act.put, sa, sb, sc]
    refine tk 3 (oi := ⟨some 28, Op.load 25 (Operand.tmp 27), 25, _, _, none⟩) (v := ?_) rfl ?_ ?_
    rotate_left
    ·(intro w hSw; (try dsimp only at hSw); go_simp; try with_reducible rfl)
    try simp only [Act.put, sa, sb, sc]
    refine tk 4 (oi := ⟨some 29, Op.move (Operand.tmp 4), 3, _, _, none⟩) (v := ?_) rfl ?_ ?_
    rotate_left
    ·(intro w hSw; (try dsimp only at hSw); go_simp; try with_reducible rfl)
    try simp only [Act.put, sa, sb, sc]
    refine tk 5 (oi := ⟨some 30, Op.indexAddr 25 (Operand.tmp 28) (Operand.tmp 29), 0, _, _, none⟩) (v := ?_) rfl ?_ ?_
    rotate_left
    ·(intro w hSw; (try dsimp only at hSw); go_simp; try with_reducible rfl)
    try simp only [Act.put, sa, sb, sc]
    refine tk 6 (oi := ⟨some 31, Op.fieldAddr 95 (Operand.tmp 30) 1, 0, _, _, none⟩) (v := ?_) rfl ?_ ?_
    rotate_left
    ·(intro w hSw; (try dsimp only at hSw); go_simp; try with_reducible rfl)
    try simp only [Act.put, sa, sb, sc]
    refine tk 7 (oi := ⟨some 32, Op.load 2 (Operand.tmp 31), 2, _, _, none⟩) (v := ?_) rfl ?_ ?_
    rotate_left
    ·(intro w hSw; (try dsimp only at hSw); go_simp; try with_reducible rfl)
    try simp only [Act.put, sa, sb, sc]
    refine wpAnyH_ready (rs := [1, 8]) (by kernel_rfl) (by simp) ?_
    refine AllReadyH.cons (i := 1) (o := ⟨some 26, Op.load 33 (Operand.tmp 25), 33, _, _, none⟩) rfl (fun K hK => ?_) (AllReadyH.cons (i := 8) (o := ⟨some 33, Op.makeSlice 31 (Operand.tmp 32) (Operand.tmp 32), 31, _, _, none⟩) rfl (fun K hK => ?_) AllReadyH.nil)
    ·have t2 := (unhide HSB).2.2.1
     go_simp
     refine hK.out _ _ (unhide hk) (fun hHeld => ?_)
     clear hK K t2
     try simp only [Act.put, sa, sb, sc]
     refine wpAnyH_ready (rs := [8]) (by kernel_rfl) (by simp) ?_
     refine AllReadyH.cons (i := 8) (o := ⟨some 33, Op.makeSlice 31 (Operand.tmp 32) (Operand.tmp 32), 31, _, _, none⟩) rfl (fun K hK => ?_) AllReadyH.nil
     obtain ⟨wz1, hmk, hf⟩ := makeI_c s hs (zI s) (zI_len _) wz0
     have ka : Below wz0.heap.size wz0 wz1 := hf.2.2.2.2.2
     have HI := OwnI.zero hf hs
     clear hf
     have hlg : wq.heap.size ≤ wz0.heap.size := (unhide hk).sz
     have hJ : wz0.heap.size ≤ wz0.heap.size := Nat.le_refl _
     have hk := hide ((unhide hk).call ka)
     have HSB := hide ((unhide HSB).call ka)
     have HRJ := hide ((unhide HRJ).call ka)
     have HG := hide ((unhide HG).bel ka (Nat.lt_of_lt_of_le (unhide HG).1.2.2 (Nat.le_refl _)) (unhide HG).2.1.2.2 (unhide HG).2.2.2.1.lt)
     clear ka hJ
     go_simp
     refine hK.out _ _ (unhide hk) (fun hHeld => ?_)
     clear hK K hHeld hmk
     try simp only [Act.put, sa, sb, sc]
     have hHeld := unhide hk
     generalize wz0.heap.size = gn at HI hlg ⊢
     have HI := hide HI
     have HLN := hide hlg
     clear hlg
     refine wpAnyH_ready (rs := [9]) (by kernel_rfl) (by simp) ?_
     refine AllReadyH.cons (i := 9) (o := ⟨some 34, Op.buildSlice 33 1 #[(0, Operand.tmp 33)], 33, _, _, none⟩) rfl (fun K hK => ?_) AllReadyH.nil
     have HT := And.intro (one_new wz1 gn s) True.intro
     have ka := (Below.refl _ wz1).alloc (Nat.le_refl _) (Obj.cells #[.slice (some ⟨gn, 0, none⟩) s s] 31)
     have hk := hide ((unhide hk).call ka)
     have HSB := hide ((unhide HSB).call ka)
     have HRJ := hide ((unhide HRJ).call ka)
     have HI := hide ((unhide HI).call ka)
     have HG := hide ((unhide HG).bel ka (Nat.lt_of_lt_of_le (unhide HG).1.2.2 (Nat.le_refl _)) (unhide HG).2.1.2.2 (unhide HG).2.2.2.1.lt)
     clear ka
     go_simp
     refine hK.out _ _ (unhide hk) (fun hHeld => ?_)
     clear hK K hHeld
     try simp only [Act.put, sa, sb, sc]
     generalize hg : wz1.alloc (Obj.cells #[.slice (some ⟨gn, 0, none⟩) s s] 31) = wz2 at HT hk HSB HRJ HI HG ⊢
     clear hg
     have hHeld := unhide hk
     generalize wz1.heap.size = gt at HT ⊢
     have HT := hide HT
     refine wpAnyH_ready (rs := [10]) (by kernel_rfl) (by simp) ?_
     refine AllReadyH.cons (i := 10) (o := ⟨some 35, Op.call { callee := Callee.builtin Builtin.append, args := #[Operand.tmp 26, Operand.tmp 34], argTypes := #[33, 33] }, 33, _, _, none⟩) rfl (fun K hK => ?_) AllReadyH.nil
     have hB1 : B1 ≤ wz2.heap.size := by have := unhide HB1; have := (unhide hk).sz; omega
     refine step_app2 _ (by rfl) _ _ _ (by rfl) B1 31 inf (.slice none 0 0) 1 24 Tryd.underlying33 hi hz0 hz1 hz2 rfl (by decide) _ _ _ (by rfl) (unhide HRJ).2.1 ⟨_, 0, none⟩ 1 1 [.slice (some ⟨gn, 0, none⟩) s s] (by rfl) rfl (unhide HT).1 (by intro x hx; simp at hx; subst hx; rfl) (by unfold maxLen; have := unhide HJL; omega) (by have := unhide HJL; omega) hB1 ?_
     intro oc' cc' wz3 hown hgrow hloc
     have kg : Below B1 wz2 wz3 := (Below.refl _ _).grown hgrow hB1 (fun j hj => ((unhide HRJ).2.1.lt j hj).1)
     have HRJ := hide ((unhide HRJ).snoc (Nat.le_trans (unhide HTW) (unhide HLN)) (unhide HI) (by have := unhide HLN; have := unhide HB1; omega) (Below.refl _ _) hown hgrow hloc)
     have HSB := hide ((unhide HSB).bel kg (unhide HGB).1)
     have HG := hide ((unhide HG).bel kg (unhide HGB).2.1 (unhide HGB).2.2.1 (unhide HGB).2.2.2)
     have hk := hide ((unhide hk).grown hgrow (unhide HKB))
     clear hown hgrow hloc kg hB1
     refine hK.out _ _ (unhide hk) (fun hHeld => ?_)
     clear hK K
     try simp only [Act.put, sa, sb, sc]
     refine tk 11 (oi := ⟨some 36, Op.fieldAddr 35 (Operand.tmp 3) 2, 0, _, _, none⟩) (v := ?_) rfl ?_ ?_
     rotate_left
     ·(intro w hSw; (try dsimp only at hSw); go_simp; try with_reducible rfl)
     try simp only [Act.put, sa, sb, sc]
     refine wpAnyH_ready (rs := [12]) (by kernel_rfl) (by simp) ?_
     refine AllReadyH.cons (i := 12) (o := ⟨none, Op.store 33 (Operand.tmp 36) (Operand.tmp 35), 0, _, _, none⟩) rfl (fun K hK => ?_) AllReadyH.nil
     obtain ⟨c0, c1_, c2_, cf⟩ := unhide HSB
     have f2 := cf 2
     clear cf
     go_simp
     refine hK.out _ _ ?_ (fun hHeld => ?_)
     ·exact (unhide hk).set (unhide HKN).1 (unhide HKN).2
     clear hK K c0 c1_ c2_ f2
     try simp only [Act.put, sa, sb, sc]
     refine wpAnyH_done (by kernel_rfl) ?_ _
     clear hHeld
     have HSB := hide ((unhide HSB).set2 (.slice oc' (J.length + 1) cc'))
     have HRJ := hide ((unhide HRJ).set (c := gb) (o := 2) (x := .slice oc' (J.length + 1) cc') (unhide HGB).1)
     have HG := hide ((unhide HG).set (c := gb) (o := 2) (v := .slice oc' (J.length + 1) cc') (unhide HGN).1 (unhide HGN).2.1 (unhide HGN).2.2.1)
     have hB2 : B1 ≤ (wz3.setCell ⟨gb, 2, none⟩ (.slice oc' (J.length + 1) cc')).heap.size := by have := unhide HB1; have := (unhide hk).sz; simp [World.setCell] at this ⊢; omega
     go_wp2
     go_roundw
     case rel =>
      have el : (J ++ [zI s]).length = J.length + 1 := by simp
      exact ⟨J ++ [zI s], _, _, oc', cc', by rw [el]; omega, by rw [el, unhide HJ2, ← unhide HJT], by rw [el]; go_num, by rw [el]; exact unhide HSB, unhide HRJ, unhide HG, hB2⟩
     case measure => simp [intOf]; omega
    ·obtain ⟨wz1, hmk, hf⟩ := makeI_c s hs (zI s) (zI_len _) wz0
     have ka : Below wz0.heap.size wz0 wz1 := hf.2.2.2.2.2
     have HI := OwnI.zero hf hs
     clear hf
     have hlg : wq.heap.size ≤ wz0.heap.size := (unhide hk).sz
     have hJ : wz0.heap.size ≤ wz0.heap.size := Nat.le_refl _
     have hk := hide ((unhide hk).call ka)
     have HSB := hide ((unhide HSB).call ka)
     have HRJ := hide ((unhide HRJ).call ka)
     have HG := hide ((unhide HG).bel ka (Nat.lt_of_lt_of_le (unhide HG).1.2.2 (Nat.le_refl _)) (unhide HG).2.1.2.2 (unhide HG).2.2.2.1.lt)
     clear ka hJ
     go_simp
     refine hK.out _ _ (unhide hk) (fun hHeld => ?_)
     clear hK K hHeld hmk
     try simp only [Act.put, sa, sb, sc]
     have hHeld := unhide hk
     generalize wz0.heap.size = gn at HI hlg ⊢
     have HI := hide HI
     have HLN := hide hlg
     clear hlg
     refine wpAnyH_ready (rs := [1, 9]) (by kernel_rfl) (by simp) ?_
     refine AllReadyH.cons (i := 1) (o := ⟨some 26, Op.load 33 (Operand.tmp 25), 33, _, _, none⟩) rfl (fun K hK => ?_) (AllReadyH.cons (i := 9) (o := ⟨some 34, Op.buildSlice 33 1 #[(0, Operand.tmp 33)], 33, _, _, none⟩) rfl (fun K hK => ?_) AllReadyH.nil)
     ·have t2 := (unhide HSB).2.2.1
      go_simp
      refine hK.out _ _ (unhide hk) (fun hHeld => ?_)
      clear hK K t2
      try simp only [Act.put, sa, sb, sc]
      refine wpAnyH_ready (rs := [9]) (by kernel_rfl) (by simp) ?_
      refine AllReadyH.cons (i := 9) (o := ⟨some 34, Op.buildSlice 33 1 #[(0, Operand.tmp 33)], 33, _, _, none⟩) rfl (fun K hK => ?_) AllReadyH.nil
      have HT := And.intro (one_new wz1 gn s) True.intro
      have ka := (Below.refl _ wz1).alloc (Nat.le_refl _) (Obj.cells #[.slice (some ⟨gn, 0, none⟩) s s] 31)
      have hk := hide ((unhide hk).call ka)
      have HSB := hide ((unhide HSB).call ka)
      have HRJ := hide ((unhide HRJ).call ka)
      have HI := hide ((unhide HI).call ka)
      have HG := hide ((unhide HG).bel ka (Nat.lt_of_lt_of_le (unhide HG).1.2.2 (Nat.le_refl _)) (unhide HG).2.1.2.2 (unhide HG).2.2.2.1.lt)
      clear ka
      go_simp
      refine hK.out _ _ (unhide hk) (fun hHeld => ?_)
      clear hK K hHeld
      try simp only [Act.put, sa, sb, sc]
      generalize hg : wz1.alloc (Obj.cells #[.slice (some ⟨gn, 0, none⟩) s s] 31) = wz2 at HT hk HSB HRJ HI HG ⊢
      clear hg
      have hHeld := unhide hk
      generalize wz1.heap.size = gt at HT ⊢
      have HT := hide HT
      refine wpAnyH_ready (rs := [10]) (by kernel_rfl) (by simp) ?_
      refine AllReadyH.cons (i := 10) (o := ⟨some 35, Op.call { callee := Callee.builtin Builtin.append, args := #[Operand.tmp 26, Operand.tmp 34], argTypes := #[33, 33] }, 33, _, _, none⟩) rfl (fun K hK => ?_) AllReadyH.nil
      have hB1 : B1 ≤ wz2.heap.size := by have := unhide HB1; have := (unhide hk).sz; omega
      refine step_app2 _ (by rfl) _ _ _ (by rfl) B1 31 inf (.slice none 0 0) 1 24 Tryd.underlying33 hi hz0 hz1 hz2 rfl (by decide) _ _ _ (by rfl) (unhide HRJ).2.1 ⟨_, 0, none⟩ 1 1 [.slice (some ⟨gn, 0, none⟩) s s] (by rfl) rfl (unhide HT).1 (by intro x hx; simp at hx; subst hx; rfl) (by unfold maxLen; have := unhide HJL; omega) (by have := unhide HJL; omega) hB1 ?_
      intro oc' cc' wz3 hown hgrow hloc
      have kg : Below B1 wz2 wz3 := (Below.refl _ _).grown hgrow hB1 (fun j hj => ((unhide HRJ).2.1.lt j hj).1)
      have HRJ := hide ((unhide HRJ).snoc (Nat.le_trans (unhide HTW) (unhide HLN)) (unhide HI) (by have := unhide HLN; have := unhide HB1; omega) (Below.refl _ _) hown hgrow hloc)
      have HSB := hide ((unhide HSB).bel kg (unhide HGB).1)
      have HG := hide ((unhide HG).bel kg (unhide HGB).2.1 (unhide HGB).2.2.1 (unhide HGB).2.2.2)
      have hk := hide ((unhide hk).grown hgrow (unhide HKB))
      clear hown hgrow hloc kg hB1
      refine hK.out _ _ (unhide hk) (fun hHeld => ?_)
      clear hK K
      try simp only [Act.put, sa, sb, sc]
      refine tk 11 (oi := ⟨some 36, Op.fieldAddr 35 (Operand.tmp 3) 2, 0, _, _, none⟩) (v := ?_) rfl ?_ ?_
      rotate_left
      ·(intro w hSw; (try dsimp only at hSw); go_simp; try with_reducible rfl)
      try simp only [Act.put, sa, sb, sc]
      refine wpAnyH_ready (rs := [12]) (by kernel_rfl) (by simp) ?_
      refine AllReadyH.cons (i := 12) (o := ⟨none, Op.store 33 (Operand.tmp 36) (Operand.tmp 35), 0, _, _, none⟩) rfl (fun K hK => ?_) AllReadyH.nil
      obtain ⟨c0, c1_, c2_, cf⟩ := unhide HSB
      have f2 := cf 2
      clear cf
      go_simp
      refine hK.out _ _ ?_ (fun hHeld => ?_)
      ·exact (unhide hk).set (unhide HKN).1 (unhide HKN).2
      clear hK K c0 c1_ c2_ f2
      try simp only [Act.put, sa, sb, sc]
      refine wpAnyH_done (by kernel_rfl) ?_ _
      clear hHeld
      have HSB := hide ((unhide HSB).set2 (.slice oc' (J.length + 1) cc'))
      have HRJ := hide ((unhide HRJ).set (c := gb) (o := 2) (x := .slice oc' (J.length + 1) cc') (unhide HGB).1)
      have HG := hide ((unhide HG).set (c := gb) (o := 2) (v := .slice oc' (J.length + 1) cc') (unhide HGN).1 (unhide HGN).2.1 (unhide HGN).2.2.1)
      have hB2 : B1 ≤ (wz3.setCell ⟨gb, 2, none⟩ (.slice oc' (J.length + 1) cc')).heap.size := by have := unhide HB1; have := (unhide hk).sz; simp [World.setCell] at this ⊢; omega
      go_wp2
      go_roundw
      case rel =>
       have el : (J ++ [zI s]).length = J.length + 1 := by simp
       exact ⟨J ++ [zI s], _, _, oc', cc', by rw [el]; omega, by rw [el, unhide HJ2, ← unhide HJT], by rw [el]; go_num, by rw [el]; exact unhide HSB, unhide HRJ, unhide HG, hB2⟩
      case measure => simp [intOf]; omega
     ·have HT := And.intro (one_new wz1 gn s) True.intro
      have ka := (Below.refl _ wz1).alloc (Nat.le_refl _) (Obj.cells #[.slice (some ⟨gn, 0, none⟩) s s] 31)
      have hk := hide ((unhide hk).call ka)
      have HSB := hide ((unhide HSB).call ka)
      have HRJ := hide ((unhide HRJ).call ka)
      have HI := hide ((unhide HI).call ka)
      have HG := hide ((unhide HG).bel ka (Nat.lt_of_lt_of_le (unhide HG).1.2.2 (Nat.le_refl _)) (unhide HG).2.1.2.2 (unhide HG).2.2.2.1.lt)
      clear ka
      go_simp
      refine hK.out _ _ (unhide hk) (fun hHeld => ?_)
      clear hK K hHeld
      try simp only [Act.put, sa, sb, sc]
      generalize hg : wz1.alloc (Obj.cells #[.slice (some ⟨gn, 0, none⟩) s s] 31) = wz2 at HT hk HSB HRJ HI HG ⊢
      clear hg
      have hHeld := unhide hk
      generalize wz1.heap.size = gt at HT ⊢
      have HT := hide HT
      refine wpAnyH_ready (rs := [1]) (by kernel_rfl) (by simp) ?_
      refine AllReadyH.cons (i := 1) (o := ⟨some 26, Op.load 33 (Operand.tmp 25), 33, _, _, none⟩) rfl (fun K hK => ?_) AllReadyH.nil
      have t2 := (unhide HSB).2.2.1
      go_simp
      refine hK.out _ _ (unhide hk) (fun hHeld => ?_)
      clear hK K t2
      try simp only [Act.put, sa, sb, sc]
      refine wpAnyH_ready (rs := [10]) (by kernel_rfl) (by simp) ?_
      refine AllReadyH.cons (i := 10) (o := ⟨some 35, Op.call { callee := Callee.builtin Builtin.append, args := #[Operand.tmp 26, Operand.tmp 34], argTypes := #[33, 33] }, 33, _, _, none⟩) rfl (fun K hK => ?_) AllReadyH.nil
      have hB1 : B1 ≤ wz2.heap.size := by have := unhide HB1; have := (unhide hk).sz; omega
      refine step_app2 _ (by rfl) _ _ _ (by rfl) B1 31 inf (.slice none 0 0) 1 24 Tryd.underlying33 hi hz0 hz1 hz2 rfl (by decide) _ _ _ (by rfl) (unhide HRJ).2.1 ⟨_, 0, none⟩ 1 1 [.slice (some ⟨gn, 0, none⟩) s s] (by rfl) rfl (unhide HT).1 (by intro x hx; simp at hx; subst hx; rfl) (by unfold maxLen; have := unhide HJL; omega) (by have := unhide HJL; omega) hB1 ?_
      intro oc' cc' wz3 hown hgrow hloc
      have kg : Below B1 wz2 wz3 := (Below.refl _ _).grown hgrow hB1 (fun j hj => ((unhide HRJ).2.1.lt j hj).1)
      have HRJ := hide ((unhide HRJ).snoc (Nat.le_trans (unhide HTW) (unhide HLN)) (unhide HI) (by have := unhide HLN; have := unhide HB1; omega) (Below.refl _ _) hown hgrow hloc)
      have HSB := hide ((unhide HSB).bel kg (unhide HGB).1)
      have HG := hide ((unhide HG).bel kg (unhide HGB).2.1 (unhide HGB).2.2.1 (unhide HGB).2.2.2)
      have hk := hide ((unhide hk).grown hgrow (unhide HKB))
      clear hown hgrow hloc kg hB1
      refine hK.out _ _ (unhide hk) (fun hHeld => ?_)
      clear hK K
      try simp only [Act.put, sa, sb, sc]
      refine tk 11 (oi := ⟨some 36, Op.fieldAddr 35 (Operand.tmp 3) 2, 0, _, _, none⟩) (v := ?_) rfl ?_ ?_
      rotate_left
      ·(intro w hSw; (try dsimp only at hSw); go_simp; try with_reducible rfl)
      try simp only [Act.put, sa, sb, sc]
      refine wpAnyH_ready (rs := [12]) (by kernel_rfl) (by simp) ?_
      refine AllReadyH.cons (i := 12) (o := ⟨none, Op.store 33 (Operand.tmp 36) (Operand.tmp 35), 0, _, _, none⟩) rfl (fun K hK => ?_) AllReadyH.nil
      obtain ⟨c0, c1_, c2_, cf⟩ := unhide HSB
      have f2 := cf 2
      clear cf
      go_simp
      refine hK.out _ _ ?_ (fun hHeld => ?_)
      ·exact (unhide hk).set (unhide HKN).1 (unhide HKN).2
      clear hK K c0 c1_ c2_ f2
      try simp only [Act.put, sa, sb, sc]
      refine wpAnyH_done (by kernel_rfl) ?_ _
      clear hHeld
      have HSB := hide ((unhide HSB).set2 (.slice oc' (J.length + 1) cc'))
      have HRJ := hide ((unhide HRJ).set (c := gb) (o := 2) (x := .slice oc' (J.length + 1) cc') (unhide HGB).1)
      have HG := hide ((unhide HG).set (c := gb) (o := 2) (v := .slice oc' (J.length + 1) cc') (unhide HGN).1 (unhide HGN).2.1 (unhide HGN).2.2.1)
      have hB2 : B1 ≤ (wz3.setCell ⟨gb, 2, none⟩ (.slice oc' (J.length + 1) cc')).heap.size := by have := unhide HB1; have := (unhide hk).sz; simp [World.setCell] at this ⊢; omega
      go_wp2
      go_roundw
      case rel =>
       have el : (J ++ [zI s]).length = J.length + 1 := by simp
       exact ⟨J ++ [zI s], _, _, oc', cc', by rw [el]; omega, by rw [el, unhide HJ2, ← unhide HJT], by rw [el]; go_num, by rw [el]; exact unhide HSB, unhide HRJ, unhide HG, hB2⟩
      case measure => simp [intOf]; omega
   ·have ej : J = rowsZ rs := by have h := unhide HJT; rw [h, List.take_of_length_le (by rw [rowsZ_len]; omega)]
    have HE := hide ej
    clear ej
    have hlt' : ¬ ((J.length : Int) < (rs.length : Int)) := by omega
    have p2 := (unhide HG).2.2.1.2.2.1
    have y0 := (unhide HSB).1
    have y1 := (unhide HSB).2.1
    have y2 := (unhide HSB).2.2.1
    have HRB := hide (unhide HG).2.2.2.1
    have r0 := (unhide HRB).1
    have r1 := (unhide HRB).2.1
    have r2 := (unhide HRB).2.2.1
    have f0 := (unhide HRB).2.2.2 0
    have f1 := (unhide HRB).2.2.2 1
    have f2 := (unhide HRB).2.2.2 2
    go_wp2
    exact bodyPost_ret (v := .agg #[.slice (some ⟨gi, 0, none⟩) vs.length vs.length, .slice (some ⟨gf, 0, none⟩) fs.length fs.length, .slice oc J.length cc]) (by simp [results, Tryd.results50, go_sem, r0, r1, r2]) rfl ⟨some ⟨gi, 0, none⟩, vs.length, some ⟨gf, 0, none⟩, fs.length, oc, cc, by rw [(unhide HYS).1, (unhide HYS).2.1, (unhide HYS).2.2, zI_len, zB_len, ← unhide HE], by
     rw [(unhide HYS).1, (unhide HYS).2.1, (unhide HYS).2.2, ← unhide HE]
     have b := unhide HGB
     have n := unhide HGN
     refine .inr ⟨gi, gf, B1, gs, rfl, rfl, n.2.2.2.1, ⟨by omega, b.2.1⟩, ⟨by omega, b.2.2.1⟩, ?_, (((unhide HG).1.set (c := w.heap.size + 1) ?_).set (c := w.heap.size + 1) ?_).set (c := w.heap.size + 1) ?_, (((unhide HG).2.1.set (c := w.heap.size + 1) ?_).set (c := w.heap.size + 1) ?_).set (c := w.heap.size + 1) ?_, ((((unhide HRJ).set (c := w.heap.size + 1) ?_).set (c := w.heap.size + 1) ?_).set (c := w.heap.size + 1) ?_).up ?_ (Nat.le_refl _)⟩
     all_goals first | omega | (have := unhide HB1; have := unhide HTW; simp [World.setCell]; omega), (((unhide HG).2.2.2.2.setCell (by first | exact Nat.le_add_right _ _ | (simp; done) | (simp; omega)) _).setCell (by first | exact Nat.le_add_right _ _ | (simp; done) | (simp; omega)) _).setCell (by first | exact Nat.le_add_right _ _ | (simp; done) | (simp; omega)) _, by rw [(unhide HYS).1, zI_len]⟩
theorem sStoreNew_c (a1 a2 a3 : Option Addr) (c1 c2 c3 : Nat) (vs fs : List ByteArray) (rs : List (ByteArray × Int)) (w : World) (hv : Strs w a1 vs) (hf : Strs w a2 fs) (hr : Arrs w a3 rs)
  (hz : ∀ x ∈ namesOf vs fs rs, x.size ≤ 1048576) :
  Calls Tryd.prog 50 #[.agg #[.slice a1 vs.length c1, .slice a2 fs.length c2, .slice a3 rs.length c3]] w fun e w' => ∃ oa ca ob cb oc cc, e = .returned (.agg #[.slice oa (snI vs fs rs).length ca, .slice ob (snB vs fs rs).length cb, .slice oc (snJ vs fs rs).length cc]) ∧ StoR w' w.heap.size w'.heap.size oa ob oc cc (snI vs fs rs) (snB vs fs rs) (snJ vs fs rs) ∧ Below w.heap.size w w' :=
 (sStoreNewN_c a1 a2 a3 c1 c2 c3 vs fs rs w hv hf hr hz).mono fun e w' ⟨oa, ca, ob, cb, oc, cc, h1, h2, h3, _⟩ => ⟨oa, ca, ob, cb, oc, cc, h1, h2, h3⟩
end Go.Proofs.YtpdnnpnclgcpoaaDoor

