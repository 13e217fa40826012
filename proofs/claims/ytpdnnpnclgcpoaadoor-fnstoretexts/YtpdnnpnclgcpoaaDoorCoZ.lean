/- Texts that go together: CopC, CopD. -/
import Derived.Test.YtpdnnpnclgcpoaaDoorMaZ
import Derived.Test.YtpdnnpnclgcpoaaDoorLeZ
/- Copies of bounds: rows of the call's own. -/
namespace Go.Proofs.YtpdnnpnclgcpoaaDoor
open Go.RowKit
set_option linter.unusedSimpArgs false
set_option linter.unusedVariables false

theorem own_call {w w' : World} {B : Nat} {e : TypeId} {k : Nat} {v : Value} {n : Nat} {xs : List Value} (h : w.ownsRow B e k v n xs) (hb : Below w.heap.size w w') : w'.ownsRow B e k v n xs := by
  refine ⟨h.1, ?_⟩
  rcases h.2 with h0 | ⟨g, cap, cur, hv, hB, hg, r⟩
  · exact .inl h0
  · refine .inr ⟨g, cap, cur, hv, hB, (hb.block g ?_).trans hg, r⟩
    have := (h.lt g (by rw [hv]; rfl)).2
    exact this
theorem own_set {w : World} {B b o : Nat} {e : TypeId} {k : Nat} {v x : Value} {n : Nat} {xs : List Value} (h : w.ownsRow B e k v n xs) (hb : b < B) : (w.setCell ⟨b, o, none⟩ x).ownsRow B e k v n xs := ownsRow_setCell_below h (a := ⟨b, o, none⟩) hb x
theorem own_down {w : World} {B B' : Nat} {e : TypeId} {k : Nat} {v : Value} {n : Nat} {xs : List Value} (h : w.ownsRow B e k v n xs) (hb : B' ≤ B) : w.ownsRow B' e k v n xs := by
  refine ⟨h.1, ?_⟩
  rcases h.2 with h0 | ⟨g, cap, cur, hv, hB, r⟩
  · exact .inl h0
  · exact .inr ⟨g, cap, cur, hv, Nat.le_trans hb hB, r⟩
/-- The rows of bounds that a call made. -/
def RowsE (w : World) (B : Nat) (oa : Option Addr) (ca : Nat) (ob : Option Addr) (cb : Nat) (xs ys : List (Int × Int)) : Prop :=
  w.ownsRow B 81 2 (.slice oa xs.length ca) xs.length (cellsV xs) ∧ w.ownsRow B 81 2 (.slice ob ys.length cb) ys.length (cellsV ys) ∧ Apart oa ob
theorem RowsE.call {w w' : World} {B ca cb : Nat} {oa ob : Option Addr} {xs ys : List (Int × Int)} (h : RowsE w B oa ca ob cb xs ys) (hb : Below w.heap.size w w') : RowsE w' B oa ca ob cb xs ys := ⟨own_call h.1 hb, own_call h.2.1 hb, h.2.2⟩
theorem RowsE.set {w : World} {B ca cb b o : Nat} {oa ob : Option Addr} {xs ys : List (Int × Int)} {x : Value} (h : RowsE w B oa ca ob cb xs ys) (hb : b < B) : RowsE (w.setCell ⟨b, o, none⟩ x) B oa ca ob cb xs ys := ⟨own_set h.1 hb, own_set h.2.1 hb, h.2.2⟩
theorem RowsE.down {w : World} {B B' ca cb : Nat} {oa ob : Option Addr} {xs ys : List (Int × Int)} (h : RowsE w B oa ca ob cb xs ys) (hb : B' ≤ B) : RowsE w B' oa ca ob cb xs ys := ⟨own_down h.1 hb, own_down h.2.1 hb, h.2.2⟩
theorem RowsE.ivs {w : World} {B ca cb : Nat} {oa ob : Option Addr} {xs ys : List (Int × Int)} (h : RowsE w B oa ca ob cb xs ys) (hl : xs.length ≤ 1048576 ∧ ys.length ≤ 1048576) : Ivs w oa xs ∧ Ivs w ob ys := ⟨(Ivs.ofOwn h.1 hl.1).2, (Ivs.ofOwn h.2.1 hl.2).2⟩
/-- What stays while a copy is made. -/
@[reducible] def SK (w0 : World) (b : Nat) (x y z : Value) (u : World) : Prop := u.cell? ⟨b, 0, none⟩ = some x ∧ u.cell? ⟨b, 1, none⟩ = some y ∧ u.cell? ⟨b, 2, none⟩ = some z ∧ Hid (C3 u b x y z ∧ Below w0.heap.size w0 u ∧ w0.heap.size + 1 ≤ u.heap.size)
theorem SK.of {w0 u : World} {b : Nat} {x y z : Value} (h : C3 u b x y z) (k : Below w0.heap.size w0 u) (s : w0.heap.size + 1 ≤ u.heap.size) : SK w0 b x y z u := ⟨h.1, h.2.1, h.2.2.1, h, k, s⟩
theorem SK.out {w0 u : World} {b : Nat} {x y z : Value} (h : SK w0 b x y z u) : C3 u b x y z ∧ Below w0.heap.size w0 u ∧ w0.heap.size + 1 ≤ u.heap.size := unhide h.2.2.2
theorem SK.drew {w0 u : World} {b : Nat} {x y z : Value} (h : SK w0 b x y z u) : SK w0 b x y z u.drew := SK.of (h.out.1.call (Below.refl _ _).drew) h.out.2.1.drew h.out.2.2
theorem SK.alloc {w0 u : World} {b : Nat} {x y z : Value} (h : SK w0 b x y z u) (o : Obj) : SK w0 b x y z (u.alloc o) := SK.of (h.out.1.alloc o) (h.out.2.1.alloc h.out.2.1.size o) (by simp; have := h.out.2.2; omega)
theorem SK.grown {w0 u v : World} {b : Nat} {x y z : Value} {row : Option Nat} (h : SK w0 b x y z u) (hg : u.grownBy v row) (hr : ∀ j, row = some j → w0.heap.size ≤ j ∧ j ≠ b) : SK w0 b x y z v :=
  SK.of (h.out.1.grown hg (fun e => (hr b e.symm).2 rfl)) (h.out.2.1.grown hg h.out.2.1.size (fun j hj => (hr j hj).1)) (Nat.le_trans h.out.2.2 hg.size)
theorem SK.set {w0 u : World} {b c o : Nat} {x y z v : Value} (h : SK w0 b x y z u) (hc : w0.heap.size ≤ c) (hne : c ≠ b) : SK w0 b x y z (u.setCell ⟨c, o, none⟩ v) :=
  SK.of (h.out.1.other hne) (h.out.2.1.setCell hc _) (by rw [size_setCell]; exact h.out.2.2)
set_option maxRecDepth 20000 in
set_option maxHeartbeats 4000000 in
theorem copied_c (b : Nat) (li : Bool) (e1 e2 : Option Addr) (d1 d2 : Nat) (xs ys : List (Int × Int)) (w : World) (ht : C3 w b (.bool li) (.slice e1 xs.length d1) (.slice e2 ys.length d2)) (hx : Ivs w e1 xs) (hy : Ivs w e2 ys) (hl : xs.length ≤ 1000 ∧ ys.length ≤ 1000) :
    Calls Tryd.prog 120 #[.pointer (some ⟨b, 0, none⟩)] w fun e w' => ∃ oa ca ob cb, e = .returned (.agg #[.bool li, .slice oa xs.length ca, .slice ob ys.length cb]) ∧ RowsE w' w.heap.size oa ca ob cb xs ys ∧ Below w.heap.size w w' := by
  have HX := hide hx
  have HY := hide hy
  have hbl := ht.lt
  have HR0 := hide (C3.new w (.bool false) (.slice none 0 0) (.slice none 0 0) 43)
  have hs := SK.of (w0 := w) (ht.alloc (Obj.cells #[.bool false, .slice none 0 0, .slice none 0 0] 43)) ((Below.refl _ _).alloc (Nat.le_refl _) _) (by simp)
  have HS := hide hs
  clear hx hy ht hs
  obtain ⟨inf, hi, hz0, hz1, hz2⟩ := info_parts ivInfo
  go_enter Tryd.func120, Tryd.ntmps120
  go_wp2_with fail
  generalize w.alloc (Obj.cells #[.bool false, .slice none 0 0, .slice none 0 0] 43) = u at HR0 HS ⊢
  have hs := unhide HS
  go_region_held3 (SK w b (.bool li) (.slice e1 xs.length d1) (.slice e2 ys.length d2))
    (first | exact SK.drew (by assumption) | exact hs2 | exact hs3 | exact SK.set (SK.set (SK.set hs3 (Nat.le_refl _) (by omega)) (Nat.le_refl _) (by omega)) (Nat.le_refl _) (by omega))
    (first
      | (refine step_appO _ (by rfl) _ _ _ (by rfl) (w.heap.size + 1) 81 inf (.agg #[.int .i64 0, .int .i64 0]) 2 16 Tryd.underlying41 hi hz0 hz1 hz2 rfl (by decide) (.slice none 0 0) 0 [] (by rfl) (World.ownsRow_nil _ _ _ _) e1 xs.length d1 (cellsV xs) (by rfl) (cellsV_len _) (((unhide HX).call hs.drew.out.2.1).news) (cellsV_one _) (by unfold maxLen; omega) (by omega) (by exact hs.drew.out.2.2) ?_; intro oa ca w1 hown hgrow; have hs2 := SK.grown hs.drew hgrow (fun j hj => by cases hj); have hr1 := ((unhide HR0).call (Below.refl _ _).drew).grown hgrow (fun e => by cases e))
      | (refine step_appO _ (by rfl) _ _ _ (by rfl) w1.heap.size 81 inf (.agg #[.int .i64 0, .int .i64 0]) 2 16 Tryd.underlying41 hi hz0 hz1 hz2 rfl (by decide) (.slice none 0 0) 0 [] (by rfl) (World.ownsRow_nil _ _ _ _) e2 ys.length d2 (cellsV ys) (by rfl) (cellsV_len _) (((unhide HY).call hs2.out.2.1).news) (cellsV_one _) (by unfold maxLen; omega) (by omega) (Nat.le_refl _) ?_; intro ob cb w2 hown2 hgrow2; have hs3 := SK.grown hs2 hgrow2 (fun j hj => by cases hj); have hr2 := hr1.grown hgrow2 (fun e => by cases e); have q0 := hr2.1; have q1 := hr2.2.1; have q2 := hr2.2.2.1; have f0 := hr2.2.2.2 0; have f1 := hr2.2.2.2 1; have f2 := hr2.2.2.2 2))
  rename_i hHeld
  have HW := hide (show RowsE w2 (w.heap.size + 1) oa ca ob cb xs ys by
    rw [Nat.zero_add, List.nil_append] at hown hown2
    have k1 : w2.ownsRow (w.heap.size + 1) 81 2 (.slice oa xs.length ca) xs.length (cellsV xs) := hown.kept hgrow2 (by cases hq : (Value.slice oa xs.length ca).ownBlock with | none => exact .inl rfl | some j => exact .inr (by simp [Value.ownBlock]))
    have z1 : w.heap.size + 1 ≤ w1.heap.size := hs2.out.2.2
    refine ⟨k1, own_down hown2 z1, ?_⟩
    intro x y hx hy
    subst hx hy
    have l1 := (hown.lt x.block rfl).2
    have l2 := (hown2.lt y.block rfl).1
    omega)
  have HB := hide hHeld.out.2.1
  clear hHeld hs hs2 hs3 hr1 hr2 hown hown2 hgrow hgrow2 HS HR0
  go_wp2
  exact bodyPost_ret (v := .agg #[.bool li, .slice oa xs.length ca, .slice ob ys.length cb]) (by simp [results, Tryd.results120, go_sem, q0, q1, q2]) rfl ⟨oa, ca, ob, cb, rfl, ((((unhide HW).set (by omega)).set (by omega)).set (by omega)).down (by omega), unhide HB⟩
end Go.Proofs.YtpdnnpnclgcpoaaDoor

/- Copies of bounds, as the specification makes them. -/
namespace Go.Proofs.YtpdnnpnclgcpoaaDoor
open Go.RowKit
set_option linter.unusedSimpArgs false
set_option linter.unusedVariables false

section
variable {P : Program} (w : World)
theorem wp_app2 {o : Oper} {a : Act} {K : Act → World → Prop} {Q : Exit → Act → World → Prop} (s x : Operand) (t : TypeId)
    (ho : o.op = .call { callee := .builtin .append, args := #[s, x], argTypes := #[t, t] })
    (base : Nat) (e : TypeId) (i : TypeInfo) (z : Value) (size bytes : Nat) (ht : P.underlying t = some (.slice e)) (hi : P.info? e = some i) (hz : i.zero = some z)
    (hsize : i.size = size) (hby : i.bytes = bytes) (hzs : z.cells.size = size) (hsz : 0 < size)
    (v : Value) (n : Nat) (xs : List Value) (hs : a.eval s = v) (hown : w.ownsRow base e size v n xs)
    (ad : Addr) (m c : Nat) (news : List Value) (hx : a.eval x = .slice (some ad) m c) (hl : news.length = m * size) (hnews : ∀ j u, news[j]? = some u → w.cell? (ad.add j) = some u) (h1 : ∀ u ∈ news, u.oneCell' = true)
    (h63 : n + m ≤ maxLen) (hbytes : (n + m) * bytes ≤ 140737488355328) (hbase : base ≤ w.heap.size)
    (h : ∀ oa cap w', w'.ownsRow base e size (.slice oa (n + m) cap) (n + m) (xs ++ news) → w.grownBy w' v.ownBlock → ((Value.slice oa (n + m) cap).ownBlock = v.ownBlock ∨ (Value.slice oa (n + m) cap).ownBlock = some w.heap.size) → K (a.put o.dst (.slice oa (n + m) cap)) w') : o.wp P a w K Q := by
  obtain ⟨v', w', hr, h2, h3, _, h4⟩ := run_append_own_at (P := P) w base t o.type e i z size bytes ht hi hz hsize hby hzs hsz v n xs hown ad m c news hl hnews h1 h63 hbytes hbase
  obtain ⟨oa, cap, rfl⟩ := app_form h2
  unfold Oper.wp execOp
  simp only [ho, resolve, invoke, builtin, Sem.run_bind, Sem.run_pure, Result.andThen_ok, List.map_toArray, List.map_cons, List.map_nil, hs, hx, hr]
  exact h oa cap w' h2 h3 h4
theorem step_app2 {ops : Array Oper} {o : Oper} {a : Act} {K : Act → World → Prop} {Q : Exit → Act → World → Prop} {E : Prop} (hgd : o.guard = none) (s x : Operand) (t : TypeId)
    (ho : o.op = .call { callee := .builtin .append, args := #[s, x], argTypes := #[t, t] })
    (base : Nat) (e : TypeId) (i : TypeInfo) (z : Value) (size bytes : Nat) (ht : P.underlying t = some (.slice e)) (hi : P.info? e = some i) (hz : i.zero = some z)
    (hsize : i.size = size) (hby : i.bytes = bytes) (hzs : z.cells.size = size) (hsz : 0 < size)
    (v : Value) (n : Nat) (xs : List Value) (hs : a.eval s = v) (hown : w.ownsRow base e size v n xs)
    (ad : Addr) (m c : Nat) (news : List Value) (hx : a.eval x = .slice (some ad) m c) (hl : news.length = m * size) (hnews : ∀ j u, news[j]? = some u → w.cell? (ad.add j) = some u) (h1 : ∀ u ∈ news, u.oneCell' = true)
    (h63 : n + m ≤ maxLen) (hbytes : (n + m) * bytes ≤ 140737488355328) (hbase : base ≤ w.heap.size)
    (h : ∀ oa cap w', w'.ownsRow base e size (.slice oa (n + m) cap) (n + m) (xs ++ news) → w.grownBy w' v.ownBlock → ((Value.slice oa (n + m) cap).ownBlock = v.ownBlock ∨ (Value.slice oa (n + m) cap).ownBlock = some w.heap.size) → K (a.put o.dst (.slice oa (n + m) cap)) w') :
    if Region.wanted o (yielded ops a.tmps) = true then Oper.wp P o a w K Q else E := by
  have hw : Region.wanted o (yielded ops a.tmps) = true := by simp [Region.wanted, hgd]
  rw [if_pos hw]
  exact wp_app2 w s x t ho base e i z size bytes ht hi hz hsize hby hzs hsz v n xs hs hown ad m c news hx hl hnews h1 h63 hbytes hbase h
end
section
variable {P : Program} (w : World)
theorem wp_app2O {o : Oper} {a : Act} {K : Act → World → Prop} {Q : Exit → Act → World → Prop} (s x : Operand) (t : TypeId)
    (ho : o.op = .call { callee := .builtin .append, args := #[s, x], argTypes := #[t, t] })
    (base : Nat) (e : TypeId) (i : TypeInfo) (z : Value) (size bytes : Nat) (ht : P.underlying t = some (.slice e)) (hi : P.info? e = some i) (hz : i.zero = some z)
    (hsize : i.size = size) (hby : i.bytes = bytes) (hzs : z.cells.size = size) (hsz : 0 < size)
    (v : Value) (n : Nat) (xs : List Value) (hs : a.eval s = v) (hown : w.ownsRow base e size v n xs)
    (ad : Option Addr) (m c : Nat) (news : List Value) (hx : a.eval x = .slice ad m c) (hl : news.length = m * size) (hnews : NewsO w ad news) (h1 : ∀ u ∈ news, u.oneCell' = true)
    (h63 : n + m ≤ maxLen) (hbytes : (n + m) * bytes ≤ 140737488355328) (hbase : base ≤ w.heap.size)
    (h : ∀ oa cap w', w'.ownsRow base e size (.slice oa (n + m) cap) (n + m) (xs ++ news) → w.grownBy w' v.ownBlock → ((Value.slice oa (n + m) cap).ownBlock = v.ownBlock ∨ (Value.slice oa (n + m) cap).ownBlock = some w.heap.size) → K (a.put o.dst (.slice oa (n + m) cap)) w') : o.wp P a w K Q := by
  obtain ⟨v', w', hr, h2, h3, h4⟩ := run_append_ownO (P := P) w base t o.type e i z size bytes ht hi hz hsize hby hzs hsz v n xs hown ad m c news hl hnews h1 h63 hbytes hbase
  obtain ⟨oa, cap, rfl⟩ := app_form h2
  unfold Oper.wp execOp
  simp only [ho, resolve, invoke, builtin, Sem.run_bind, Sem.run_pure, Result.andThen_ok, List.map_toArray, List.map_cons, List.map_nil, hs, hx, hr]
  exact h oa cap w' h2 h3 h4
theorem step_app2O {ops : Array Oper} {o : Oper} {a : Act} {K : Act → World → Prop} {Q : Exit → Act → World → Prop} {E : Prop} (hgd : o.guard = none) (s x : Operand) (t : TypeId)
    (ho : o.op = .call { callee := .builtin .append, args := #[s, x], argTypes := #[t, t] })
    (base : Nat) (e : TypeId) (i : TypeInfo) (z : Value) (size bytes : Nat) (ht : P.underlying t = some (.slice e)) (hi : P.info? e = some i) (hz : i.zero = some z)
    (hsize : i.size = size) (hby : i.bytes = bytes) (hzs : z.cells.size = size) (hsz : 0 < size)
    (v : Value) (n : Nat) (xs : List Value) (hs : a.eval s = v) (hown : w.ownsRow base e size v n xs)
    (ad : Option Addr) (m c : Nat) (news : List Value) (hx : a.eval x = .slice ad m c) (hl : news.length = m * size) (hnews : NewsO w ad news) (h1 : ∀ u ∈ news, u.oneCell' = true)
    (h63 : n + m ≤ maxLen) (hbytes : (n + m) * bytes ≤ 140737488355328) (hbase : base ≤ w.heap.size)
    (h : ∀ oa cap w', w'.ownsRow base e size (.slice oa (n + m) cap) (n + m) (xs ++ news) → w.grownBy w' v.ownBlock → ((Value.slice oa (n + m) cap).ownBlock = v.ownBlock ∨ (Value.slice oa (n + m) cap).ownBlock = some w.heap.size) → K (a.put o.dst (.slice oa (n + m) cap)) w') :
    if Region.wanted o (yielded ops a.tmps) = true then Oper.wp P o a w K Q else E := by
  have hw : Region.wanted o (yielded ops a.tmps) = true := by simp [Region.wanted, hgd]
  rw [if_pos hw]
  exact wp_app2O w s x t ho base e i z size bytes ht hi hz hsize hby hzs hsz v n xs hs hown ad m c news hx hl hnews h1 h63 hbytes hbase h
end
/-- An empty row of the call's own. -/
theorem rowG {w : World} {base g : Nat} (h : w.heap[g]? = some (.cells #[] 81 (0, 0))) (hb : base ≤ g) : w.ownsRow base 81 2 (.slice (some ⟨g, 0, none⟩) 0 0) 0 [] :=
  ⟨rfl, .inr ⟨g, 0, #[], rfl, hb, h, Nat.le_refl _, by unfold maxLen; omega, rfl, rfl⟩⟩
theorem new_empty (w : World) : (w.alloc (Obj.cells #[] 81)).heap[w.heap.size]? = some (.cells #[] 81 (0, 0)) := heap_alloc_new w _
theorem new_at {w : World} {g : Nat} (h : g = w.heap.size) : (w.alloc (Obj.cells #[] 81)).heap[g]? = some (.cells #[] 81 (0, 0)) := by subst h; exact heap_alloc_new w _
theorem new_atD {w : World} {g : Nat} (h : g = w.heap.size) : (w.alloc (Obj.cells #[] 81)).drew.heap[g]? = some (.cells #[] 81 (0, 0)) := new_at h
theorem rowG_kept {w w1 : World} {base g : Nat} {row : Option Nat} (hg : w.grownBy w1 row) (h : w.heap[g]? = some (.cells #[] 81 (0, 0))) (hb : base ≤ g) (hne : some g ≠ row) : w1.ownsRow base 81 2 (.slice (some ⟨g, 0, none⟩) 0 0) 0 [] :=
  (rowG h hb).kept hg (.inr hne)
theorem old_block {w : World} {g : Nat} {o o' : Obj} (h : w.heap[g]? = some o') : (w.alloc o).heap[g]? = some o' := by
  have : g < w.heap.size := by
    rcases Nat.lt_or_ge g w.heap.size with h' | h'
    · exact h'
    · rw [Array.getElem?_eq_none h'] at h; cases h
  rw [Below.heap_alloc _ _ _ this]; exact h
theorem old_at {w : World} {g : Nat} {o : Obj} (h : g = w.heap.size) : ((w.alloc (Obj.cells #[] 81)).alloc o).heap[g]? = some (.cells #[] 81 (0, 0)) := old_block (new_at h)
theorem old_atD {w : World} {g : Nat} {o : Obj} (h : g = w.heap.size) : ((w.alloc (Obj.cells #[] 81)).alloc o).drew.heap[g]? = some (.cells #[] 81 (0, 0)) := old_block (new_at h)
theorem Wr.grown {u v : World} {g m : Nat} {row : Option Nat} (h : Wr u g m) (hg : u.grownBy v row) (hne : some g ≠ row) : Wr v g m :=
  ⟨fun o ho => by obtain ⟨x, hx⟩ := h.1 o ho; exact ⟨x, (hg.cell_far ⟨g, o, none⟩ h.2.2 hne).trans hx⟩, fun o => (hg.frozen_far ⟨g, o, none⟩ h.2.2 hne).trans (h.2.1 o), Nat.lt_of_lt_of_le h.2.2 hg.size⟩
/-- What stays while a copy is made: the bounds, the answer's block. -/
@[reducible] def SL (w0 : World) (x y z : Value) (u : World) : Prop := u.cell? ⟨w0.heap.size, 0, none⟩ = some x ∧ u.cell? ⟨w0.heap.size, 1, none⟩ = some y ∧ u.cell? ⟨w0.heap.size, 2, none⟩ = some z ∧ Hid (C3 u w0.heap.size x y z ∧ Below w0.heap.size w0 u ∧ w0.heap.size + 2 ≤ u.heap.size ∧ Wr u (w0.heap.size + 1) 3)
theorem SL.of {w0 u : World} {x y z : Value} (h : C3 u w0.heap.size x y z) (k : Below w0.heap.size w0 u) (s : w0.heap.size + 2 ≤ u.heap.size) (r : Wr u (w0.heap.size + 1) 3) : SL w0 x y z u := ⟨h.1, h.2.1, h.2.2.1, h, k, s, r⟩
theorem SL.out {w0 u : World} {x y z : Value} (h : SL w0 x y z u) : C3 u w0.heap.size x y z ∧ Below w0.heap.size w0 u ∧ w0.heap.size + 2 ≤ u.heap.size ∧ Wr u (w0.heap.size + 1) 3 := unhide h.2.2.2
theorem SL.drew {w0 u : World} {x y z : Value} (h : SL w0 x y z u) : SL w0 x y z u.drew := SL.of (h.out.1.call (Below.refl _ _).drew) h.out.2.1.drew h.out.2.2.1 (h.out.2.2.2.call (Below.refl _ _).drew)
theorem SL.alloc {w0 u : World} {x y z : Value} (h : SL w0 x y z u) (o : Obj) : SL w0 x y z (u.alloc o) := SL.of (h.out.1.alloc o) (h.out.2.1.alloc h.out.2.1.size o) (by simp; have := h.out.2.2.1; omega) (h.out.2.2.2.call ((Below.refl _ _).alloc (Nat.le_refl _) o))
theorem SL.grown {w0 u v : World} {x y z : Value} {row : Option Nat} (h : SL w0 x y z u) (hg : u.grownBy v row) (hr : ∀ j, row = some j → w0.heap.size + 2 ≤ j) : SL w0 x y z v :=
  SL.of (h.out.1.grown hg (fun e => by have := hr _ e.symm; omega)) (h.out.2.1.grown hg h.out.2.1.size (fun j hj => by have := hr j hj; omega)) (Nat.le_trans h.out.2.2.1 hg.size) (h.out.2.2.2.grown hg (fun e => by have := hr _ e.symm; omega))
theorem SL.set {w0 u : World} {o : Nat} {x y z v : Value} (h : SL w0 x y z u) (ho : o < 3) : SL w0 x y z (u.setCell ⟨w0.heap.size + 1, o, none⟩ v) :=
  SL.of (h.out.1.other (by omega)) (h.out.2.1.setCell (by show w0.heap.size ≤ w0.heap.size + 1; omega) _) (by rw [size_setCell]; exact h.out.2.2.1) (h.out.2.2.2.set _ ho)
theorem rows_apart {w1 w2 cur2 : World} {base G5 G6 S1 S2 ca cb n m : Nat} {oa ob : Option Addr} {xs ys : List Value}
    (hown : w1.ownsRow base 81 2 (.slice oa n ca) n xs) (hcur : cur2.ownsRow base 81 2 (.slice oa n ca) n xs)
    (hgrow2 : cur2.grownBy w2 (Value.slice (some ⟨G6, 0, none⟩) 0 0).ownBlock) (hown2 : w2.ownsRow base 81 2 (.slice ob m cb) m ys)
    (hloc : (Value.slice oa n ca).ownBlock = (Value.slice (some ⟨G5, 0, none⟩) 0 0).ownBlock ∨ (Value.slice oa n ca).ownBlock = some S1)
    (hloc2 : (Value.slice ob m cb).ownBlock = (Value.slice (some ⟨G6, 0, none⟩) 0 0).ownBlock ∨ (Value.slice ob m cb).ownBlock = some S2)
    (hne : ∀ j, (j = G5 ∨ j = S1) → j < w1.heap.size → j ≠ G6) (hS : w1.heap.size ≤ S2) :
    w2.ownsRow base 81 2 (.slice oa n ca) n xs ∧ w2.ownsRow base 81 2 (.slice ob m cb) m ys ∧ Apart oa ob := by
  have far : ∀ j, (Value.slice oa n ca).ownBlock = some j → j ≠ G6 ∧ j < w1.heap.size := fun j hj => by
    have l := (hown.lt j hj).2
    rw [hj] at hloc
    refine ⟨hne j ?_ l, l⟩
    rcases hloc with h | h
    · exact .inl (Option.some.inj h)
    · exact .inr (Option.some.inj h)
  refine ⟨hcur.kept hgrow2 ?_, hown2, ?_⟩
  · cases hq : (Value.slice oa n ca).ownBlock with
    | none => exact .inl rfl
    | some j => exact .inr (fun e => (far j hq).1 (Option.some.inj e))
  · intro x y hx hy e
    subst hx hy
    obtain ⟨f1, f2⟩ := far x.block rfl
    rcases hloc2 with h | h
    · have : y.block = G6 := Option.some.inj h
      omega
    · have : y.block = S2 := Option.some.inj h
      omega
set_option maxRecDepth 20000 in
set_option maxHeartbeats 8000000 in
theorem l6Copy_c (li : Bool) (e1 e2 : Option Addr) (d1 d2 : Nat) (xs ys : List (Int × Int)) (w : World) (hx : Ivs w e1 xs) (hy : Ivs w e2 ys) (hl : xs.length ≤ 1000 ∧ ys.length ≤ 1000) :
    Calls Tryd.prog 79 #[.agg #[.bool li, .slice e1 xs.length d1, .slice e2 ys.length d2]] w fun e w' => ∃ oa ca ob cb, e = .returned (.agg #[.bool li, .slice oa xs.length ca, .slice ob ys.length cb]) ∧ RowsE w' w.heap.size oa ca ob cb xs ys ∧ Below w.heap.size w w' := by
  have HX := hide hx
  have HY := hide hy
  have T0 := (C3.new w (.bool li) (.slice e1 xs.length d1) (.slice e2 ys.length d2) 43).alloc (Obj.cells #[.bool false, .slice none 0 0, .slice none 0 0] 43)
  have T1 := C3.new (w.alloc (Obj.cells #[.bool li, .slice e1 xs.length d1, .slice e2 ys.length d2] 43)) (.bool false) (.slice none 0 0) (.slice none 0 0) 43
  rw [show (w.alloc (Obj.cells #[.bool li, .slice e1 xs.length d1, .slice e2 ys.length d2] 43)).heap.size = w.heap.size + 1 by simp] at T1
  have hs := SL.of (w0 := w) T0 (((Below.refl _ _).alloc (Nat.le_refl _) _).alloc (by simp) _) (by simp) ⟨fun o ho => by
    rcases (by omega : o = 0 ∨ o = 1 ∨ o = 2) with rfl | rfl | rfl
    · exact ⟨_, T1.1⟩
    · exact ⟨_, T1.2.1⟩
    · exact ⟨_, T1.2.2.1⟩, T1.2.2.2, T1.lt⟩
  have HS := hide hs
  clear hx hy T0 T1 hs
  obtain ⟨inf, hi, hz0, hz1, hz2⟩ := info_parts ivInfo
  go_enter Tryd.func79, Tryd.ntmps79
  go_wp2_with fail
  generalize (w.alloc (Obj.cells #[.bool li, .slice e1 xs.length d1, .slice e2 ys.length d2] 43)).alloc (Obj.cells #[.bool false, .slice none 0 0, .slice none 0 0] 43) = u at HS ⊢
  have hs := unhide HS
  have hz := hs.out.2.2.1
  clear HS
  go_region_held3 (SL w (.bool li) (.slice e1 xs.length d1) (.slice e2 ys.length d2))
    (first | exact SL.drew (by assumption) | exact SL.alloc (by assumption) _ | exact hs2 | exact hs3 | exact SL.set (SL.set (SL.set (by assumption) (by omega)) (by omega)) (by omega))
    (first
      | (refine step_app2O _ (by rfl) _ _ _ (by rfl) (w.heap.size + 2) 81 inf (.agg #[.int .i64 0, .int .i64 0]) 2 16 Tryd.underlying41 hi hz0 hz1 hz2 rfl (by decide) (.slice (some ⟨_, 0, none⟩) 0 0) 0 [] (by rfl) (rowG (by first | (refine old_atD ?_; rfl) | (refine new_atD ?_; rfl) | (refine new_atD ?_; simp; done) | (refine old_at ?_; rfl) | (refine new_at ?_; rfl) | (refine new_at ?_; simp; done)) (by first | omega | (simp; omega))) e1 xs.length d1 (cellsV xs) (by rfl) (cellsV_len _) (((unhide HX).call (SL.out (by assumption)).2.1).news) (cellsV_one _) (by unfold maxLen; omega) (by omega) (by first | omega | (simp; omega)) ?_; intro oa ca w1 hown hgrow hloc; have hs2 := SL.grown (by assumption) hgrow (fun j hj => by simp [Value.ownBlock] at hj; omega))
      | (refine step_app2O _ (by rfl) _ _ _ (by rfl) (w.heap.size + 2) 81 inf (.agg #[.int .i64 0, .int .i64 0]) 2 16 Tryd.underlying41 hi hz0 hz1 hz2 rfl (by decide) (.slice (some ⟨_, 0, none⟩) 0 0) 0 [] (by rfl) (by first | exact rowG_kept hgrow (by first | (refine old_atD ?_; rfl) | (refine new_atD ?_; rfl) | (refine new_atD ?_; simp; done) | (refine old_at ?_; rfl) | (refine new_at ?_; rfl) | (refine new_at ?_; simp; done)) (by first | omega | (simp; omega)) (by simp [Value.ownBlock]) | exact rowG (by first | (refine old_atD ?_; rfl) | (refine new_atD ?_; rfl) | (refine new_atD ?_; simp; done) | (refine old_at ?_; rfl) | (refine new_at ?_; rfl) | (refine new_at ?_; simp; done)) (by have := hs2.out.2.2.1; first | omega | (simp; omega))) e2 ys.length d2 (cellsV ys) (by rfl) (cellsV_len _) (((unhide HY).call (SL.out (by assumption)).2.1).news) (cellsV_one _) (by unfold maxLen; omega) (by omega) (by have := hs2.out.2.2.1; first | omega | (simp; omega)) ?_; intro ob cb w2 hown2 hgrow2 hloc2; have hs3 := SL.grown (by assumption) hgrow2 (fun j hj => by have := hs2.out.2.2.1; simp [Value.ownBlock] at hj; omega); obtain ⟨v0, q0⟩ := hs3.out.2.2.2.1 0 (by omega); obtain ⟨v1, q1⟩ := hs3.out.2.2.2.1 1 (by omega); obtain ⟨v2, q2⟩ := hs3.out.2.2.2.1 2 (by omega); have f0 := hs3.out.2.2.2.2.1 0; have f1 := hs3.out.2.2.2.2.1 1; have f2 := hs3.out.2.2.2.2.1 2))
  all_goals rename_i hHeld
  all_goals
    have HB := hide hHeld.out.2.1
    have z1 := hgrow.size
    have z2 := hgrow2.size
    have HW := hide (show RowsE w2 (w.heap.size + 2) oa ca ob cb xs ys by
      rw [Nat.zero_add, List.nil_append] at hown hown2
      rw [Nat.zero_add] at hloc hloc2
      simp at z1 z2
      have z3 := hs2.out.2.2.1
      first
        | exact rows_apart hown hown hgrow2 hown2 hloc hloc2 (fun j h h' => by simp at h; omega) (by first | exact Nat.le_refl _ | (simp; done))
        | exact rows_apart hown (hown.alloc _) hgrow2 hown2 hloc hloc2 (fun j h h' => by omega) (by first | exact Nat.le_refl _ | (simp; done)))
    clear hHeld hs hs2 hs3 hown hown2 hgrow hgrow2 hloc hloc2 z1 z2
    go_wp2
    exact bodyPost_ret (v := .agg #[.bool li, .slice oa xs.length ca, .slice ob ys.length cb]) (by simp [results, Tryd.results79, go_sem, q0, q1, q2]) rfl ⟨oa, ca, ob, cb, rfl, ((((unhide HW).set (by omega)).set (by omega)).set (by omega)).down (by omega), unhide HB⟩
end Go.Proofs.YtpdnnpnclgcpoaaDoor

