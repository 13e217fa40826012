/- Texts that go together: MapC, MapD, MapE. -/
import Derived.Test.YthldhjifnpfmiaaGreatDoorTokP
import Derived.Maps.OwnSet
import Derived.DeepKeys4
import Derived.Laws.IdiomCopy
import Derived.Test.YthldhjifnpfmiaaGreatDoorParP
/- Maps from tokens, laid into arrays, to places. -/
namespace Go.Proofs.YthldhjifnpfmiaaGreatDoor
open Go.RowKit Go.Maps
set_option linter.unusedSimpArgs false
set_option linter.unusedVariables false

theorem lopM : laidOutB Tryz.prog = true := by kernel_rfl
/-- The value of a key: three entries, those that are none with -1. -/
def tkV (t : List (Int × Int)) : Value := .agg #[.int .i64 (t.getD 0 (-1, 0)).1, .int .i64 (t.getD 0 (-1, 0)).2, .int .i64 (t.getD 1 (-1, 0)).1, .int .i64 (t.getD 1 (-1, 0)).2, .int .i64 (t.getD 2 (-1, 0)).1, .int .i64 (t.getD 2 (-1, 0)).2]
theorem tkRow : (88 : TypeId) < Tryz.prog.types.size := of_decide_eq_true (by kernel_rfl)
theorem tkLaw : Keyed Tryz.prog 88 := Keyed.of_law (deep_law_laid lopM (m := 4) (by omega) tkRow (by kernel_rfl) (by rw [Tryz.underlying88]))
theorem tkType : Tryz.prog.keyType 88 = true := by kernel_rfl
theorem tkSize : Tryz.prog.types.size + 1 = (Tryz.prog.types.size - 2) + 3 := by
  have h : 3 ≤ Tryz.prog.types.size := of_decide_eq_true (by kernel_rfl)
  omega
theorem tkC0 : Tryz.prog.cellsOf 88 = 6 := by kernel_rfl
theorem tkC1 : Tryz.prog.cellsOf 78 = 2 := by kernel_rfl
theorem tkC2 : Tryz.prog.cellsOf 2 = 1 := by kernel_rfl
theorem tkLit (n : Nat) (a : Int) (ha : (Lit.int .i64 a).wf = true) : Tryz.prog.keyLits (n + 1) 2 [.int .i64 a] = some [.int .i64 a] := by
  unfold Program.keyLits
  rw [Tryz.underlying2]
  simp only [ha, and_self, if_true]
theorem tkLits (n : Nat) (a b : Int) (ha : (Lit.int .i64 a).wf = true) (hb : (Lit.int .i64 b).wf = true) : Tryz.prog.keyLits (n + 2) 78 [.int .i64 a, .int .i64 b] = some [.int .i64 a, .int .i64 b] := by
  unfold Program.keyLits
  rw [Tryz.underlying78]
  simp only [tkC1, tkC2, List.length_cons, List.length_nil]
  rw [if_pos (by simp)]
  simp [tkC2, tkLit n a ha, tkLit n b hb]
theorem tk_key (a b c d e f : Int) (ha : (Lit.int .i64 a).wf = true) (hb : (Lit.int .i64 b).wf = true) (hc : (Lit.int .i64 c).wf = true) (hd : (Lit.int .i64 d).wf = true) (he : (Lit.int .i64 e).wf = true) (hf : (Lit.int .i64 f).wf = true) :
    ∃ l, keyOf Tryz.prog 88 (.agg #[.int .i64 a, .int .i64 b, .int .i64 c, .int .i64 d, .int .i64 e, .int .i64 f]) = some l := by
  have h : ∀ n, Tryz.prog.keyLits (n + 3) 88 [.int .i64 a, .int .i64 b, .int .i64 c, .int .i64 d, .int .i64 e, .int .i64 f] = some [.int .i64 a, .int .i64 b, .int .i64 c, .int .i64 d, .int .i64 e, .int .i64 f] := fun n => by
    unfold Program.keyLits
    rw [Tryz.underlying88]
    simp only [tkC0, tkC1, List.length_cons, List.length_nil]
    rw [if_pos (by decide)]
    simp [List.range, List.range.loop, tkLits n a b ha hb, tkLits n c d hc hd, tkLits n e f he hf]
  refine ⟨.string (keyBytes [.int .i64 a, .int .i64 b, .int .i64 c, .int .i64 d, .int .i64 e, .int .i64 f]), ?_⟩
  unfold keyOf
  rw [Tryz.underlying88]
  simp only []
  rw [if_pos (by rw [tkType]; simp [Value.formed, Tryz.underlying88, tkC0])]
  rw [tkSize]
  simp only [Value.cells]
  rw [h]
  rfl
theorem tokB_wf {t : List (Int × Int)} (h : tokB t = true) (k : Nat) : (Lit.int .i64 (t.getD k (-1, 0)).1).wf = true ∧ (Lit.int .i64 (t.getD k (-1, 0)).2).wf = true := by
  by_cases hk : k < t.length
  · rw [List.getD_eq_getElem?_getD, List.getElem?_eq_getElem hk, Option.getD_some]
    have := tokB_in t h k hk
    exact ⟨WalkArith.wf_i64 ⟨by omega, by omega⟩, WalkArith.wf_i64 ⟨by omega, by omega⟩⟩
  · rw [List.getD_eq_getElem?_getD, List.getElem?_eq_none (by omega), Option.getD_none]
    exact ⟨by decide, by decide⟩
theorem tk_some {t : List (Int × Int)} (h : tokB t = true) : ∃ l, keyOf Tryz.prog 88 (tkV t) = some l :=
  tk_key _ _ _ _ _ _ (tokB_wf h 0).1 (tokB_wf h 0).2 (tokB_wf h 1).1 (tokB_wf h 1).2 (tokB_wf h 2).1 (tokB_wf h 2).2
theorem tk_ent {t : List (Int × Int)} (h : tokB t = true) (k : Nat) : k < t.length ↔ 0 ≤ (t.getD k (-1, 0)).1 := by
  by_cases hk : k < t.length
  · rw [List.getD_eq_getElem?_getD, List.getElem?_eq_getElem hk, Option.getD_some]
    have := tokB_in t h k hk
    exact ⟨fun _ => this.1.1, fun _ => hk⟩
  · rw [List.getD_eq_getElem?_getD, List.getElem?_eq_none (by omega), Option.getD_none]
    exact ⟨fun h => absurd h hk, fun h => absurd h (by decide)⟩
theorem tk_inj {a b : List (Int × Int)} (ha : tokB a = true) (hb : tokB b = true) (h : tkV a = tkV b) : a = b := by
  have la : a.length ≤ 3 := by unfold tokB at ha; rw [Bool.and_eq_true] at ha; exact of_decide_eq_true ha.1
  have lb : b.length ≤ 3 := by unfold tokB at hb; rw [Bool.and_eq_true] at hb; exact of_decide_eq_true hb.1
  unfold tkV at h
  simp only [Value.agg.injEq, Array.mk.injEq, List.cons.injEq, Value.int.injEq, true_and, and_true] at h
  obtain ⟨h0, h1, h2, h3, h4, h5⟩ := h
  have e0 : a.getD 0 (-1, 0) = b.getD 0 (-1, 0) := Prod.ext h0 h1
  have e1 : a.getD 1 (-1, 0) = b.getD 1 (-1, 0) := Prod.ext h2 h3
  have e2 : a.getD 2 (-1, 0) = b.getD 2 (-1, 0) := Prod.ext h4 h5
  have q : ∀ k, k < 3 → a.getD k (-1, 0) = b.getD k (-1, 0) := fun k hk => by
    rcases (show k = 0 ∨ k = 1 ∨ k = 2 by omega) with rfl | rfl | rfl
    · exact e0
    · exact e1
    · exact e2
  have s : ∀ k, k < 3 → (k < a.length ↔ k < b.length) := fun k hk => by rw [tk_ent ha k, tk_ent hb k, q k hk]
  have s0 := s 0 (by omega)
  have s1 := s 1 (by omega)
  have s2 := s 2 (by omega)
  refine List.ext_getElem (by omega) fun k h1 h2 => ?_
  have := q k (by omega)
  rw [List.getD_eq_getElem?_getD, List.getElem?_eq_getElem h1, List.getD_eq_getElem?_getD, List.getElem?_eq_getElem h2] at this
  exact this
/-- Block b is a map that has, at each token's key, what f says; so many entries at most. -/
def TkM (w : World) (b n : Nat) (f : List (Int × Int) → Option Nat) : Prop :=
  ∃ D : DataW Unit, w.ownsMap Tryz.prog 88 (plainElem Tryz.prog 3) b n D ∧ ∀ t l, tokB t = true → keyOf Tryz.prog 88 (tkV t) = some l → Maps.has D l = (f t).isSome ∧ ∀ i, f t = some i → D.atKey l (.lit (.int .i64 0)) = .lit (.int .i64 i)
theorem TkM.lt {w : World} {b n : Nat} {f : List (Int × Int) → Option Nat} (h : TkM w b n f) : b < w.heap.size := by
  obtain ⟨D, h, _⟩ := h
  exact h.lt
theorem TkM.made (w : World) : TkM (w.alloc (.map #[] 0)) w.heap.size 0 (fun _ => none) :=
  ⟨.map [], World.ownsMap_made w _ _ _, fun t l _ _ => ⟨rfl, fun i e => by cases e⟩⟩
theorem TkM.to {w w1 : World} {b n B : Nat} {f : List (Int × Int) → Option Nat} (h : TkM w b n f) (hb : Below B w w1) (hB : b < B) : TkM w1 b n f := by
  obtain ⟨D, ⟨es, clock, h1, h2, h3, h4⟩, h5⟩ := h
  exact ⟨D, ⟨es, clock, (hb.block b hB).trans h1, h2, h3, h4⟩, h5⟩
theorem TkM.call {w w1 : World} {b n : Nat} {f : List (Int × Int) → Option Nat} (h : TkM w b n f) (hb : Below w.heap.size w w1) : TkM w1 b n f := h.to hb h.lt
theorem tkZero (w : World) : (zeroValue 3).run Tryz.prog w = .ok (.int .i64 0) w := by kernel_rfl
/-- A look-up. -/
theorem TkM.look {w : World} {b n : Nat} {f : List (Int × Int) → Option Nat} (h : TkM w b n f) {t : List (Int × Int)} (ht : tokB t = true) :
    (Instr.lookup 85 (.map (some b)) (tkV t) true).run Tryz.prog w = .ok (.tuple #[.int .i64 (((f t).getD 0 : Nat) : Int), .bool (f t).isSome]) w := by
  obtain ⟨D, h1, h2⟩ := h
  obtain ⟨l, hl⟩ := tk_some ht
  obtain ⟨q1, q2⟩ := h2 t l ht hl
  obtain ⟨v, ps, hr, hv⟩ := h1.look_ok tkLaw Tryz.underlying85 (tkZero w) (zd := .lit (.int .i64 0)) (plainElem_int Tryz.underlying3 (by decide)) hl
  rw [q1] at hr
  obtain ⟨c, rfl, hc, _⟩ := plainElem_int_inv Tryz.underlying3 hv
  have hc' := congrArg Prod.fst hc
  simp only at hc'
  cases hf : f t with
  | none =>
    rw [hf] at hr q1
    rw [atKey_of_not_has (by rw [q1]; rfl)] at hc'
    simp only [DataW.lit.injEq, Lit.int.injEq, true_and] at hc'
    subst hc'
    exact hr
  | some i =>
    rw [hf] at hr
    rw [q2 i hf] at hc'
    simp only [DataW.lit.injEq, Lit.int.injEq, true_and] at hc'
    subst hc'
    exact hr
/-- A store. -/
theorem TkM.put {w : World} {b n : Nat} {f : List (Int × Int) → Option Nat} (h : TkM w b n f) {t : List (Int × Int)} (ht : tokB t = true) (hn : n ≤ 1048576) (i : Nat) (hi : i ≤ 1048576) :
    ∃ w1, (Instr.mapUpdate 85 (.map (some b)) (tkV t) (.int .i64 (i : Int))).run Tryz.prog w = .ok () w1 ∧ TkM w1 b (n + 1) (fun s => if t = s then some i else f s) ∧ w.grownBy w1 (some b) := by
  obtain ⟨D, h1, h2⟩ := h
  obtain ⟨l, hl⟩ := tk_some ht
  obtain ⟨w1, hr, ho, hg⟩ := h1.update tkLaw Tryz.underlying85 (by unfold maxLen; omega) hl (plainElem_int Tryz.underlying3 (a := (i : Int)) (WalkArith.wf_i64 ⟨by omega, by omega⟩))
  have hm := h1.isMap
  have hk : WideAt.IsKeyLit l := tkLaw.key hl
  refine ⟨w1, hr, ⟨_, ho, fun s m hs hm' => ?_⟩, hg⟩
  by_cases e : t = s
  · subst e
    obtain rfl : l = m := by rw [hl] at hm'; exact Option.some.inj hm'
    dsimp only
    rw [if_pos rfl]
    exact ⟨has_put_same hm hk _, fun j ej => by cases ej; exact atKey_put_same hm hk _ _⟩
  · dsimp only
    rw [if_neg e]
    have hne : m ≠ l := fun hml => e (tk_inj ht hs (tkLaw.inj hl (hml ▸ hm')))
    obtain ⟨q1, q2⟩ := h2 s m hs hm'
    exact ⟨(has_put_other hne _).trans q1, fun j ej => (atKey_put_other hne _ _).trans (q2 j ej)⟩
end Go.Proofs.YthldhjifnpfmiaaGreatDoor

/- What a key is laid out of: a token's entries, copied into an array. -/
namespace Go.Proofs.YthldhjifnpfmiaaGreatDoor
open Go.RowKit Go.Maps
set_option linter.unusedSimpArgs false
set_option linter.unusedVariables false

theorem run_copy_two (w : World) (dT sT ty elem : TypeId) (b o dLen dCap : Nat) (a : Addr) (sLen sCap : Nat) (cs : List Value)
    (hu : Tryz.prog.underlying dT = some (.slice elem)) (hs : (Tryz.prog.info? elem).map (·.size) = some 2) (hn : cs.length = Nat.min sLen dLen * 2)
    (hsrc : ∀ j v, cs[j]? = some v → w.cell? (a.add j) = some v) (hc : ∀ j, j < cs.length → (w.cell? ⟨b, o + j, none⟩).isSome = true) (hf : ∀ j, j < cs.length → w.frozen? ⟨b, o + j, none⟩ = false) (h1 : ∀ v ∈ cs, v.oneCell' = true) :
    (Builtin.copy_ #[dT, sT] ty #[.slice (some ⟨b, o, none⟩) dLen dCap, .slice (some a) sLen sCap]).run Tryz.prog w = .ok (goInt (Nat.min sLen dLen)) (w.setCells b o cs) := by
  have hl := run_loadCells_list (P := Tryz.prog) w a cs hsrc
  have hst := run_storeCells_cells (P := Tryz.prog) b o cs 0 w (by simpa using hc) (by simpa using hf) h1
  cases hq : Tryz.prog.info? elem with
  | none => simp [hq] at hs
  | some i =>
    have hi : i.size = 2 := by simpa [hq] using hs
    simp [Builtin.copy_, run_underlying hu, Builtin.lenOf, Builtin.firstCells, sizeOf, typeInfo, hq, hi, ← hn, hl, hst]
theorem run_copy_zero (w : World) (dT sT ty elem : TypeId) (d a : Option Addr) (dLen dCap sCap : Nat) (hu : Tryz.prog.underlying dT = some (.slice elem)) (hs : (Tryz.prog.info? elem).map (·.size) = some 2) :
    (Builtin.copy_ #[dT, sT] ty #[.slice d dLen dCap, .slice a 0 sCap]).run Tryz.prog w = .ok (goInt 0) w := by
  cases hq : Tryz.prog.info? elem with
  | none => simp [hq] at hs
  | some i =>
    have hl : ∀ (x : Addr), (loadCells x 0).run Tryz.prog w = .ok #[] w := fun x => by simpa using run_loadCells_list (P := Tryz.prog) w x [] (by simp)
    cases d <;> cases a <;> simp [Builtin.copy_, run_underlying hu, Builtin.lenOf, Builtin.firstCells, sizeOf, typeInfo, hq, storeCells, hl]
/-- Six cells of a block of the call's own. -/
def C6 (u : World) (b : Nat) (a0 b0 a1 b1 a2 b2 : Int) : Prop := u.cell? ⟨b, 0, none⟩ = some (.int .i64 a0) ∧ u.cell? ⟨b, 1, none⟩ = some (.int .i64 b0) ∧ u.cell? ⟨b, 2, none⟩ = some (.int .i64 a1) ∧ u.cell? ⟨b, 3, none⟩ = some (.int .i64 b1) ∧ u.cell? ⟨b, 4, none⟩ = some (.int .i64 a2) ∧ u.cell? ⟨b, 5, none⟩ = some (.int .i64 b2) ∧ (∀ o, u.frozen? ⟨b, o, none⟩ = false)
theorem C6.set2 {u : World} {b k : Nat} {a0 b0 a1 b1 a2 b2 : Int} (h : C6 u b a0 b0 a1 b1 a2 b2) (x y : Int) (hk : k < 3) :
    C6 ((u.setCell ⟨b, k * 2, none⟩ (.int .i64 x)).setCell ⟨b, k * 2 + 1, none⟩ (.int .i64 y)) b (if k = 0 then x else a0) (if k = 0 then y else b0) (if k = 1 then x else a1) (if k = 1 then y else b1) (if k = 2 then x else a2) (if k = 2 then y else b2) := by
  obtain ⟨c0, c1, c2, c3, c4, c5, hf⟩ := h
  have key : ∀ (o : Nat) (v : Value), u.cell? ⟨b, o, none⟩ = some v → ((u.setCell ⟨b, k * 2, none⟩ (.int .i64 x)).setCell ⟨b, k * 2 + 1, none⟩ (.int .i64 y)).cell? ⟨b, o, none⟩ = some (if o = k * 2 + 1 then .int .i64 y else if o = k * 2 then .int .i64 x else v) := fun o v hv => by
    by_cases e1 : o = k * 2 + 1
    · subst e1
      rw [if_pos rfl]
      refine World.cell?_setCell_same _ _ (.int .i64 y) (show _ = some v from ?_)
      rw [World.cell?_setCell_other _ _ _ _ (fun hh => by have hh' : k * 2 = k * 2 + 1 := congrArg Addr.off hh; omega)]
      exact hv
    · rw [if_neg e1, World.cell?_setCell_other _ _ _ _ (fun hh => e1 (congrArg Addr.off hh).symm)]
      by_cases e2 : o = k * 2
      · subst e2
        rw [if_pos rfl]
        exact World.cell?_setCell_same _ _ (.int .i64 x) hv
      · rw [if_neg e2, World.cell?_setCell_other _ _ _ _ (fun hh => e2 (congrArg Addr.off hh).symm)]
        exact hv
  have k0 := key 0 _ c0
  have k1 := key 1 _ c1
  have k2 := key 2 _ c2
  have k3 := key 3 _ c3
  have k4 := key 4 _ c4
  have k5 := key 5 _ c5
  rcases (show k = 0 ∨ k = 1 ∨ k = 2 by omega) with rfl | rfl | rfl
  all_goals exact ⟨by simpa using k0, by simpa using k1, by simpa using k2, by simpa using k3, by simpa using k4, by simpa using k5, fun o => (World.frozen?_setCell _ _ _ _).trans ((World.frozen?_setCell _ _ _ _).trans (hf o))⟩
theorem C6.new (u : World) (a0 b0 a1 b1 a2 b2 : Int) (t : TypeId) : C6 (u.alloc (Obj.cells #[.int .i64 a0, .int .i64 b0, .int .i64 a1, .int .i64 b1, .int .i64 a2, .int .i64 b2] t)) u.heap.size a0 b0 a1 b1 a2 b2 := by
  refine ⟨?_, ?_, ?_, ?_, ?_, ?_, ?_⟩
  all_goals first
    | (unfold World.cell?; rw [heap_alloc_new]; rfl)
    | (intro o; unfold World.frozen?; rw [heap_alloc_new]; simp)
theorem C6.far {u : World} {b c o : Nat} {v : Value} {a0 b0 a1 b1 a2 b2 : Int} (h : C6 u b a0 b0 a1 b1 a2 b2) (hne : c ≠ b) : C6 (u.setCell ⟨c, o, none⟩ v) b a0 b0 a1 b1 a2 b2 := by
  have ne : ∀ p, (u.setCell ⟨c, o, none⟩ v).cell? ⟨b, p, none⟩ = u.cell? ⟨b, p, none⟩ := fun p => World.cell?_setCell_other _ _ _ _ (fun e => hne (congrArg Addr.block e))
  obtain ⟨c0, c1, c2, c3, c4, c5, hf⟩ := h
  exact ⟨(ne _).trans c0, (ne _).trans c1, (ne _).trans c2, (ne _).trans c3, (ne _).trans c4, (ne _).trans c5, fun o => (World.frozen?_setCell _ _ _ _).trans (hf o)⟩
theorem C6.call' {u v : World} {b B : Nat} {a0 b0 a1 b1 a2 b2 : Int} (h : C6 u b a0 b0 a1 b1 a2 b2) (hb : Below B u v) (hB : b < B) : C6 v b a0 b0 a1 b1 a2 b2 := by
  obtain ⟨c0, c1, c2, c3, c4, c5, hf⟩ := h
  exact ⟨(hb.cell (by exact hB)).trans c0, (hb.cell (by exact hB)).trans c1, (hb.cell (by exact hB)).trans c2, (hb.cell (by exact hB)).trans c3, (hb.cell (by exact hB)).trans c4, (hb.cell (by exact hB)).trans c5, fun o => (hb.frozen (by exact hB)).trans (hf o)⟩
theorem C6.lt {u : World} {b : Nat} {a0 b0 a1 b1 a2 b2 : Int} (h : C6 u b a0 b0 a1 b1 a2 b2) : b < u.heap.size := World.block_lt_of_cell? u _ h.1
theorem C6.call {u v : World} {b : Nat} {a0 b0 a1 b1 a2 b2 : Int} (h : C6 u b a0 b0 a1 b1 a2 b2) (hb : Below u.heap.size u v) : C6 v b a0 b0 a1 b1 a2 b2 := h.call' hb h.lt
/-- A token's entries, copied over three that are none. -/
theorem copy_key (w : World) (b n cap : Nat) (a : Option Addr) (t : List (Int × Int)) (hn : n = t.length) (h : Ivs w a t) (ht : t.length ≤ 3) (hk : C6 w b (-1) 0 (-1) 0 (-1) 0) (hab : ∀ x, a = some x → 0 < t.length → x.block < b) (B : Nat) (hB : B ≤ b) :
    ∃ w1, (∀ ty, (Builtin.copy_ #[44, 44] ty #[.slice (some ⟨b, 0, none⟩) 3 3, .slice a n cap]).run Tryz.prog w = .ok (.int .i64 (n : Int)) w1) ∧
      C6 w1 b (t.getD 0 (-1, 0)).1 (t.getD 0 (-1, 0)).2 (t.getD 1 (-1, 0)).1 (t.getD 1 (-1, 0)).2 (t.getD 2 (-1, 0)).1 (t.getD 2 (-1, 0)).2 ∧ Below B w w1 := by
  subst hn
  have hu : Tryz.prog.underlying 44 = some (.slice 78) := Tryz.underlying44
  have hs : (Tryz.prog.info? 78).map (·.size) = some 2 := by kernel_rfl
  obtain ⟨c0, c1, c2, c3, c4, c5, hf⟩ := hk
  have some6 : ∀ j, j < 6 → (w.cell? ⟨b, 0 + j, none⟩).isSome = true := fun j hj => by
    rw [Nat.zero_add]
    rcases (show j = 0 ∨ j = 1 ∨ j = 2 ∨ j = 3 ∨ j = 4 ∨ j = 5 by omega) with rfl | rfl | rfl | rfl | rfl | rfl
    · rw [c0]; rfl
    · rw [c1]; rfl
    · rw [c2]; rfl
    · rw [c3]; rfl
    · rw [c4]; rfl
    · rw [c5]; rfl
  rcases h.2 with h0 | ⟨cb, co, rfl, hc⟩
  · obtain rfl : t = [] := List.eq_nil_of_length_eq_zero h0
    exact ⟨w, fun ty => run_copy_zero w _ _ ty _ _ _ _ _ _ hu hs, ⟨c0, c1, c2, c3, c4, c5, hf⟩, Below.refl _ _⟩
  match t, ht, hc with
  | [], _, _ => exact ⟨w, fun ty => run_copy_zero w _ _ ty _ _ _ _ _ _ hu hs, ⟨c0, c1, c2, c3, c4, c5, hf⟩, Below.refl _ _⟩
  | [p], _, hc =>
    have d0 := hc 0 (by simp)
    simp only [Nat.zero_mul, Nat.add_zero, List.getElem_cons_zero] at d0
    refine ⟨_, fun ty => run_copy_two w _ _ ty _ b 0 3 3 ⟨cb, co, none⟩ 1 cap [.int .i64 p.1, .int .i64 p.2] hu hs rfl (fun j v hv => ?_) (fun j hj => some6 j (by simp at hj; omega)) (fun j hj => hf _) (fun v hv => ?_), ?_, ?_⟩
    · rcases (show j = 0 ∨ j = 1 ∨ 2 ≤ j by omega) with rfl | rfl | h2
      · simp at hv; subst hv; simpa [Addr.add] using d0.1
      · simp at hv; subst hv; simpa [Addr.add] using d0.2
      · rw [List.getElem?_eq_none (by simpa using h2)] at hv; cases hv
    · simp at hv; rcases hv with rfl | rfl <;> rfl
    · exact C6.set2 (k := 0) ⟨c0, c1, c2, c3, c4, c5, hf⟩ p.1 p.2 (by omega)
    · exact ((Below.refl _ _).setCell (by exact hB) _).setCell (by exact hB) _
  | [p, q], _, hc =>
    have d0 := hc 0 (by simp)
    have d1 := hc 1 (by simp)
    simp only [Nat.zero_mul, Nat.add_zero, Nat.one_mul, List.getElem_cons_zero, List.getElem_cons_succ] at d0 d1
    refine ⟨_, fun ty => run_copy_two w _ _ ty _ b 0 3 3 ⟨cb, co, none⟩ 2 cap [.int .i64 p.1, .int .i64 p.2, .int .i64 q.1, .int .i64 q.2] hu hs rfl (fun j v hv => ?_) (fun j hj => some6 j (by simp at hj; omega)) (fun j hj => hf _) (fun v hv => ?_), ?_, ?_⟩
    · rcases (show j = 0 ∨ j = 1 ∨ j = 2 ∨ j = 3 ∨ 4 ≤ j by omega) with rfl | rfl | rfl | rfl | h2
      · simp at hv; subst hv; simpa [Addr.add] using d0.1
      · simp at hv; subst hv; simpa [Addr.add] using d0.2
      · simp at hv; subst hv; simpa [Addr.add] using d1.1
      · simp at hv; subst hv; simpa [Addr.add] using d1.2
      · rw [List.getElem?_eq_none (by simpa using h2)] at hv; cases hv
    · simp at hv; rcases hv with rfl | rfl | rfl | rfl <;> rfl
    · exact C6.set2 (k := 1) (C6.set2 (k := 0) ⟨c0, c1, c2, c3, c4, c5, hf⟩ p.1 p.2 (by omega)) q.1 q.2 (by omega)
    · exact ((((Below.refl _ _).setCell (by exact hB) _).setCell (by exact hB) _).setCell (by exact hB) _).setCell (by exact hB) _
  | [p, q, r], _, hc =>
    have d0 := hc 0 (by simp)
    have d1 := hc 1 (by simp)
    have d2 := hc 2 (by simp)
    simp only [Nat.zero_mul, Nat.add_zero, Nat.one_mul, List.getElem_cons_zero, List.getElem_cons_succ] at d0 d1 d2
    refine ⟨_, fun ty => run_copy_two w _ _ ty _ b 0 3 3 ⟨cb, co, none⟩ 3 cap [.int .i64 p.1, .int .i64 p.2, .int .i64 q.1, .int .i64 q.2, .int .i64 r.1, .int .i64 r.2] hu hs rfl (fun j v hv => ?_) (fun j hj => some6 j (by simp at hj; omega)) (fun j hj => hf _) (fun v hv => ?_), ?_, ?_⟩
    · rcases (show j = 0 ∨ j = 1 ∨ j = 2 ∨ j = 3 ∨ j = 4 ∨ j = 5 ∨ 6 ≤ j by omega) with rfl | rfl | rfl | rfl | rfl | rfl | h2
      · simp at hv; subst hv; simpa [Addr.add] using d0.1
      · simp at hv; subst hv; simpa [Addr.add] using d0.2
      · simp at hv; subst hv; simpa [Addr.add] using d1.1
      · simp at hv; subst hv; simpa [Addr.add] using d1.2
      · simp at hv; subst hv; simpa [Addr.add] using d2.1
      · simp at hv; subst hv; simpa [Addr.add] using d2.2
      · rw [List.getElem?_eq_none (by simpa using h2)] at hv; cases hv
    · simp at hv; rcases hv with rfl | rfl | rfl | rfl | rfl | rfl <;> rfl
    · exact C6.set2 (k := 2) (C6.set2 (k := 1) (C6.set2 (k := 0) ⟨c0, c1, c2, c3, c4, c5, hf⟩ p.1 p.2 (by omega)) q.1 q.2 (by omega)) r.1 r.2 (by omega)
    · exact ((((((Below.refl _ _).setCell (by exact hB) _).setCell (by exact hB) _).setCell (by exact hB) _).setCell (by exact hB) _).setCell (by exact hB) _).setCell (by exact hB) _
theorem tok_len {t : List (Int × Int)} (h : tokB t = true) : t.length ≤ 3 := by
  unfold tokB at h
  rw [Bool.and_eq_true] at h
  exact of_decide_eq_true h.1
set_option maxRecDepth 20000 in
set_option maxHeartbeats 4000000 in
theorem keyOf_c (a : Option Addr) (cap : Nat) (t : List (Int × Int)) (w : World) (h : Ivs w a t) (ht : tokB t = true) :
    Calls Tryz.prog 40 #[.slice a t.length cap] w fun e w' => e = .returned (tkV t) ∧ Below w.heap.size w w' := by
  have HA := hide h
  have HT := hide (tok_len ht)
  have HV := hide (show tkV t = .agg #[.int .i64 (t.getD 0 (-1, 0)).1, .int .i64 (t.getD 0 (-1, 0)).2, .int .i64 (t.getD 1 (-1, 0)).1, .int .i64 (t.getD 1 (-1, 0)).2, .int .i64 (t.getD 2 (-1, 0)).1, .int .i64 (t.getD 2 (-1, 0)).2] from rfl)
  obtain ⟨L, hL⟩ : ∃ L, L = t.length := ⟨_, rfl⟩
  have HL := hide hL
  rw [← hL]
  obtain ⟨V, hV⟩ : ∃ V, V = tkV t := ⟨_, rfl⟩
  rw [← hV] at HV ⊢
  clear h ht hL hV
  have Z0 := C6.new w 0 0 0 0 0 0 88
  have Z1 := C6.new (w.alloc (Obj.cells #[.int .i64 0, .int .i64 0, .int .i64 0, .int .i64 0, .int .i64 0, .int .i64 0] 88)) 0 0 0 0 0 0 88
  have K0 := (Below.refl _ w).alloc (Nat.le_refl _) (Obj.cells #[.int .i64 0, .int .i64 0, .int .i64 0, .int .i64 0, .int .i64 0, .int .i64 0] 88)
  have K1 := (Below.refl _ (w.alloc (Obj.cells #[.int .i64 0, .int .i64 0, .int .i64 0, .int .i64 0, .int .i64 0, .int .i64 0] 88))).alloc (Nat.le_refl _) (Obj.cells #[.int .i64 0, .int .i64 0, .int .i64 0, .int .i64 0, .int .i64 0, .int .i64 0] 88)
  rw [show (w.alloc (Obj.cells #[.int .i64 0, .int .i64 0, .int .i64 0, .int .i64 0, .int .i64 0, .int .i64 0] 88)).heap.size = w.heap.size + 1 by simp] at Z1
  have HZ0 := hide (Z0.call K1)
  have HZ1 := hide Z1
  have HB := hide (K0.trans (K1.mono (by simp)))
  clear Z0 Z1 K0 K1
  go_enter Tryz.func40, Tryz.ntmps40
  go_wp2_with fail
  generalize (w.alloc (Obj.cells #[.int .i64 0, .int .i64 0, .int .i64 0, .int .i64 0, .int .i64 0, .int .i64 0] 88)).alloc (Obj.cells #[.int .i64 0, .int .i64 0, .int .i64 0, .int .i64 0, .int .i64 0, .int .i64 0] 88) = u at HZ0 HZ1 HB ⊢
  go_loopw [5] (fun i wr => ∃ k : Nat, k ≤ 3 ∧ i = .int .i64 k ∧ C6 wr (w.heap.size + 1) (if 0 < k then -1 else 0) 0 (if 1 < k then -1 else 0) 0 (if 2 < k then -1 else 0) 0 ∧ C6 wr w.heap.size 0 0 0 0 0 0 ∧ Below w.heap.size w wr) (fun i _ => 3 - (intOf i).toNat)
  case atStart => exact ⟨0, by omega, rfl, unhide HZ1, unhide HZ0, unhide HB⟩
  case round =>
    clear HZ0 HZ1 HB
    obtain ⟨k, hk, rfl, h1, h0, hb⟩ := hrel
    have H1 := hide h1
    have H0 := hide h0
    have HB := hide hb
    clear h1 h0 hb
    rcases (show k = 0 ∨ k = 1 ∨ k = 2 ∨ k = 3 by omega) with rfl | rfl | rfl | rfl
    · have c0 := (unhide H1).1
      have c1 := (unhide H1).2.1
      have f0 := (unhide H1).2.2.2.2.2.2 0
      have f1 := (unhide H1).2.2.2.2.2.2 1
      have HN := hide (C6.set2 (k := 0) (unhide H1) (-1) 0 (by omega))
      have HM := hide ((C6.far (c := w.heap.size + 1) (o := 1) (v := .int .i64 0) (C6.far (c := w.heap.size + 1) (o := 0) (v := .int .i64 (-1)) (unhide H0) (by omega)) (by omega)))
      have HB := hide (((unhide HB).setCell (p := ⟨w.heap.size + 1, 0, none⟩) (by show w.heap.size ≤ w.heap.size + 1; omega) (.int .i64 (-1))).setCell (p := ⟨w.heap.size + 1, 1, none⟩) (by show w.heap.size ≤ w.heap.size + 1; omega) (.int .i64 0))
      go_wp2
      go_roundw
      case rel => exact ⟨1, by omega, by go_num, by simpa using unhide HN, unhide HM, unhide HB⟩
      case measure => simp [intOf]
    · have c0 := (unhide H1).2.2.1
      have c1 := (unhide H1).2.2.2.1
      have f0 := (unhide H1).2.2.2.2.2.2 2
      have f1 := (unhide H1).2.2.2.2.2.2 3
      have HN := hide (C6.set2 (k := 1) (unhide H1) (-1) 0 (by omega))
      have HM := hide ((C6.far (c := w.heap.size + 1) (o := 3) (v := .int .i64 0) (C6.far (c := w.heap.size + 1) (o := 2) (v := .int .i64 (-1)) (unhide H0) (by omega)) (by omega)))
      have HB := hide (((unhide HB).setCell (p := ⟨w.heap.size + 1, 2, none⟩) (by show w.heap.size ≤ w.heap.size + 1; omega) (.int .i64 (-1))).setCell (p := ⟨w.heap.size + 1, 3, none⟩) (by show w.heap.size ≤ w.heap.size + 1; omega) (.int .i64 0))
      go_wp2
      go_roundw
      case rel => exact ⟨2, by omega, by go_num, by simpa using unhide HN, unhide HM, unhide HB⟩
      case measure => simp [intOf]
    · have c0 := (unhide H1).2.2.2.2.1
      have c1 := (unhide H1).2.2.2.2.2.1
      have f0 := (unhide H1).2.2.2.2.2.2 4
      have f1 := (unhide H1).2.2.2.2.2.2 5
      have HN := hide (C6.set2 (k := 2) (unhide H1) (-1) 0 (by omega))
      have HM := hide ((C6.far (c := w.heap.size + 1) (o := 5) (v := .int .i64 0) (C6.far (c := w.heap.size + 1) (o := 4) (v := .int .i64 (-1)) (unhide H0) (by omega)) (by omega)))
      have HB := hide (((unhide HB).setCell (p := ⟨w.heap.size + 1, 4, none⟩) (by show w.heap.size ≤ w.heap.size + 1; omega) (.int .i64 (-1))).setCell (p := ⟨w.heap.size + 1, 5, none⟩) (by show w.heap.size ≤ w.heap.size + 1; omega) (.int .i64 0))
      go_wp2
      go_roundw
      case rel => exact ⟨3, by omega, by go_num, by simpa using unhide HN, unhide HM, unhide HB⟩
      case measure => simp [intOf]
    · obtain ⟨w1, hcp, hk6, hb6⟩ := copy_key wr (w.heap.size + 1) L cap a t (unhide HL) ((unhide HA).call (unhide HB)) (unhide HT) (by simpa using unhide H1) (fun x e hx => by have := (unhide HA).lt x e hx; omega) (w.heap.size + 1) (Nat.le_refl _)
      have HB := hide ((unhide HB).trans (hb6.mono (by omega)))
      have H0 := hide ((unhide H0).call' hb6 (by omega))
      have H6 := hide hk6
      clear hk6 hb6
      generalize (t.getD 0 (-1, 0)).1 = x0 at H6 HV
      generalize (t.getD 0 (-1, 0)).2 = y0 at H6 HV
      generalize (t.getD 1 (-1, 0)).1 = x1 at H6 HV
      generalize (t.getD 1 (-1, 0)).2 = y1 at H6 HV
      generalize (t.getD 2 (-1, 0)).1 = x2 at H6 HV
      generalize (t.getD 2 (-1, 0)).2 = y2 at H6 HV
      have c0 := (unhide H6).1
      have c1 := (unhide H6).2.1
      have c2 := (unhide H6).2.2.1
      have c3 := (unhide H6).2.2.2.1
      have c4 := (unhide H6).2.2.2.2.1
      have c5 := (unhide H6).2.2.2.2.2.1
      have r0 := (unhide H0).1
      have r1 := (unhide H0).2.1
      have r2 := (unhide H0).2.2.1
      have r3 := (unhide H0).2.2.2.1
      have r4 := (unhide H0).2.2.2.2.1
      have r5 := (unhide H0).2.2.2.2.2.1
      have f0 := (unhide H0).2.2.2.2.2.2 0
      have f1 := (unhide H0).2.2.2.2.2.2 1
      have f2 := (unhide H0).2.2.2.2.2.2 2
      have f3 := (unhide H0).2.2.2.2.2.2 3
      have f4 := (unhide H0).2.2.2.2.2.2 4
      have f5 := (unhide H0).2.2.2.2.2.2 5
      go_wp2
      exact bodyPost_ret (v := .agg #[.int .i64 x0, .int .i64 y0, .int .i64 x1, .int .i64 y1, .int .i64 x2, .int .i64 y2]) (by simp [results, Tryz.results40, go_sem, r0, r1, r2, r3, r4, r5]) rfl ⟨by rw [unhide HV], (((((((unhide HB).setCell (by exact Nat.le_refl _) _).setCell (by exact Nat.le_refl _) _).setCell (by exact Nat.le_refl _) _).setCell (by exact Nat.le_refl _) _).setCell (by exact Nat.le_refl _) _).setCell (by exact Nat.le_refl _) _)⟩
end Go.Proofs.YthldhjifnpfmiaaGreatDoor

/- The places of parts, by their tokens. -/
namespace Go.Proofs.YthldhjifnpfmiaaGreatDoor
open Go.RowKit Go.Maps
set_option linter.unusedSimpArgs false
set_option linter.unusedVariables false

set_option maxRecDepth 20000 in
set_option maxHeartbeats 4000000 in
theorem placesOf_c (a : Option Addr) (cap : Nat) (ps : List PR) (w : World) (h : Parts w a ps) (ht : ∀ i, (hi : i < ps.length) → tokB ps[i].1 = true) :
    Calls Tryz.prog 39 #[.slice a ps.length cap] w fun e w' => ∃ b n, e = .returned (.map (some b)) ∧ TkM w' b n (fun t => posT ps t ps.length) ∧ w.heap.size ≤ b ∧ Below w.heap.size w w' := by
  have hl := h.1
  have HA := hide h
  have HT := hide ht
  obtain ⟨L, hL⟩ : ∃ L, L = ps.length := ⟨_, rfl⟩
  have HL := hide hL
  rw [← hL] at hl ⊢
  have hl' : (L : Int) ≤ 1048576 := by omega
  have HM := hide (TkM.made w)
  have HB := hide ((Below.refl _ w).alloc (Nat.le_refl _) (.map #[] 0))
  clear h ht hL
  have hmm := @run_makeMap Tryz.prog
  go_enter Tryz.func39, Tryz.ntmps39
  go_wp2_with fail
  generalize w.alloc (.map #[] 0) = u at HM HB ⊢
  go_loopw [9] (fun i wr => ∃ k : Nat, k ≤ L ∧ i = .int .i64 k ∧ TkM wr w.heap.size k (fun t => posT ps t k) ∧ Below w.heap.size w wr) (fun i _ => L - (intOf i).toNat)
  case atStart => exact ⟨0, Nat.zero_le _, rfl, unhide HM, unhide HB⟩
  case round =>
    clear HM HB
    obtain ⟨k, hk, rfl, hm, hb⟩ := hrel
    have HM := hide hm
    have HB := hide hb
    clear hm hb
    by_cases hlt : k < L
    · have hk' : k < ps.length := by rw [← unhide HL]; exact hlt
      rcases ((unhide HA).call (unhide HB)).2 with h0 | ⟨cb, co, rfl, hc⟩
      · omega
      obtain ⟨xa, xc, ya, yc, c1, c2, i1, i2⟩ := hc k hk'
      have HI := hide i1
      have TK := hide ((unhide HT) k hk')
      have PK := hide (show posT ps ps[k].1 (k + 1) = some k by unfold posT; rw [getD_at ps k hk', if_pos rfl])
      have PP := hide (show ∀ t, posT ps t (k + 1) = if ps[k].1 = t then some k else posT ps t k from fun t => by rw [← getD_at ps k hk']; rfl)
      clear hc i1 i2
      generalize ps[k].1 = t at c1 HI TK PK PP
      generalize ps[k].2.length = m at c2
      have HC2 := hide (C2.new wr (.slice xa t.length xc) (.slice ya m yc) 72)
      have ka := (Below.refl _ wr).alloc (Nat.le_refl _) (Obj.cells #[.slice xa t.length xc, .slice ya m yc] 72)
      have HM := hide ((unhide HM).call ka)
      have HI := hide ((unhide HI).call ka)
      have HB := hide ((unhide HB).trans (ka.mono (unhide HB).size))
      clear ka
      go_wp2_with fail
      generalize wr.alloc (Obj.cells #[.slice xa t.length xc, .slice ya m yc] 72) = V at HC2 HM HB HI ⊢
      clear c1 c2
      refine (keyOf_c xa xc t V (unhide HI) (unhide TK)).mono ?_
      rintro e V1 ⟨rfl, kb⟩
      have HM := hide ((unhide HM).call kb)
      have HB := hide ((unhide HB).trans (kb.mono (unhide HB).size))
      clear kb
      obtain ⟨V2, hr, hm2, hg⟩ := (unhide HM).put (unhide TK) (by omega) k (by omega)
      have HM := hide (show TkM V2 w.heap.size (k + 1) (fun s => posT ps s (k + 1)) from by
        have q : (fun s => posT ps s (k + 1)) = (fun s => if t = s then some k else posT ps s k) := funext fun s => unhide PP s
        rw [q]; exact hm2)
      have HB := hide ((unhide HB).grown hg (unhide HB).size (fun j hj => by cases hj; exact Nat.le_refl _))
      clear hm2 hg
      go_wp2
      go_roundw
      case rel => exact ⟨k + 1, by omega, by go_num, unhide HM, unhide HB⟩
      case measure => simp [intOf]; omega
    · obtain rfl : k = L := by omega
      go_wp2
      go_ret
      exact ⟨w.heap.size, k, rfl, unhide HM, Nat.le_refl _, unhide HB⟩
end Go.Proofs.YthldhjifnpfmiaaGreatDoor

