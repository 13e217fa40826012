/- Texts that go together: SetC, IntR. -/
import Derived.Test.YtpdnnpnclgcpoaaDoorCoZ
/- One interval of a row of the call's own is written. -/
namespace Go.Proofs.YtpdnnpnclgcpoaaDoor
open Go.RowKit
set_option linter.unusedSimpArgs false
set_option linter.unusedVariables false

theorem cellsV_set (xs : List (Int × Int)) : ∀ (v : Nat) (p : Int × Int), v < xs.length → ((cellsV xs).set (v * 2) (.int .i64 p.1)).set (v * 2 + 1) (.int .i64 p.2) = cellsV (xs.set v p) := by
  induction xs with
  | nil => intro v p h; cases h
  | cons q l ih =>
    intro v p h
    have e : cellsV (q :: l) = .int .i64 q.1 :: .int .i64 q.2 :: cellsV l := rfl
    cases v with
    | zero => rw [e]; rfl
    | succ v =>
      have k := ih v p (by simpa using h)
      have e2 : cellsV (q :: l.set v p) = .int .i64 q.1 :: .int .i64 q.2 :: cellsV (l.set v p) := rfl
      rw [e, List.set_cons_succ, e2, ← k, show (v + 1) * 2 = v * 2 + 1 + 1 by omega]
      simp only [List.set_cons_succ]
theorem own_far_set {w : World} {B b o : Nat} {e : TypeId} {k : Nat} {v x : Value} {n : Nat} {xs : List Value} (h : w.ownsRow B e k v n xs) (hne : v.ownBlock ≠ some b) : (w.setCell ⟨b, o, none⟩ x).ownsRow B e k v n xs := by
  refine ⟨h.1, ?_⟩
  rcases h.2 with h0 | ⟨g, cap, cur, hv, hB, hg, r⟩
  · exact .inl h0
  · refine .inr ⟨g, cap, cur, hv, hB, (Below.heap_setCell _ _ _ _ ?_).trans hg, r⟩
    intro q
    subst hv
    exact hne (congrArg some q)
theorem RowsE.write {w : World} {B ca cb v : Nat} {oa ob : Option Addr} {xs ys : List (Int × Int)} (h : RowsE w B oa ca ob cb xs ys) (hv : v < xs.length) (p : Int × Int) :
    ∃ g, oa = some ⟨g, 0, none⟩ ∧ B ≤ g ∧ g < w.heap.size ∧ (∃ v0 v1, w.cell? ⟨g, v * 2, none⟩ = some v0 ∧ w.cell? ⟨g, v * 2 + 1, none⟩ = some v1) ∧ (∀ o, w.frozen? ⟨g, o, none⟩ = false) ∧
      RowsE ((w.setCell ⟨g, v * 2, none⟩ (.int .i64 p.1)).setCell ⟨g, v * 2 + 1, none⟩ (.int .i64 p.2)) B oa ca ob cb (xs.set v p) ys := by
  have h1 := h.1
  rcases h1.2 with ⟨_, h0⟩ | ⟨g, cap, cur, hq, hB, hg, hn, hm, hs, ht⟩
  · omega
  · cases hq
    have lt := (h1.lt g rfl).2
    have c := cellsV_at xs v hv
    have hadd : ∀ j, (⟨g, 0, none⟩ : Addr).add j = ⟨g, j, none⟩ := fun j => by unfold Addr.add; split <;> simp_all
    have k1 := h1.cells (g := g) rfl (v * 2) _ c.1
    have k2 := h1.cells (g := g) rfl (v * 2 + 1) _ c.2
    rw [hadd] at k1 k2
    have s1 := ((h1.stored (v * 2) (.int .i64 p.1)).1.stored (v * 2 + 1) (.int .i64 p.2)).1
    rw [cellsV_set xs v p hv] at s1
    have ne : (Value.slice ob ys.length cb).ownBlock ≠ some g := by
      cases ob with
      | none => intro q; cases q
      | some y => intro q; exact h.2.2 _ y rfl rfl (by have := Option.some.inj q; simp; omega)
    refine ⟨g, rfl, hB, lt, ⟨_, _, k1, k2⟩, fun o => h1.frozenAt o, ?_, own_far_set (own_far_set h.2.1 ne) ne, h.2.2⟩
    rw [List.length_set]
    exact s1
end Go.Proofs.YtpdnnpnclgcpoaaDoor

/- Where intervals stand, also in rows that are none. -/
namespace Go.Proofs.YtpdnnpnclgcpoaaDoor
open Go.RowKit
set_option linter.unusedSimpArgs false

def ptrsB (e k : Nat) : List Addr := (List.range k).map fun i => ⟨e, i * 2, none⟩
theorem ptrsB_succ (e k : Nat) : ptrsB e (k + 1) = ptrsB e k ++ [⟨e, k * 2, none⟩] := by simp [ptrsB, List.range_succ]
theorem ptrsB_len (e k : Nat) : (ptrsB e k).length = k := by simp [ptrsB]
set_option maxRecDepth 20000 in
set_option maxHeartbeats 4000000 in
theorem intervalsR_c (b : Nat) (li : Bool) (oa1 oa2 : Option Addr) (e1 e2 d1 d2 M N : Nat) (ha1 : M = 0 ∨ oa1 = some ⟨e1, 0, none⟩) (ha2 : N = 0 ∨ oa2 = some ⟨e2, 0, none⟩) (w : World) (ht : C3 w b (.bool li) (.slice oa1 M d1) (.slice oa2 N d2)) (hl : M + N ≤ 1000) :
    Calls Tryd.prog 91 #[.pointer (some ⟨b, 0, none⟩)] w fun e w' => ∃ oa cap, e = .returned (.slice oa (M + N) cap) ∧ w'.ownsRow w.heap.size 119 1 (.slice oa (M + N) cap) (M + N) (cellsP (ptrsB e1 M ++ ptrsB e2 N)) ∧ Below w.heap.size w w' := by
  have hM : (M : Int) ≤ 1000 := by omega
  have hN : (N : Int) ≤ 1000 := by omega
  have hbl := ht.lt
  have HA1 := hide ha1
  have HA2 := hide ha2
  clear ha1 ha2
  have t1 := ht.2.1
  have HT := hide ht
  clear ht
  obtain ⟨inf, hi, hz0, hz1, hz2⟩ := info_parts ptrInfo
  go_enter Tryd.func91, Tryd.ntmps91
  go_wp2
  clear t1
  go_loopw [3, 11] (fun l i wr => ∃ (k : Nat) (oa : Option Addr) (cap : Nat), k ≤ M ∧ i = .int .i64 k ∧ l = .slice oa k cap ∧ wr.ownsRow w.heap.size 119 1 (.slice oa k cap) k (cellsP (ptrsB e1 k)) ∧ C3 wr b (.bool li) (.slice oa1 M d1) (.slice oa2 N d2) ∧ Below w.heap.size w wr) (fun _ i _ => M - (intOf i).toNat)
  case atStart => exact ⟨0, none, 0, Nat.zero_le _, rfl, rfl, World.ownsRow_nil _ _ _ _, unhide HT, Below.refl _ _⟩
  case round =>
    clear HT
    obtain ⟨k, oa, cap, hk, rfl, rfl, ho, ht, hb⟩ := hrel
    have HO := hide ho
    have HT := hide ht
    have HB := hide hb
    have t1 := ht.2.1
    have t2 := ht.2.2.1
    clear ho ht hb
    by_cases hlt : k < M
    · clear t2
      rcases unhide HA1 with h0 | rfl
      · omega
      go_wp2_with (at_builtin; refine wpList_app _ rfl _ _ 117 rfl w.heap.size 119 inf (.pointer none) 1 8 Tryd.underlying117 hi hz0 hz1 hz2 rfl (by decide) _ _ _ rfl ((unhide HO).alloc _) ⟨_, 0, none⟩ 1 1 [.pointer (some ⟨e1, k * 2, none⟩)] rfl rfl (World.news_of_block (heap_alloc_new _ _)) (by simp [Value.oneCell']) (by unfold maxLen; omega) (by omega) (by have := (unhide HB).size; simp; omega) ?_; intro oa' cap' w3 hown hgrow)
      rw [← cellsP_snoc, ← ptrsB_succ] at hown
      have ha := (unhide HB).alloc (unhide HB).size (Obj.cells #[.pointer (some ⟨e1, k * 2, none⟩)] 119)
      exact ⟨⟨k + 1, oa', cap', by omega, by go_num, rfl, hown, ((unhide HT).alloc _).grown hgrow (fun e => by have := (((unhide HO).alloc (Obj.cells #[.pointer (some ⟨e1, k * 2, none⟩)] 119)).lt b e.symm).1; omega), ha.grown hgrow ha.size (fun j hj => (((unhide HO).alloc (Obj.cells #[.pointer (some ⟨e1, k * 2, none⟩)] 119)).lt j hj).1)⟩, by simp [intOf]; omega⟩
    · obtain rfl : M = k := by omega
      go_wp2
      clear t1 t2
      generalize wr = wo at HO HT HB ⊢
      go_loopw [3, 29] (fun l i wr => ∃ (k : Nat) (oa : Option Addr) (cap : Nat), k ≤ N ∧ i = .int .i64 k ∧ l = .slice oa (M + k) cap ∧ wr.ownsRow w.heap.size 119 1 (.slice oa (M + k) cap) (M + k) (cellsP (ptrsB e1 M ++ ptrsB e2 k)) ∧ C3 wr b (.bool li) (.slice oa1 M d1) (.slice oa2 N d2) ∧ Below w.heap.size w wr) (fun _ i _ => N - (intOf i).toNat)
      case atStart => exact ⟨0, oa, cap, Nat.zero_le _, rfl, rfl, by simpa [ptrsB] using unhide HO, unhide HT, unhide HB⟩
      case round =>
        clear HO HT HB
        obtain ⟨k, oa, cap, hk, rfl, rfl, ho, ht, hb⟩ := hrel
        have HO := hide ho
        have HT := hide ht
        have HB := hide hb
        have t2 := ht.2.2.1
        clear ho ht hb
        by_cases hlt : k < N
        · rcases unhide HA2 with h0 | rfl
          · omega
          go_wp2_with (at_builtin; refine wpList_app _ rfl _ _ 117 rfl w.heap.size 119 inf (.pointer none) 1 8 Tryd.underlying117 hi hz0 hz1 hz2 rfl (by decide) _ _ _ rfl ((unhide HO).alloc _) ⟨_, 0, none⟩ 1 1 [.pointer (some ⟨e2, k * 2, none⟩)] rfl rfl (World.news_of_block (heap_alloc_new _ _)) (by simp [Value.oneCell']) (by unfold maxLen; omega) (by omega) (by have := (unhide HB).size; simp; omega) ?_; intro oa' cap' w3 hown hgrow)
          rw [← cellsP_snoc, List.append_assoc, ← ptrsB_succ] at hown
          have ha := (unhide HB).alloc (unhide HB).size (Obj.cells #[.pointer (some ⟨e2, k * 2, none⟩)] 119)
          exact ⟨⟨k + 1, oa', cap', by omega, by go_num, rfl, hown, ((unhide HT).alloc _).grown hgrow (fun e => by have := (((unhide HO).alloc (Obj.cells #[.pointer (some ⟨e2, k * 2, none⟩)] 119)).lt b e.symm).1; omega), ha.grown hgrow ha.size (fun j hj => (((unhide HO).alloc (Obj.cells #[.pointer (some ⟨e2, k * 2, none⟩)] 119)).lt j hj).1)⟩, by simp [intOf]; omega⟩
        · obtain rfl : N = k := by omega
          go_wp2
          go_ret
          exact ⟨_, _, rfl, unhide HO, unhide HB⟩
theorem RowsE.swap {w : World} {B ca cb : Nat} {oa ob : Option Addr} {xs ys : List (Int × Int)} (h : RowsE w B oa ca ob cb xs ys) : RowsE w B ob cb oa ca ys xs := ⟨h.2.1, h.1, fun x y hx hy e => h.2.2 y x hy hx e.symm⟩
theorem RowsE.at1 {w : World} {B ca cb : Nat} {oa ob : Option Addr} {xs ys : List (Int × Int)} (h : RowsE w B oa ca ob cb xs ys) : ∃ g, xs.length = 0 ∨ oa = some ⟨g, 0, none⟩ := by
  rcases h.1.2 with ⟨_, h0⟩ | ⟨g, cap, cur, hv, _⟩
  · exact ⟨0, .inl h0⟩
  · exact ⟨g, .inr (by cases hv; rfl)⟩
theorem RowsE.at2 {w : World} {B ca cb : Nat} {oa ob : Option Addr} {xs ys : List (Int × Int)} (h : RowsE w B oa ca ob cb xs ys) : ∃ g, ys.length = 0 ∨ ob = some ⟨g, 0, none⟩ := h.swap.at1
end Go.Proofs.YtpdnnpnclgcpoaaDoor

