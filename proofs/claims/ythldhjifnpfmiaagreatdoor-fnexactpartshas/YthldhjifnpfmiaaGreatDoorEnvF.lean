/- Bounds: where their intervals stand, as the program gathers them. -/
import Derived.Test.YthldhjifnpfmiaaGreatDoorEnvE
import Derived.Test.YthldhjifnpfmiaaGreatDoorDeclF
namespace Go.Proofs.YthldhjifnpfmiaaGreatDoor
open Go.RowKit
set_option linter.unusedSimpArgs false

def ptrV (a : Addr) : Value := .pointer (some a)
def ptrsN (e k : Nat) : List Addr := (List.range k).map fun i => ⟨e, i * 2, none⟩
def cellsP (l : List Addr) : List Value := l.map fun a => .pointer (some a)
theorem ptrsN_succ (e k : Nat) : ptrsN e (k + 1) = ptrsN e k ++ [⟨e, k * 2, none⟩] := by simp [ptrsN, List.range_succ]
theorem ptrsN_len (e k : Nat) : (ptrsN e k).length = k := by simp [ptrsN]
theorem cellsP_snoc (l : List Addr) (a : Addr) : cellsP (l ++ [a]) = cellsP l ++ [.pointer (some a)] := by simp [cellsP]
theorem ptrInfo : (Tryz.prog.info? 151).map (fun i => (i.zero, i.size, i.bytes)) = some (some (.pointer none), 1, 8) := by kernel_rfl
/-- So many pointers at an address. -/
def Ptrs (w : World) (a : Option Addr) (xs : List Addr) : Prop :=
  xs.length ≤ 1048576 ∧ (xs.length = 0 ∨ ∃ cb co, a = some ⟨cb, co, none⟩ ∧ ∀ i, (h : i < xs.length) → w.cell? ⟨cb, co + i, none⟩ = some (.pointer (some xs[i])))
theorem Ptrs.call {w w1 : World} {a : Option Addr} {xs : List Addr} (h : Ptrs w a xs) (hb : Below w.heap.size w w1) : Ptrs w1 a xs := by
  refine ⟨h.1, ?_⟩
  rcases h.2 with h0 | ⟨cb, co, rfl, hc⟩
  · exact .inl h0
  · exact .inr ⟨cb, co, rfl, fun i hi => (hb.cell (World.block_lt_of_cell? w _ (hc i hi))).trans (hc i hi)⟩
theorem Ptrs.ofOwn {w : World} {base : Nat} {oa : Option Addr} {n cap : Nat} {xs : List Addr} (h : w.ownsRow base 151 1 (.slice oa n cap) n (cellsP xs)) (hl : n ≤ 1048576) : n = xs.length ∧ Ptrs w oa xs := by
  have hn : n = xs.length := by have := h.1; simp [cellsP] at this; omega
  refine ⟨hn, by omega, ?_⟩
  rcases h.2 with ⟨_, h1⟩ | ⟨g, cap', cur, hv, _⟩
  · exact .inl (by omega)
  · cases hv
    refine .inr ⟨g, 0, rfl, fun i hi => ?_⟩
    have k := h.cells (g := g) rfl i (.pointer (some xs[i])) (by simp [cellsP, hi])
    have hadd : (⟨g, 0, none⟩ : Addr).add i = ⟨g, i, none⟩ := by unfold Addr.add; split <;> simp_all
    rw [hadd] at k
    rw [Nat.zero_add]
    exact k
set_option maxRecDepth 20000 in
set_option maxHeartbeats 4000000 in
theorem intervals_c (b : Nat) (li : Bool) (e1 e2 d1 d2 M N : Nat) (w : World) (ht : C3 w b (.bool li) (.slice (some ⟨e1, 0, none⟩) M d1) (.slice (some ⟨e2, 0, none⟩) N d2)) (hl : M + N ≤ 1000) :
    Calls Tryz.prog 97 #[.pointer (some ⟨b, 0, none⟩)] w fun e w' => ∃ oa cap, e = .returned (.slice oa (M + N) cap) ∧ w'.ownsRow w.heap.size 151 1 (.slice oa (M + N) cap) (M + N) (cellsP (ptrsN e1 M ++ ptrsN e2 N)) ∧ Below w.heap.size w w' := by
  have hM : (M : Int) ≤ 1000 := by omega
  have hN : (N : Int) ≤ 1000 := by omega
  have hbl := ht.lt
  have t1 := ht.2.1
  have HT := hide ht
  clear ht
  obtain ⟨inf, hi, hz0, hz1, hz2⟩ := info_parts ptrInfo
  go_enter Tryz.func97, Tryz.ntmps97
  go_wp2
  clear t1
  go_loopw [3, 11] (fun l i wr => ∃ (k : Nat) (oa : Option Addr) (cap : Nat), k ≤ M ∧ i = .int .i64 k ∧ l = .slice oa k cap ∧ wr.ownsRow w.heap.size 151 1 (.slice oa k cap) k (cellsP (ptrsN e1 k)) ∧ C3 wr b (.bool li) (.slice (some ⟨e1, 0, none⟩) M d1) (.slice (some ⟨e2, 0, none⟩) N d2) ∧ Below w.heap.size w wr) (fun _ i _ => M - (intOf i).toNat)
  case atStart => exact ⟨0, none, 0, Nat.zero_le _, rfl, rfl, World.ownsRow_nil _ _ _ _, unhide HT, Below.refl _ _⟩
  case round =>
    clear HT
    obtain ⟨k, oa, cap, hk, rfl, rfl, ho, ht, hb⟩ := hrel
    have HO := hide ho
    have HT := hide ht
    have HB := hide hb
    have t1 := ht.2.1
    have t2 := ht.2.2.1
    clear ho ht hb
    by_cases hlt : k < M
    · clear t2
      go_wp2_with (at_builtin; refine wpList_app _ rfl _ _ 149 rfl w.heap.size 151 inf (.pointer none) 1 8 Tryz.underlying149 hi hz0 hz1 hz2 rfl (by decide) _ _ _ rfl ((unhide HO).alloc _) ⟨_, 0, none⟩ 1 1 [.pointer (some ⟨e1, k * 2, none⟩)] rfl rfl (World.news_of_block (heap_alloc_new _ _)) (by simp [Value.oneCell']) (by unfold maxLen; omega) (by omega) (by have := (unhide HB).size; simp; omega) ?_; intro oa' cap' w3 hown hgrow)
      rw [← cellsP_snoc, ← ptrsN_succ] at hown
      have ha := (unhide HB).alloc (unhide HB).size (Obj.cells #[.pointer (some ⟨e1, k * 2, none⟩)] 151)
      exact ⟨⟨k + 1, oa', cap', by omega, by go_num, rfl, hown, ((unhide HT).alloc _).grown hgrow (fun e => by have := (((unhide HO).alloc (Obj.cells #[.pointer (some ⟨e1, k * 2, none⟩)] 151)).lt b e.symm).1; omega), ha.grown hgrow ha.size (fun j hj => (((unhide HO).alloc (Obj.cells #[.pointer (some ⟨e1, k * 2, none⟩)] 151)).lt j hj).1)⟩, by simp [intOf]; omega⟩
    · obtain rfl : M = k := by omega
      go_wp2
      clear t1 t2
      generalize wr = wo at HO HT HB ⊢
      go_loopw [3, 29] (fun l i wr => ∃ (k : Nat) (oa : Option Addr) (cap : Nat), k ≤ N ∧ i = .int .i64 k ∧ l = .slice oa (M + k) cap ∧ wr.ownsRow w.heap.size 151 1 (.slice oa (M + k) cap) (M + k) (cellsP (ptrsN e1 M ++ ptrsN e2 k)) ∧ C3 wr b (.bool li) (.slice (some ⟨e1, 0, none⟩) M d1) (.slice (some ⟨e2, 0, none⟩) N d2) ∧ Below w.heap.size w wr) (fun _ i _ => N - (intOf i).toNat)
      case atStart => exact ⟨0, oa, cap, Nat.zero_le _, rfl, rfl, by simpa [ptrsN] using unhide HO, unhide HT, unhide HB⟩
      case round =>
        clear HO HT HB
        obtain ⟨k, oa, cap, hk, rfl, rfl, ho, ht, hb⟩ := hrel
        have HO := hide ho
        have HT := hide ht
        have HB := hide hb
        have t2 := ht.2.2.1
        clear ho ht hb
        by_cases hlt : k < N
        · go_wp2_with (at_builtin; refine wpList_app _ rfl _ _ 149 rfl w.heap.size 151 inf (.pointer none) 1 8 Tryz.underlying149 hi hz0 hz1 hz2 rfl (by decide) _ _ _ rfl ((unhide HO).alloc _) ⟨_, 0, none⟩ 1 1 [.pointer (some ⟨e2, k * 2, none⟩)] rfl rfl (World.news_of_block (heap_alloc_new _ _)) (by simp [Value.oneCell']) (by unfold maxLen; omega) (by omega) (by have := (unhide HB).size; simp; omega) ?_; intro oa' cap' w3 hown hgrow)
          rw [← cellsP_snoc, List.append_assoc, ← ptrsN_succ] at hown
          have ha := (unhide HB).alloc (unhide HB).size (Obj.cells #[.pointer (some ⟨e2, k * 2, none⟩)] 151)
          exact ⟨⟨k + 1, oa', cap', by omega, by go_num, rfl, hown, ((unhide HT).alloc _).grown hgrow (fun e => by have := (((unhide HO).alloc (Obj.cells #[.pointer (some ⟨e2, k * 2, none⟩)] 151)).lt b e.symm).1; omega), ha.grown hgrow ha.size (fun j hj => (((unhide HO).alloc (Obj.cells #[.pointer (some ⟨e2, k * 2, none⟩)] 151)).lt j hj).1)⟩, by simp [intOf]; omega⟩
        · obtain rfl : N = k := by omega
          go_wp2
          go_ret
          exact ⟨_, _, rfl, unhide HO, unhide HB⟩
/-- Where each interval's two numbers stand. -/
theorem ptrs_cells {w : World} {e1 e2 : Nat} {xs ys : List (Int × Int)} (hx : Ivs w (some ⟨e1, 0, none⟩) xs) (hy : Ivs w (some ⟨e2, 0, none⟩) ys) : ∀ k, (h : k < (xs ++ ys).length) → ∃ pb po, (ptrsN e1 xs.length ++ ptrsN e2 ys.length)[k]? = some ⟨pb, po, none⟩ ∧ w.cell? ⟨pb, po, none⟩ = some (.int .i64 (xs ++ ys)[k].1) ∧ w.cell? ⟨pb, po + 1, none⟩ = some (.int .i64 (xs ++ ys)[k].2) := by
  intro k h
  rw [List.length_append] at h
  by_cases hk : k < xs.length
  · rcases hx.2 with h0 | ⟨cb, co, e, hc⟩
    · omega
    · cases e
      have c := hc k hk
      rw [Nat.zero_add] at c
      refine ⟨e1, k * 2, ?_, ?_, ?_⟩
      · rw [List.getElem?_append_left (by rw [ptrsN_len]; exact hk)]
        simp [ptrsN, hk]
      · rw [List.getElem_append_left hk]; exact c.1
      · rw [List.getElem_append_left hk]; exact c.2
  · rcases hy.2 with h0 | ⟨cb, co, e, hc⟩
    · omega
    · cases e
      have c := hc (k - xs.length) (by omega)
      rw [Nat.zero_add] at c
      refine ⟨e2, (k - xs.length) * 2, ?_, ?_, ?_⟩
      · rw [List.getElem?_append_right (by rw [ptrsN_len]; omega), ptrsN_len]
        have : k - xs.length < ys.length := by omega
        simp [ptrsN, this]
      · rw [List.getElem_append_right (by omega)]; exact c.1
      · rw [List.getElem_append_right (by omega)]; exact c.2
end Go.Proofs.YthldhjifnpfmiaaGreatDoor
