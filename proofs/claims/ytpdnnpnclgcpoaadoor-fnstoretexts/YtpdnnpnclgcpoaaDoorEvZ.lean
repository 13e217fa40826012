/- Texts that go together: EnvF, EnvG. -/
import Derived.Test.YtpdnnpnclgcpoaaDoorEnX
import Derived.Test.YtpdnnpnclgcpoaaDoorDcZ
/- Bounds: where their intervals stand, as the program gathers them. -/
namespace Go.Proofs.YtpdnnpnclgcpoaaDoor
open Go.RowKit
set_option linter.unusedSimpArgs false

def ptrV (a : Addr) : Value := .pointer (some a)
def blk : Option Addr → Nat
  | some a => a.block
  | none => 0
def ofs : Option Addr → Nat
  | some a => a.off
  | none => 0
def ptrsN (e : Option Addr) (k : Nat) : List Addr := (List.range k).map fun i => ⟨blk e, ofs e + i * 2, none⟩
/-- A slice that has so many, or none. -/
def AtN (a : Option Addr) (n : Nat) : Prop := n = 0 ∨ ∃ cb co, a = some ⟨cb, co, none⟩
theorem Ivs.atN {w : World} {a : Option Addr} {xs : List (Int × Int)} (h : Ivs w a xs) : AtN a xs.length := by
  rcases h.2 with h0 | ⟨cb, co, e, _⟩
  · exact .inl h0
  · exact .inr ⟨cb, co, e⟩
def cellsP (l : List Addr) : List Value := l.map fun a => .pointer (some a)
theorem ptrsN_succ (cb co k : Nat) : ptrsN (some ⟨cb, co, none⟩) (k + 1) = ptrsN (some ⟨cb, co, none⟩) k ++ [⟨cb, co + k * 2, none⟩] := by simp [ptrsN, List.range_succ, blk, ofs]
theorem ptrsN_len (e : Option Addr) (k : Nat) : (ptrsN e k).length = k := by simp [ptrsN]
theorem cellsP_snoc (l : List Addr) (a : Addr) : cellsP (l ++ [a]) = cellsP l ++ [.pointer (some a)] := by simp [cellsP]
theorem ptrInfo : (Tryd.prog.info? 119).map (fun i => (i.zero, i.size, i.bytes)) = some (some (.pointer none), 1, 8) := by kernel_rfl
/-- So many pointers at an address. -/
def Ptrs (w : World) (a : Option Addr) (xs : List Addr) : Prop :=
  xs.length ≤ 1048576 ∧ (xs.length = 0 ∨ ∃ cb co, a = some ⟨cb, co, none⟩ ∧ ∀ i, (h : i < xs.length) → w.cell? ⟨cb, co + i, none⟩ = some (.pointer (some xs[i])))
theorem Ptrs.call {w w1 : World} {a : Option Addr} {xs : List Addr} (h : Ptrs w a xs) (hb : Below w.heap.size w w1) : Ptrs w1 a xs := by
  refine ⟨h.1, ?_⟩
  rcases h.2 with h0 | ⟨cb, co, rfl, hc⟩
  · exact .inl h0
  · exact .inr ⟨cb, co, rfl, fun i hi => (hb.cell (World.block_lt_of_cell? w _ (hc i hi))).trans (hc i hi)⟩
theorem Ptrs.ofOwn {w : World} {base : Nat} {oa : Option Addr} {n cap : Nat} {xs : List Addr} (h : w.ownsRow base 119 1 (.slice oa n cap) n (cellsP xs)) (hl : n ≤ 1048576) : n = xs.length ∧ Ptrs w oa xs := by
  have hn : n = xs.length := by have := h.1; simp [cellsP] at this; omega
  refine ⟨hn, by omega, ?_⟩
  rcases h.2 with ⟨_, h1⟩ | ⟨g, cap', cur, hv, _⟩
  · exact .inl (by omega)
  · cases hv
    refine .inr ⟨g, 0, rfl, fun i hi => ?_⟩
    have k := h.cells (g := g) rfl i (.pointer (some xs[i])) (by simp [cellsP, hi])
    have hadd : (⟨g, 0, none⟩ : Addr).add i = ⟨g, i, none⟩ := by unfold Addr.add; split <;> simp_all
    rw [hadd] at k
    rw [Nat.zero_add]
    exact k
set_option maxRecDepth 20000 in
set_option maxHeartbeats 4000000 in
theorem intervals_c (b : Nat) (li : Bool) (e1 e2 : Option Addr) (d1 d2 M N : Nat) (w : World) (hn1 : AtN e1 M) (hn2 : AtN e2 N) (ht : C3 w b (.bool li) (.slice e1 M d1) (.slice e2 N d2)) (hl : M + N ≤ 1000) :
    Calls Tryd.prog 91 #[.pointer (some ⟨b, 0, none⟩)] w fun e w' => ∃ oa cap, e = .returned (.slice oa (M + N) cap) ∧ w'.ownsRow w.heap.size 119 1 (.slice oa (M + N) cap) (M + N) (cellsP (ptrsN e1 M ++ ptrsN e2 N)) ∧ Below w.heap.size w w' := by
  have hM : (M : Int) ≤ 1000 := by omega
  have hN : (N : Int) ≤ 1000 := by omega
  have hbl := ht.lt
  have t1 := ht.2.1
  have HT := hide ht
  have HN1 := hide hn1
  have HN2 := hide hn2
  clear ht hn1 hn2
  obtain ⟨inf, hi, hz0, hz1, hz2⟩ := info_parts ptrInfo
  go_enter Tryd.func91, Tryd.ntmps91
  go_wp2
  clear t1
  go_loopw [3, 11] (fun l i wr => ∃ (k : Nat) (oa : Option Addr) (cap : Nat), k ≤ M ∧ i = .int .i64 k ∧ l = .slice oa k cap ∧ wr.ownsRow w.heap.size 119 1 (.slice oa k cap) k (cellsP (ptrsN e1 k)) ∧ C3 wr b (.bool li) (.slice e1 M d1) (.slice e2 N d2) ∧ Below w.heap.size w wr) (fun _ i _ => M - (intOf i).toNat)
  case atStart => exact ⟨0, none, 0, Nat.zero_le _, rfl, rfl, World.ownsRow_nil _ _ _ _, unhide HT, Below.refl _ _⟩
  case round =>
    clear HT
    obtain ⟨k, oa, cap, hk, rfl, rfl, ho, ht, hb⟩ := hrel
    have HO := hide ho
    have HT := hide ht
    have HB := hide hb
    have t1 := ht.2.1
    have t2 := ht.2.2.1
    clear ho ht hb
    by_cases hlt : k < M
    · clear t2
      rcases unhide HN1 with q0 | ⟨cb, co, rfl⟩
      · omega
      go_wp2_with (at_builtin; refine wpList_app _ rfl _ _ 117 rfl w.heap.size 119 inf (.pointer none) 1 8 Tryd.underlying117 hi hz0 hz1 hz2 rfl (by decide) _ _ _ rfl ((unhide HO).alloc _) ⟨_, 0, none⟩ 1 1 [.pointer (some ⟨cb, co + k * 2, none⟩)] rfl rfl (World.news_of_block (heap_alloc_new _ _)) (by simp [Value.oneCell']) (by unfold maxLen; omega) (by omega) (by have := (unhide HB).size; simp; omega) ?_; intro oa' cap' w3 hown hgrow)
      rw [← cellsP_snoc, ← ptrsN_succ] at hown
      have ha := (unhide HB).alloc (unhide HB).size (Obj.cells #[.pointer (some ⟨cb, co + k * 2, none⟩)] 119)
      exact ⟨⟨k + 1, oa', cap', by omega, by go_num, rfl, hown, ((unhide HT).alloc _).grown hgrow (fun e => by have := (((unhide HO).alloc (Obj.cells #[.pointer (some ⟨cb, co + k * 2, none⟩)] 119)).lt b e.symm).1; omega), ha.grown hgrow ha.size (fun j hj => (((unhide HO).alloc (Obj.cells #[.pointer (some ⟨cb, co + k * 2, none⟩)] 119)).lt j hj).1)⟩, by simp [intOf]; omega⟩
    · obtain rfl : M = k := by omega
      go_wp2
      clear t1 t2
      generalize wr = wo at HO HT HB ⊢
      go_loopw [3, 29] (fun l i wr => ∃ (k : Nat) (oa : Option Addr) (cap : Nat), k ≤ N ∧ i = .int .i64 k ∧ l = .slice oa (M + k) cap ∧ wr.ownsRow w.heap.size 119 1 (.slice oa (M + k) cap) (M + k) (cellsP (ptrsN e1 M ++ ptrsN e2 k)) ∧ C3 wr b (.bool li) (.slice e1 M d1) (.slice e2 N d2) ∧ Below w.heap.size w wr) (fun _ i _ => N - (intOf i).toNat)
      case atStart => exact ⟨0, oa, cap, Nat.zero_le _, rfl, rfl, by simpa [ptrsN] using unhide HO, unhide HT, unhide HB⟩
      case round =>
        clear HO HT HB
        obtain ⟨k, oa, cap, hk, rfl, rfl, ho, ht, hb⟩ := hrel
        have HO := hide ho
        have HT := hide ht
        have HB := hide hb
        have t2 := ht.2.2.1
        clear ho ht hb
        by_cases hlt : k < N
        · rcases unhide HN2 with q0 | ⟨cb, co, rfl⟩
          · omega
          go_wp2_with (at_builtin; refine wpList_app _ rfl _ _ 117 rfl w.heap.size 119 inf (.pointer none) 1 8 Tryd.underlying117 hi hz0 hz1 hz2 rfl (by decide) _ _ _ rfl ((unhide HO).alloc _) ⟨_, 0, none⟩ 1 1 [.pointer (some ⟨cb, co + k * 2, none⟩)] rfl rfl (World.news_of_block (heap_alloc_new _ _)) (by simp [Value.oneCell']) (by unfold maxLen; omega) (by omega) (by have := (unhide HB).size; simp; omega) ?_; intro oa' cap' w3 hown hgrow)
          rw [← cellsP_snoc, List.append_assoc, ← ptrsN_succ] at hown
          have ha := (unhide HB).alloc (unhide HB).size (Obj.cells #[.pointer (some ⟨cb, co + k * 2, none⟩)] 119)
          exact ⟨⟨k + 1, oa', cap', by omega, by go_num, rfl, hown, ((unhide HT).alloc _).grown hgrow (fun e => by have := (((unhide HO).alloc (Obj.cells #[.pointer (some ⟨cb, co + k * 2, none⟩)] 119)).lt b e.symm).1; omega), ha.grown hgrow ha.size (fun j hj => (((unhide HO).alloc (Obj.cells #[.pointer (some ⟨cb, co + k * 2, none⟩)] 119)).lt j hj).1)⟩, by simp [intOf]; omega⟩
        · obtain rfl : N = k := by omega
          go_wp2
          go_ret
          exact ⟨_, _, rfl, unhide HO, unhide HB⟩
/-- Where each interval's two numbers stand. -/
theorem ptrs_cells {w : World} {e1 e2 : Option Addr} {xs ys : List (Int × Int)} (hx : Ivs w e1 xs) (hy : Ivs w e2 ys) : ∀ k, (h : k < (xs ++ ys).length) → ∃ pb po, (ptrsN e1 xs.length ++ ptrsN e2 ys.length)[k]? = some ⟨pb, po, none⟩ ∧ w.cell? ⟨pb, po, none⟩ = some (.int .i64 (xs ++ ys)[k].1) ∧ w.cell? ⟨pb, po + 1, none⟩ = some (.int .i64 (xs ++ ys)[k].2) := by
  intro k h
  rw [List.length_append] at h
  by_cases hk : k < xs.length
  · rcases hx.2 with h0 | ⟨cb, co, rfl, hc⟩
    · omega
    · have c := hc k hk
      refine ⟨cb, co + k * 2, ?_, ?_, ?_⟩
      · rw [List.getElem?_append_left (by rw [ptrsN_len]; exact hk)]
        simp [ptrsN, hk, blk, ofs]
      · rw [List.getElem_append_left hk]; exact c.1
      · rw [List.getElem_append_left hk]; exact c.2
  · rcases hy.2 with h0 | ⟨cb, co, rfl, hc⟩
    · omega
    · have c := hc (k - xs.length) (by omega)
      refine ⟨cb, co + (k - xs.length) * 2, ?_, ?_, ?_⟩
      · rw [List.getElem?_append_right (by rw [ptrsN_len]; omega), ptrsN_len]
        have : k - xs.length < ys.length := by omega
        simp [ptrsN, this, blk, ofs]
      · rw [List.getElem_append_right (by omega)]; exact c.1
      · rw [List.getElem_append_right (by omega)]; exact c.2
end Go.Proofs.YtpdnnpnclgcpoaaDoor

/- Right bounds, as the program asks for them. -/
namespace Go.Proofs.YtpdnnpnclgcpoaaDoor
open Go.RowKit
set_option linter.unusedSimpArgs false

set_option maxRecDepth 20000 in
set_option maxHeartbeats 4000000 in
theorem fits_c (b c : Nat) (a1 a2 a3 : Option Addr) (c1 c2 c3 : Nat) (vs fs : List ByteArray) (rs : List (ByteArray × Int)) (li : Bool) (e1 e2 : Option Addr) (d1 d2 : Nat) (xs ys : List (Int × Int)) (w : World)
  (hd : C3 w c (.slice a1 vs.length c1) (.slice a2 fs.length c2) (.slice a3 rs.length c3))
  (he : C3 w b (.bool li) (.slice e1 xs.length d1) (.slice e2 ys.length d2)) (hl1 : vs.length ≤ 5) (hl3 : rs.length ≤ 2) (hx : Ivs w e1 xs) (hy : Ivs w e2 ys) :
  Calls Tryd.prog 49 #[.pointer (some ⟨b, 0, none⟩), .pointer (some ⟨c, 0, none⟩)] w fun e w' => e = .returned (.bool (fitB vs.length rs.length li xs ys)) ∧ Below w.heap.size w w' := by
 have HX := hide hx
 have HY := hide hy
 have HE := hide he
 have HD := hide hd
 have t0 := he.1
 have t1 := he.2.1
 have t2 := he.2.2.1
 clear hx hy he hd
 cases li
 ·have HB := hide (@fit_false vs.length rs.length xs ys)
  by_cases g1 : xs.length = 0
  ·by_cases g2 : ys.length = 0
   ·rw [decide_eq_true (⟨g1, g2⟩ : xs.length = 0 ∧ ys.length = 0)] at HB
    rw [g1] at t1
    rw [g2] at t2
    clear g1 g2
    go_enter Tryd.func49, Tryd.ntmps49
    go_wp2
    go_ret
    exact ⟨by rw [unhide HB]; rfl, Below.refl _ _⟩
   ·rw [decide_eq_false (fun h : xs.length = 0 ∧ ys.length = 0 => g2 h.2)] at HB
    rw [g1] at t1
    have g3 : ((ys.length : Int) == 0) = false := by rw [beq_eq_false_iff_ne]; omega
    clear g1 g2
    go_enter Tryd.func49, Tryd.ntmps49
    go_wp2
    go_ret
    exact ⟨by rw [unhide HB]; rfl, Below.refl _ _⟩
  ·rw [decide_eq_false (fun h : xs.length = 0 ∧ ys.length = 0 => g1 h.1)] at HB
   have g3 : ((xs.length : Int) == 0) = false := by rw [beq_eq_false_iff_ne]; omega
   clear g1
   go_enter Tryd.func49, Tryd.ntmps49
   go_wp2
   go_ret
   exact ⟨by rw [unhide HB]; rfl, Below.refl _ _⟩
 have hh := H6.of (unhide HE) (unhide HD) (Below.refl _ w)
 by_cases g1 : xs.length = vs.length
 case neg =>
  have HN := hide (@fit_len vs.length rs.length xs ys (fun h => g1 h.1))
  have g3 : ((xs.length : Int) != (vs.length : Int)) = true := by rw [bne_iff_ne]; omega
  clear g1
  go_enter Tryd.func49, Tryd.ntmps49
  go_wp2
  refine wp_region_held_drew (S := H6 w b c (.bool true) (.slice e1 xs.length d1) (.slice e2 ys.length d2) (.slice a1 vs.length c1) (.slice a2 fs.length c2) (.slice a3 rs.length c3)) (by kernel_rfl) (H6.drew hh) (fun hHeld => ?_)
  refine wpAnyH_take (i := 0) (oi := ⟨some 26, Op.move (Operand.tmp 0), 116, _, _, none⟩) (v := ?_) rfl (by kernel_rfl) (by kernel_rfl) (by kernel_rfl) (fun _ _ _ h => h) (Or.inl ⟨by rfl, ?_⟩) (by assumption) ?_
  rotate_left
  ·(intro w hSw; (try dsimp only at hSw); go_simp; try with_reducible rfl)
  try simp only [Act.put, List.setIfInBounds_toArray, List.set_cons_zero, List.set_cons_succ]
  refine wpAnyH_take (i := 1) (oi := ⟨some 27, Op.nilCheck (Operand.tmp 26), 0, _, _, none⟩) (v := ?_) rfl (by kernel_rfl) (by kernel_rfl) (by kernel_rfl) (fun _ _ _ h => h) (Or.inl ⟨by rfl, ?_⟩) (by assumption) ?_
  rotate_left
  ·(intro w hSw; (try dsimp only at hSw); go_simp; try with_reducible rfl)
  try simp only [Act.put, List.setIfInBounds_toArray, List.set_cons_zero, List.set_cons_succ]
  refine wpAnyH_take (i := 2) (oi := ⟨some 28, Op.fieldAddr 43 (Operand.tmp 27) 1, 0, _, _, none⟩) (v := ?_) rfl (by kernel_rfl) (by kernel_rfl) (by kernel_rfl) (fun _ _ _ h => h) (Or.inl ⟨by rfl, ?_⟩) (by assumption) ?_
  rotate_left
  ·(intro w hSw; (try dsimp only at hSw); go_simp; try with_reducible rfl)
  try simp only [Act.put, List.setIfInBounds_toArray, List.set_cons_zero, List.set_cons_succ]
  refine wpAnyH_take (i := 3) (oi := ⟨some 29, Op.load 41 (Operand.tmp 28), 41, _, _, none⟩) (v := ?_) rfl (by kernel_rfl) (by kernel_rfl) (by kernel_rfl) (fun _ _ _ h => h) (Or.inl ⟨by rfl, ?_⟩) (by assumption) ?_
  rotate_left
  ·(intro w hSw; (try dsimp only at hSw); go_simp; try with_reducible rfl)
  try simp only [Act.put, List.setIfInBounds_toArray, List.set_cons_zero, List.set_cons_succ]
  refine wpAnyH_take (i := 4) (oi := ⟨some 30, Op.call { callee := Callee.builtin Builtin.len, args := #[Operand.tmp 29], argTypes := #[41] }, 3, _, _, none⟩) (v := ?_) rfl (by kernel_rfl) (by kernel_rfl) (by kernel_rfl) (fun _ _ _ h => h) (Or.inl ⟨by rfl, ?_⟩) (by assumption) ?_
  rotate_left
  ·(intro w hSw; (try dsimp only at hSw); go_simp; try with_reducible rfl)
  try simp only [Act.put, List.setIfInBounds_toArray, List.set_cons_zero, List.set_cons_succ]
  refine wpAnyH_take (i := 5) (oi := ⟨some 31, Op.move (Operand.tmp 1), 77, _, _, none⟩) (v := ?_) rfl (by kernel_rfl) (by kernel_rfl) (by kernel_rfl) (fun _ _ _ h => h) (Or.inl ⟨by rfl, ?_⟩) (by assumption) ?_
  rotate_left
  ·(intro w hSw; (try dsimp only at hSw); go_simp; try with_reducible rfl)
  try simp only [Act.put, List.setIfInBounds_toArray, List.set_cons_zero, List.set_cons_succ]
  refine wpAnyH_take (i := 6) (oi := ⟨some 32, Op.nilCheck (Operand.tmp 31), 0, _, _, none⟩) (v := ?_) rfl (by kernel_rfl) (by kernel_rfl) (by kernel_rfl) (fun _ _ _ h => h) (Or.inl ⟨by rfl, ?_⟩) (by assumption) ?_
  rotate_left
  ·(intro w hSw; (try dsimp only at hSw); go_simp; try with_reducible rfl)
  try simp only [Act.put, List.setIfInBounds_toArray, List.set_cons_zero, List.set_cons_succ]
  refine wpAnyH_take (i := 7) (oi := ⟨some 33, Op.fieldAddr 27 (Operand.tmp 32) 0, 0, _, _, none⟩) (v := ?_) rfl (by kernel_rfl) (by kernel_rfl) (by kernel_rfl) (fun _ _ _ h => h) (Or.inl ⟨by rfl, ?_⟩) (by assumption) ?_
  rotate_left
  ·(intro w hSw; (try dsimp only at hSw); go_simp; try with_reducible rfl)
  try simp only [Act.put, List.setIfInBounds_toArray, List.set_cons_zero, List.set_cons_succ]
  refine wpAnyH_take (i := 8) (oi := ⟨some 34, Op.load 24 (Operand.tmp 33), 24, _, _, none⟩) (v := ?_) rfl (by kernel_rfl) (by kernel_rfl) (by kernel_rfl) (fun _ _ _ h => h) (Or.inl ⟨by rfl, ?_⟩) (by assumption) ?_
  rotate_left
  ·(intro w hSw; (try dsimp only at hSw); go_simp; try with_reducible rfl)
  try simp only [Act.put, List.setIfInBounds_toArray, List.set_cons_zero, List.set_cons_succ]
  refine wpAnyH_take (i := 9) (oi := ⟨some 35, Op.call { callee := Callee.builtin Builtin.len, args := #[Operand.tmp 34], argTypes := #[24] }, 3, _, _, none⟩) (v := ?_) rfl (by kernel_rfl) (by kernel_rfl) (by kernel_rfl) (fun _ _ _ h => h) (Or.inl ⟨by rfl, ?_⟩) (by assumption) ?_
  rotate_left
  ·(intro w hSw; (try dsimp only at hSw); go_simp; try with_reducible rfl)
  try simp only [Act.put, List.setIfInBounds_toArray, List.set_cons_zero, List.set_cons_succ]
  refine wpAnyH_take (i := 10) (oi := ⟨some 36, Op.binOp BinOp.neq 3 (Operand.tmp 30) (Operand.tmp 35) 3, 4, _, _, none⟩) (v := ?_) rfl (by kernel_rfl) (by kernel_rfl) (by kernel_rfl) (fun _ _ _ h => h) (Or.inl ⟨by rfl, ?_⟩) (by assumption) ?_
  rotate_left
  ·(intro w hSw; (try dsimp only at hSw); go_simp; try with_reducible rfl)
  try simp only [Act.put, List.setIfInBounds_toArray, List.set_cons_zero, List.set_cons_succ]
  refine wpAnyH_take (i := 11) (oi := ⟨some 37, Op.move (Operand.tmp 36), 4, _, _, none⟩) (v := ?_) rfl (by kernel_rfl) (by kernel_rfl) (by kernel_rfl) (fun _ _ _ h => h) (Or.inl ⟨by rfl, ?_⟩) (by assumption) ?_
  rotate_left
  ·(intro w hSw; (try dsimp only at hSw); go_simp; try with_reducible rfl)
  try simp only [Act.put, List.setIfInBounds_toArray, List.set_cons_zero, List.set_cons_succ]
  refine wpAnyH_take (i := 12) (oi := ⟨some 38, Op.move (Operand.tmp 0), 116, _, _, some (11, false)⟩) (v := undef) rfl (by kernel_rfl) (by kernel_rfl) (by kernel_rfl) (fun _ _ _ h => h) (Or.inr ⟨by rfl, rfl⟩) (by assumption) ?_
  try simp only [Act.put, List.setIfInBounds_toArray, List.set_cons_zero, List.set_cons_succ]
  refine wpAnyH_take (i := 13) (oi := ⟨some 39, Op.nilCheck (Operand.tmp 38), 0, _, _, some (11, false)⟩) (v := undef) rfl (by kernel_rfl) (by kernel_rfl) (by kernel_rfl) (fun _ _ _ h => h) (Or.inr ⟨by rfl, rfl⟩) (by assumption) ?_
  try simp only [Act.put, List.setIfInBounds_toArray, List.set_cons_zero, List.set_cons_succ]
  refine wpAnyH_take (i := 14) (oi := ⟨some 40, Op.fieldAddr 43 (Operand.tmp 39) 2, 0, _, _, some (11, false)⟩) (v := undef) rfl (by kernel_rfl) (by kernel_rfl) (by kernel_rfl) (fun _ _ _ h => h) (Or.inr ⟨by rfl, rfl⟩) (by assumption) ?_
  try simp only [Act.put, List.setIfInBounds_toArray, List.set_cons_zero, List.set_cons_succ]
  refine wpAnyH_take (i := 15) (oi := ⟨some 41, Op.load 41 (Operand.tmp 40), 41, _, _, some (11, false)⟩) (v := undef) rfl (by kernel_rfl) (by kernel_rfl) (by kernel_rfl) (fun _ _ _ h => h) (Or.inr ⟨by rfl, rfl⟩) (by assumption) ?_
  try simp only [Act.put, List.setIfInBounds_toArray, List.set_cons_zero, List.set_cons_succ]
  refine wpAnyH_take (i := 16) (oi := ⟨some 42, Op.call { callee := Callee.builtin Builtin.len, args := #[Operand.tmp 41], argTypes := #[41] }, 3, _, _, some (11, false)⟩) (v := undef) rfl (by kernel_rfl) (by kernel_rfl) (by kernel_rfl) (fun _ _ _ h => h) (Or.inr ⟨by rfl, rfl⟩) (by assumption) ?_
  try simp only [Act.put, List.setIfInBounds_toArray, List.set_cons_zero, List.set_cons_succ]
  refine wpAnyH_take (i := 17) (oi := ⟨some 43, Op.move (Operand.tmp 1), 77, _, _, some (11, false)⟩) (v := undef) rfl (by kernel_rfl) (by kernel_rfl) (by kernel_rfl) (fun _ _ _ h => h) (Or.inr ⟨by rfl, rfl⟩) (by assumption) ?_
  try simp only [Act.put, List.setIfInBounds_toArray, List.set_cons_zero, List.set_cons_succ]
  refine wpAnyH_take (i := 18) (oi := ⟨some 44, Op.nilCheck (Operand.tmp 43), 0, _, _, some (11, false)⟩) (v := undef) rfl (by kernel_rfl) (by kernel_rfl) (by kernel_rfl) (fun _ _ _ h => h) (Or.inr ⟨by rfl, rfl⟩) (by assumption) ?_
  try simp only [Act.put, List.setIfInBounds_toArray, List.set_cons_zero, List.set_cons_succ]
  refine wpAnyH_take (i := 19) (oi := ⟨some 45, Op.fieldAddr 27 (Operand.tmp 44) 2, 0, _, _, some (11, false)⟩) (v := undef) rfl (by kernel_rfl) (by kernel_rfl) (by kernel_rfl) (fun _ _ _ h => h) (Or.inr ⟨by rfl, rfl⟩) (by assumption) ?_
  try simp only [Act.put, List.setIfInBounds_toArray, List.set_cons_zero, List.set_cons_succ]
  refine wpAnyH_take (i := 20) (oi := ⟨some 46, Op.load 25 (Operand.tmp 45), 25, _, _, some (11, false)⟩) (v := undef) rfl (by kernel_rfl) (by kernel_rfl) (by kernel_rfl) (fun _ _ _ h => h) (Or.inr ⟨by rfl, rfl⟩) (by assumption) ?_
  try simp only [Act.put, List.setIfInBounds_toArray, List.set_cons_zero, List.set_cons_succ]
  refine wpAnyH_take (i := 21) (oi := ⟨some 47, Op.call { callee := Callee.builtin Builtin.len, args := #[Operand.tmp 46], argTypes := #[25] }, 3, _, _, some (11, false)⟩) (v := undef) rfl (by kernel_rfl) (by kernel_rfl) (by kernel_rfl) (fun _ _ _ h => h) (Or.inr ⟨by rfl, rfl⟩) (by assumption) ?_
  try simp only [Act.put, List.setIfInBounds_toArray, List.set_cons_zero, List.set_cons_succ]
  refine wpAnyH_take (i := 22) (oi := ⟨some 48, Op.binOp BinOp.neq 3 (Operand.tmp 42) (Operand.tmp 47) 3, 4, _, _, some (11, false)⟩) (v := undef) rfl (by kernel_rfl) (by kernel_rfl) (by kernel_rfl) (fun _ _ _ h => h) (Or.inr ⟨by rfl, rfl⟩) (by assumption) ?_
  try simp only [Act.put, List.setIfInBounds_toArray, List.set_cons_zero, List.set_cons_succ]
  refine wpAnyH_take (i := 23) (oi := ⟨some 49, Op.pick (Operand.tmp 37) (Operand.const (Value.bool true)) (Operand.tmp 48), 4, _, _, none⟩) (v := ?_) rfl (by kernel_rfl) (by kernel_rfl) (by kernel_rfl) (fun _ _ _ h => h) (Or.inl ⟨by rfl, ?_⟩) (by assumption) ?_
  rotate_left
  ·(intro w hSw; (try dsimp only at hSw); go_simp; try with_reducible rfl)
  try simp only [Act.put, List.setIfInBounds_toArray, List.set_cons_zero, List.set_cons_succ]
  refine wpAnyH_done (by kernel_rfl) ?_ _
  have HB := hide hHeld.below
  clear hh hHeld
  go_wp2
  go_ret
  exact ⟨by rw [unhide HN]; rfl, unhide HB⟩
 have g3 : ((xs.length : Int) != (vs.length : Int)) = false := by rw [bne_eq_false_iff_eq]; omega
 by_cases g2 : ys.length = rs.length
 case neg =>
  have HN := hide (@fit_len vs.length rs.length xs ys (fun h => g2 h.2))
  have g4 : ((ys.length : Int) != (rs.length : Int)) = true := by rw [bne_iff_ne]; omega
  clear g1 g2
  go_enter Tryd.func49, Tryd.ntmps49
  go_wp2
  refine wp_region_held_drew (S := H6 w b c (.bool true) (.slice e1 xs.length d1) (.slice e2 ys.length d2) (.slice a1 vs.length c1) (.slice a2 fs.length c2) (.slice a3 rs.length c3)) (by kernel_rfl) (H6.drew hh) (fun hHeld => ?_)
  refine wpAnyH_take (i := 0) (oi := ⟨some 26, Op.move (Operand.tmp 0), 116, _, _, none⟩) (v := ?_) rfl (by kernel_rfl) (by kernel_rfl) (by kernel_rfl) (fun _ _ _ h => h) (Or.inl ⟨by rfl, ?_⟩) (by assumption) ?_
  rotate_left
  ·(intro w hSw; (try dsimp only at hSw); go_simp; try with_reducible rfl)
  try simp only [Act.put, List.setIfInBounds_toArray, List.set_cons_zero, List.set_cons_succ]
  refine wpAnyH_take (i := 1) (oi := ⟨some 27, Op.nilCheck (Operand.tmp 26), 0, _, _, none⟩) (v := ?_) rfl (by kernel_rfl) (by kernel_rfl) (by kernel_rfl) (fun _ _ _ h => h) (Or.inl ⟨by rfl, ?_⟩) (by assumption) ?_
  rotate_left
  ·(intro w hSw; (try dsimp only at hSw); go_simp; try with_reducible rfl)
  try simp only [Act.put, List.setIfInBounds_toArray, List.set_cons_zero, List.set_cons_succ]
  refine wpAnyH_take (i := 2) (oi := ⟨some 28, Op.fieldAddr 43 (Operand.tmp 27) 1, 0, _, _, none⟩) (v := ?_) rfl (by kernel_rfl) (by kernel_rfl) (by kernel_rfl) (fun _ _ _ h => h) (Or.inl ⟨by rfl, ?_⟩) (by assumption) ?_
  rotate_left
  ·(intro w hSw; (try dsimp only at hSw); go_simp; try with_reducible rfl)
  try simp only [Act.put, List.setIfInBounds_toArray, List.set_cons_zero, List.set_cons_succ]
  refine wpAnyH_take (i := 3) (oi := ⟨some 29, Op.load 41 (Operand.tmp 28), 41, _, _, none⟩) (v := ?_) rfl (by kernel_rfl) (by kernel_rfl) (by kernel_rfl) (fun _ _ _ h => h) (Or.inl ⟨by rfl, ?_⟩) (by assumption) ?_
  rotate_left
  ·(intro w hSw; (try dsimp only at hSw); go_simp; try with_reducible rfl)
  try simp only [Act.put, List.setIfInBounds_toArray, List.set_cons_zero, List.set_cons_succ]
  refine wpAnyH_take (i := 4) (oi := ⟨some 30, Op.call { callee := Callee.builtin Builtin.len, args := #[Operand.tmp 29], argTypes := #[41] }, 3, _, _, none⟩) (v := ?_) rfl (by kernel_rfl) (by kernel_rfl) (by kernel_rfl) (fun _ _ _ h => h) (Or.inl ⟨by rfl, ?_⟩) (by assumption) ?_
  rotate_left
  ·(intro w hSw; (try dsimp only at hSw); go_simp; try with_reducible rfl)
  try simp only [Act.put, List.setIfInBounds_toArray, List.set_cons_zero, List.set_cons_succ]
  refine wpAnyH_take (i := 5) (oi := ⟨some 31, Op.move (Operand.tmp 1), 77, _, _, none⟩) (v := ?_) rfl (by kernel_rfl) (by kernel_rfl) (by kernel_rfl) (fun _ _ _ h => h) (Or.inl ⟨by rfl, ?_⟩) (by assumption) ?_
  rotate_left
  ·(intro w hSw; (try dsimp only at hSw); go_simp; try with_reducible rfl)
  try simp only [Act.put, List.setIfInBounds_toArray, List.set_cons_zero, List.set_cons_succ]
  refine wpAnyH_take (i := 6) (oi := ⟨some 32, Op.nilCheck (Operand.tmp 31), 0, _, _, none⟩) (v := ?_) rfl (by kernel_rfl) (by kernel_rfl) (by kernel_rfl) (fun _ _ _ h => h) (Or.inl ⟨by rfl, ?_⟩) (by assumption) ?_
  rotate_left
  ·(intro w hSw; (try dsimp only at hSw); go_simp; try with_reducible rfl)
  try simp only [Act.put, List.setIfInBounds_toArray, List.set_cons_zero, List.set_cons_succ]
  refine wpAnyH_take (i := 7) (oi := ⟨some 33, Op.fieldAddr 27 (Operand.tmp 32) 0, 0, _, _, none⟩) (v := ?_) rfl (by kernel_rfl) (by kernel_rfl) (by kernel_rfl) (fun _ _ _ h => h) (Or.inl ⟨by rfl, ?_⟩) (by assumption) ?_
  rotate_left
  ·(intro w hSw; (try dsimp only at hSw); go_simp; try with_reducible rfl)
  try simp only [Act.put, List.setIfInBounds_toArray, List.set_cons_zero, List.set_cons_succ]
  refine wpAnyH_take (i := 8) (oi := ⟨some 34, Op.load 24 (Operand.tmp 33), 24, _, _, none⟩) (v := ?_) rfl (by kernel_rfl) (by kernel_rfl) (by kernel_rfl) (fun _ _ _ h => h) (Or.inl ⟨by rfl, ?_⟩) (by assumption) ?_
  rotate_left
  ·(intro w hSw; (try dsimp only at hSw); go_simp; try with_reducible rfl)
  try simp only [Act.put, List.setIfInBounds_toArray, List.set_cons_zero, List.set_cons_succ]
  refine wpAnyH_take (i := 9) (oi := ⟨some 35, Op.call { callee := Callee.builtin Builtin.len, args := #[Operand.tmp 34], argTypes := #[24] }, 3, _, _, none⟩) (v := ?_) rfl (by kernel_rfl) (by kernel_rfl) (by kernel_rfl) (fun _ _ _ h => h) (Or.inl ⟨by rfl, ?_⟩) (by assumption) ?_
  rotate_left
  ·(intro w hSw; (try dsimp only at hSw); go_simp; try with_reducible rfl)
  try simp only [Act.put, List.setIfInBounds_toArray, List.set_cons_zero, List.set_cons_succ]
  refine wpAnyH_take (i := 10) (oi := ⟨some 36, Op.binOp BinOp.neq 3 (Operand.tmp 30) (Operand.tmp 35) 3, 4, _, _, none⟩) (v := ?_) rfl (by kernel_rfl) (by kernel_rfl) (by kernel_rfl) (fun _ _ _ h => h) (Or.inl ⟨by rfl, ?_⟩) (by assumption) ?_
  rotate_left
  ·(intro w hSw; (try dsimp only at hSw); go_simp; try with_reducible rfl)
  try simp only [Act.put, List.setIfInBounds_toArray, List.set_cons_zero, List.set_cons_succ]
  refine wpAnyH_take (i := 11) (oi := ⟨some 37, Op.move (Operand.tmp 36), 4, _, _, none⟩) (v := ?_) rfl (by kernel_rfl) (by kernel_rfl) (by kernel_rfl) (fun _ _ _ h => h) (Or.inl ⟨by rfl, ?_⟩) (by assumption) ?_
  rotate_left
  ·(intro w hSw; (try dsimp only at hSw); go_simp; try with_reducible rfl)
  try simp only [Act.put, List.setIfInBounds_toArray, List.set_cons_zero, List.set_cons_succ]
  refine wpAnyH_take (i := 12) (oi := ⟨some 38, Op.move (Operand.tmp 0), 116, _, _, some (11, false)⟩) (v := ?_) rfl (by kernel_rfl) (by kernel_rfl) (by kernel_rfl) (fun _ _ _ h => h) (Or.inl ⟨by rfl, ?_⟩) (by assumption) ?_
  rotate_left
  ·(intro w hSw; (try dsimp only at hSw); go_simp; try with_reducible rfl)
  try simp only [Act.put, List.setIfInBounds_toArray, List.set_cons_zero, List.set_cons_succ]
  refine wpAnyH_take (i := 13) (oi := ⟨some 39, Op.nilCheck (Operand.tmp 38), 0, _, _, some (11, false)⟩) (v := ?_) rfl (by kernel_rfl) (by kernel_rfl) (by kernel_rfl) (fun _ _ _ h => h) (Or.inl ⟨by rfl, ?_⟩) (by assumption) ?_
  rotate_left
  ·(intro w hSw; (try dsimp only at hSw); go_simp; try with_reducible rfl)
  try simp only [Act.put, List.setIfInBounds_toArray, List.set_cons_zero, List.set_cons_succ]
  refine wpAnyH_take (i := 14) (oi := ⟨some 40, Op.fieldAddr 43 (Operand.tmp 39) 2, 0, _, _, some (11, false)⟩) (v := ?_) rfl (by kernel_rfl) (by kernel_rfl) (by kernel_rfl) (fun _ _ _ h => h) (Or.inl ⟨by rfl, ?_⟩) (by assumption) ?_
  rotate_left
  ·(intro w hSw; (try dsimp only at hSw); go_simp; try with_reducible rfl)
  try simp only [Act.put, List.setIfInBounds_toArray, List.set_cons_zero, List.set_cons_succ]
  refine wpAnyH_take (i := 15) (oi := ⟨some 41, Op.load 41 (Operand.tmp 40), 41, _, _, some (11, false)⟩) (v := ?_) rfl (by kernel_rfl) (by kernel_rfl) (by kernel_rfl) (fun _ _ _ h => h) (Or.inl ⟨by rfl, ?_⟩) (by assumption) ?_
  rotate_left
  ·(intro w hSw; (try dsimp only at hSw); go_simp; try with_reducible rfl)
  try simp only [Act.put, List.setIfInBounds_toArray, List.set_cons_zero, List.set_cons_succ]
  refine wpAnyH_take (i := 16) (oi := ⟨some 42, Op.call { callee := Callee.builtin Builtin.len, args := #[Operand.tmp 41], argTypes := #[41] }, 3, _, _, some (11, false)⟩) (v := ?_) rfl (by kernel_rfl) (by kernel_rfl) (by kernel_rfl) (fun _ _ _ h => h) (Or.inl ⟨by rfl, ?_⟩) (by assumption) ?_
  rotate_left
  ·(intro w hSw; (try dsimp only at hSw); go_simp; try with_reducible rfl)
  try simp only [Act.put, List.setIfInBounds_toArray, List.set_cons_zero, List.set_cons_succ]
  refine wpAnyH_take (i := 17) (oi := ⟨some 43, Op.move (Operand.tmp 1), 77, _, _, some (11, false)⟩) (v := ?_) rfl (by kernel_rfl) (by kernel_rfl) (by kernel_rfl) (fun _ _ _ h => h) (Or.inl ⟨by rfl, ?_⟩) (by assumption) ?_
  rotate_left
  ·(intro w hSw; (try dsimp only at hSw); go_simp; try with_reducible rfl)
  try simp only [Act.put, List.setIfInBounds_toArray, List.set_cons_zero, List.set_cons_succ]
  refine wpAnyH_take (i := 18) (oi := ⟨some 44, Op.nilCheck (Operand.tmp 43), 0, _, _, some (11, false)⟩) (v := ?_) rfl (by kernel_rfl) (by kernel_rfl) (by kernel_rfl) (fun _ _ _ h => h) (Or.inl ⟨by rfl, ?_⟩) (by assumption) ?_
  rotate_left
  ·(intro w hSw; (try dsimp only at hSw); go_simp; try with_reducible rfl)
  try simp only [Act.put, List.setIfInBounds_toArray, List.set_cons_zero, List.set_cons_succ]
  refine wpAnyH_take (i := 19) (oi := ⟨some 45, Op.fieldAddr 27 (Operand.tmp 44) 2, 0, _, _, some (11, false)⟩) (v := ?_) rfl (by kernel_rfl) (by kernel_rfl) (by kernel_rfl) (fun _ _ _ h => h) (Or.inl ⟨by rfl, ?_⟩) (by assumption) ?_
  rotate_left
  ·(intro w hSw; (try dsimp only at hSw); go_simp; try with_reducible rfl)
  try simp only [Act.put, List.setIfInBounds_toArray, List.set_cons_zero, List.set_cons_succ]
  refine wpAnyH_take (i := 20) (oi := ⟨some 46, Op.load 25 (Operand.tmp 45), 25, _, _, some (11, false)⟩) (v := ?_) rfl (by kernel_rfl) (by kernel_rfl) (by kernel_rfl) (fun _ _ _ h => h) (Or.inl ⟨by rfl, ?_⟩) (by assumption) ?_
  rotate_left
  ·(intro w hSw; (try dsimp only at hSw); go_simp; try with_reducible rfl)
  try simp only [Act.put, List.setIfInBounds_toArray, List.set_cons_zero, List.set_cons_succ]
  refine wpAnyH_take (i := 21) (oi := ⟨some 47, Op.call { callee := Callee.builtin Builtin.len, args := #[Operand.tmp 46], argTypes := #[25] }, 3, _, _, some (11, false)⟩) (v := ?_) rfl (by kernel_rfl) (by kernel_rfl) (by kernel_rfl) (fun _ _ _ h => h) (Or.inl ⟨by rfl, ?_⟩) (by assumption) ?_
  rotate_left
  ·(intro w hSw; (try dsimp only at hSw); go_simp; try with_reducible rfl)
  try simp only [Act.put, List.setIfInBounds_toArray, List.set_cons_zero, List.set_cons_succ]
  refine wpAnyH_take (i := 22) (oi := ⟨some 48, Op.binOp BinOp.neq 3 (Operand.tmp 42) (Operand.tmp 47) 3, 4, _, _, some (11, false)⟩) (v := ?_) rfl (by kernel_rfl) (by kernel_rfl) (by kernel_rfl) (fun _ _ _ h => h) (Or.inl ⟨by rfl, ?_⟩) (by assumption) ?_
  rotate_left
  ·(intro w hSw; (try dsimp only at hSw); go_simp; try with_reducible rfl)
  try simp only [Act.put, List.setIfInBounds_toArray, List.set_cons_zero, List.set_cons_succ]
  refine wpAnyH_take (i := 23) (oi := ⟨some 49, Op.pick (Operand.tmp 37) (Operand.const (Value.bool true)) (Operand.tmp 48), 4, _, _, none⟩) (v := ?_) rfl (by kernel_rfl) (by kernel_rfl) (by kernel_rfl) (fun _ _ _ h => h) (Or.inl ⟨by rfl, ?_⟩) (by assumption) ?_
  rotate_left
  ·(intro w hSw; (try dsimp only at hSw); go_simp; try with_reducible rfl)
  try simp only [Act.put, List.setIfInBounds_toArray, List.set_cons_zero, List.set_cons_succ]
  refine wpAnyH_done (by kernel_rfl) ?_ _
  have HB := hide hHeld.below
  clear hh hHeld
  go_wp2
  go_ret
  exact ⟨by rw [unhide HN]; rfl, unhide HB⟩
 have g4 : ((ys.length : Int) != (rs.length : Int)) = false := by rw [bne_eq_false_iff_eq]; omega
 have HF := hide (@fit_true vs.length rs.length xs ys g1 g2)
 have hL : xs.length + ys.length ≤ 7 := by omega
 clear g1 g2
 go_enter Tryd.func49, Tryd.ntmps49
 go_wp2
 refine wp_region_held_drew (S := H6 w b c (.bool true) (.slice e1 xs.length d1) (.slice e2 ys.length d2) (.slice a1 vs.length c1) (.slice a2 fs.length c2) (.slice a3 rs.length c3)) (by kernel_rfl) (H6.drew hh) (fun hHeld => ?_)
 refine wpAnyH_take (i := 0) (oi := ⟨some 26, Op.move (Operand.tmp 0), 116, _, _, none⟩) (v := ?_) rfl (by kernel_rfl) (by kernel_rfl) (by kernel_rfl) (fun _ _ _ h => h) (Or.inl ⟨by rfl, ?_⟩) (by assumption) ?_
 rotate_left
 ·(intro w hSw; (try dsimp only at hSw); go_simp; try with_reducible rfl)
 try simp only [Act.put, List.setIfInBounds_toArray, List.set_cons_zero, List.set_cons_succ]
 refine wpAnyH_take (i := 1) (oi := ⟨some 27, Op.nilCheck (Operand.tmp 26), 0, _, _, none⟩) (v := ?_) rfl (by kernel_rfl) (by kernel_rfl) (by kernel_rfl) (fun _ _ _ h => h) (Or.inl ⟨by rfl, ?_⟩) (by assumption) ?_
 rotate_left
 ·(intro w hSw; (try dsimp only at hSw); go_simp; try with_reducible rfl)
 try simp only [Act.put, List.setIfInBounds_toArray, List.set_cons_zero, List.set_cons_succ]
 refine wpAnyH_take (i := 2) (oi := ⟨some 28, Op.fieldAddr 43 (Operand.tmp 27) 1, 0, _, _, none⟩) (v := ?_) rfl (by kernel_rfl) (by kernel_rfl) (by kernel_rfl) (fun _ _ _ h => h) (Or.inl ⟨by rfl, ?_⟩) (by assumption) ?_
 rotate_left
 ·(intro w hSw; (try dsimp only at hSw); go_simp; try with_reducible rfl)
 try simp only [Act.put, List.setIfInBounds_toArray, List.set_cons_zero, List.set_cons_succ]
 refine wpAnyH_take (i := 3) (oi := ⟨some 29, Op.load 41 (Operand.tmp 28), 41, _, _, none⟩) (v := ?_) rfl (by kernel_rfl) (by kernel_rfl) (by kernel_rfl) (fun _ _ _ h => h) (Or.inl ⟨by rfl, ?_⟩) (by assumption) ?_
 rotate_left
 ·(intro w hSw; (try dsimp only at hSw); go_simp; try with_reducible rfl)
 try simp only [Act.put, List.setIfInBounds_toArray, List.set_cons_zero, List.set_cons_succ]
 refine wpAnyH_take (i := 4) (oi := ⟨some 30, Op.call { callee := Callee.builtin Builtin.len, args := #[Operand.tmp 29], argTypes := #[41] }, 3, _, _, none⟩) (v := ?_) rfl (by kernel_rfl) (by kernel_rfl) (by kernel_rfl) (fun _ _ _ h => h) (Or.inl ⟨by rfl, ?_⟩) (by assumption) ?_
 rotate_left
 ·(intro w hSw; (try dsimp only at hSw); go_simp; try with_reducible rfl)
 try simp only [Act.put, List.setIfInBounds_toArray, List.set_cons_zero, List.set_cons_succ]
 refine wpAnyH_take (i := 5) (oi := ⟨some 31, Op.move (Operand.tmp 1), 77, _, _, none⟩) (v := ?_) rfl (by kernel_rfl) (by kernel_rfl) (by kernel_rfl) (fun _ _ _ h => h) (Or.inl ⟨by rfl, ?_⟩) (by assumption) ?_
 rotate_left
 ·(intro w hSw; (try dsimp only at hSw); go_simp; try with_reducible rfl)
 try simp only [Act.put, List.setIfInBounds_toArray, List.set_cons_zero, List.set_cons_succ]
 refine wpAnyH_take (i := 6) (oi := ⟨some 32, Op.nilCheck (Operand.tmp 31), 0, _, _, none⟩) (v := ?_) rfl (by kernel_rfl) (by kernel_rfl) (by kernel_rfl) (fun _ _ _ h => h) (Or.inl ⟨by rfl, ?_⟩) (by assumption) ?_
 rotate_left
 ·(intro w hSw; (try dsimp only at hSw); go_simp; try with_reducible rfl)
 try simp only [Act.put, List.setIfInBounds_toArray, List.set_cons_zero, List.set_cons_succ]
 refine wpAnyH_take (i := 7) (oi := ⟨some 33, Op.fieldAddr 27 (Operand.tmp 32) 0, 0, _, _, none⟩) (v := ?_) rfl (by kernel_rfl) (by kernel_rfl) (by kernel_rfl) (fun _ _ _ h => h) (Or.inl ⟨by rfl, ?_⟩) (by assumption) ?_
 rotate_left
 ·(intro w hSw; (try dsimp only at hSw); go_simp; try with_reducible rfl)
 try simp only [Act.put, List.setIfInBounds_toArray, List.set_cons_zero, List.set_cons_succ]
 refine wpAnyH_take (i := 8) (oi := ⟨some 34, Op.load 24 (Operand.tmp 33), 24, _, _, none⟩) (v := ?_) rfl (by kernel_rfl) (by kernel_rfl) (by kernel_rfl) (fun _ _ _ h => h) (Or.inl ⟨by rfl, ?_⟩) (by assumption) ?_
 rotate_left
 ·(intro w hSw; (try dsimp only at hSw); go_simp; try with_reducible rfl)
 try simp only [Act.put, List.setIfInBounds_toArray, List.set_cons_zero, List.set_cons_succ]
 refine wpAnyH_take (i := 9) (oi := ⟨some 35, Op.call { callee := Callee.builtin Builtin.len, args := #[Operand.tmp 34], argTypes := #[24] }, 3, _, _, none⟩) (v := ?_) rfl (by kernel_rfl) (by kernel_rfl) (by kernel_rfl) (fun _ _ _ h => h) (Or.inl ⟨by rfl, ?_⟩) (by assumption) ?_
 rotate_left
 ·(intro w hSw; (try dsimp only at hSw); go_simp; try with_reducible rfl)
 try simp only [Act.put, List.setIfInBounds_toArray, List.set_cons_zero, List.set_cons_succ]
 refine wpAnyH_take (i := 10) (oi := ⟨some 36, Op.binOp BinOp.neq 3 (Operand.tmp 30) (Operand.tmp 35) 3, 4, _, _, none⟩) (v := ?_) rfl (by kernel_rfl) (by kernel_rfl) (by kernel_rfl) (fun _ _ _ h => h) (Or.inl ⟨by rfl, ?_⟩) (by assumption) ?_
 rotate_left
 ·(intro w hSw; (try dsimp only at hSw); go_simp; try with_reducible rfl)
 try simp only [Act.put, List.setIfInBounds_toArray, List.set_cons_zero, List.set_cons_succ]
 refine wpAnyH_take (i := 11) (oi := ⟨some 37, Op.move (Operand.tmp 36), 4, _, _, none⟩) (v := ?_) rfl (by kernel_rfl) (by kernel_rfl) (by kernel_rfl) (fun _ _ _ h => h) (Or.inl ⟨by rfl, ?_⟩) (by assumption) ?_
 rotate_left
 ·(intro w hSw; (try dsimp only at hSw); go_simp; try with_reducible rfl)
 try simp only [Act.put, List.setIfInBounds_toArray, List.set_cons_zero, List.set_cons_succ]
 refine wpAnyH_take (i := 12) (oi := ⟨some 38, Op.move (Operand.tmp 0), 116, _, _, some (11, false)⟩) (v := ?_) rfl (by kernel_rfl) (by kernel_rfl) (by kernel_rfl) (fun _ _ _ h => h) (Or.inl ⟨by rfl, ?_⟩) (by assumption) ?_
 rotate_left
 ·(intro w hSw; (try dsimp only at hSw); go_simp; try with_reducible rfl)
 try simp only [Act.put, List.setIfInBounds_toArray, List.set_cons_zero, List.set_cons_succ]
 refine wpAnyH_take (i := 13) (oi := ⟨some 39, Op.nilCheck (Operand.tmp 38), 0, _, _, some (11, false)⟩) (v := ?_) rfl (by kernel_rfl) (by kernel_rfl) (by kernel_rfl) (fun _ _ _ h => h) (Or.inl ⟨by rfl, ?_⟩) (by assumption) ?_
 rotate_left
 ·(intro w hSw; (try dsimp only at hSw); go_simp; try with_reducible rfl)
 try simp only [Act.put, List.setIfInBounds_toArray, List.set_cons_zero, List.set_cons_succ]
 refine wpAnyH_take (i := 14) (oi := ⟨some 40, Op.fieldAddr 43 (Operand.tmp 39) 2, 0, _, _, some (11, false)⟩) (v := ?_) rfl (by kernel_rfl) (by kernel_rfl) (by kernel_rfl) (fun _ _ _ h => h) (Or.inl ⟨by rfl, ?_⟩) (by assumption) ?_
 rotate_left
 ·(intro w hSw; (try dsimp only at hSw); go_simp; try with_reducible rfl)
 try simp only [Act.put, List.setIfInBounds_toArray, List.set_cons_zero, List.set_cons_succ]
 refine wpAnyH_take (i := 15) (oi := ⟨some 41, Op.load 41 (Operand.tmp 40), 41, _, _, some (11, false)⟩) (v := ?_) rfl (by kernel_rfl) (by kernel_rfl) (by kernel_rfl) (fun _ _ _ h => h) (Or.inl ⟨by rfl, ?_⟩) (by assumption) ?_
 rotate_left
 ·(intro w hSw; (try dsimp only at hSw); go_simp; try with_reducible rfl)
 try simp only [Act.put, List.setIfInBounds_toArray, List.set_cons_zero, List.set_cons_succ]
 refine wpAnyH_take (i := 16) (oi := ⟨some 42, Op.call { callee := Callee.builtin Builtin.len, args := #[Operand.tmp 41], argTypes := #[41] }, 3, _, _, some (11, false)⟩) (v := ?_) rfl (by kernel_rfl) (by kernel_rfl) (by kernel_rfl) (fun _ _ _ h => h) (Or.inl ⟨by rfl, ?_⟩) (by assumption) ?_
 rotate_left
 ·(intro w hSw; (try dsimp only at hSw); go_simp; try with_reducible rfl)
 try simp only [Act.put, List.setIfInBounds_toArray, List.set_cons_zero, List.set_cons_succ]
 refine wpAnyH_take (i := 17) (oi := ⟨some 43, Op.move (Operand.tmp 1), 77, _, _, some (11, false)⟩) (v := ?_) rfl (by kernel_rfl) (by kernel_rfl) (by kernel_rfl) (fun _ _ _ h => h) (Or.inl ⟨by rfl, ?_⟩) (by assumption) ?_
 rotate_left
 ·(intro w hSw; (try dsimp only at hSw); go_simp; try with_reducible rfl)
 try simp only [Act.put, List.setIfInBounds_toArray, List.set_cons_zero, List.set_cons_succ]
 refine wpAnyH_take (i := 18) (oi := ⟨some 44, Op.nilCheck (Operand.tmp 43), 0, _, _, some (11, false)⟩) (v := ?_) rfl (by kernel_rfl) (by kernel_rfl) (by kernel_rfl) (fun _ _ _ h => h) (Or.inl ⟨by rfl, ?_⟩) (by assumption) ?_
 rotate_left
 ·(intro w hSw; (try dsimp only at hSw); go_simp; try with_reducible rfl)
 try simp only [Act.put, List.setIfInBounds_toArray, List.set_cons_zero, List.set_cons_succ]
 refine wpAnyH_take (i := 19) (oi := ⟨some 45, Op.fieldAddr 27 (Operand.tmp 44) 2, 0, _, _, some (11, false)⟩) (v := ?_) rfl (by kernel_rfl) (by kernel_rfl) (by kernel_rfl) (fun _ _ _ h => h) (Or.inl ⟨by rfl, ?_⟩) (by assumption) ?_
 rotate_left
 ·(intro w hSw; (try dsimp only at hSw); go_simp; try with_reducible rfl)
 try simp only [Act.put, List.setIfInBounds_toArray, List.set_cons_zero, List.set_cons_succ]
 refine wpAnyH_take (i := 20) (oi := ⟨some 46, Op.load 25 (Operand.tmp 45), 25, _, _, some (11, false)⟩) (v := ?_) rfl (by kernel_rfl) (by kernel_rfl) (by kernel_rfl) (fun _ _ _ h => h) (Or.inl ⟨by rfl, ?_⟩) (by assumption) ?_
 rotate_left
 ·(intro w hSw; (try dsimp only at hSw); go_simp; try with_reducible rfl)
 try simp only [Act.put, List.setIfInBounds_toArray, List.set_cons_zero, List.set_cons_succ]
 refine wpAnyH_take (i := 21) (oi := ⟨some 47, Op.call { callee := Callee.builtin Builtin.len, args := #[Operand.tmp 46], argTypes := #[25] }, 3, _, _, some (11, false)⟩) (v := ?_) rfl (by kernel_rfl) (by kernel_rfl) (by kernel_rfl) (fun _ _ _ h => h) (Or.inl ⟨by rfl, ?_⟩) (by assumption) ?_
 rotate_left
 ·(intro w hSw; (try dsimp only at hSw); go_simp; try with_reducible rfl)
 try simp only [Act.put, List.setIfInBounds_toArray, List.set_cons_zero, List.set_cons_succ]
 refine wpAnyH_take (i := 22) (oi := ⟨some 48, Op.binOp BinOp.neq 3 (Operand.tmp 42) (Operand.tmp 47) 3, 4, _, _, some (11, false)⟩) (v := ?_) rfl (by kernel_rfl) (by kernel_rfl) (by kernel_rfl) (fun _ _ _ h => h) (Or.inl ⟨by rfl, ?_⟩) (by assumption) ?_
 rotate_left
 ·(intro w hSw; (try dsimp only at hSw); go_simp; try with_reducible rfl)
 try simp only [Act.put, List.setIfInBounds_toArray, List.set_cons_zero, List.set_cons_succ]
 refine wpAnyH_take (i := 23) (oi := ⟨some 49, Op.pick (Operand.tmp 37) (Operand.const (Value.bool true)) (Operand.tmp 48), 4, _, _, none⟩) (v := ?_) rfl (by kernel_rfl) (by kernel_rfl) (by kernel_rfl) (fun _ _ _ h => h) (Or.inl ⟨by rfl, ?_⟩) (by assumption) ?_
 rotate_left
 ·(intro w hSw; (try dsimp only at hSw); go_simp; try with_reducible rfl)
 try simp only [Act.put, List.setIfInBounds_toArray, List.set_cons_zero, List.set_cons_succ]
 refine wpAnyH_done (by kernel_rfl) ?_ _
 have kd := hHeld.below
 have HE2 := hide ((unhide HE).call kd)
 have HX2 := hide ((unhide HX).call kd)
 have HY2 := hide ((unhide HY).call kd)
 have HB := hide kd
 clear hh hHeld kd t0 t1 t2
 generalize w.drew = u at HE2 HX2 HY2 HB ⊢
 go_wp2_with fail
 refine (intervals_c b true e1 e2 d1 d2 xs.length ys.length _ (unhide HX).atN (unhide HY).atN (unhide HE2) (by omega)).mono ?_
 rintro e u1 ⟨oa, cap, rfl, ho, kb⟩
 have HS := hide (Ptrs.ofOwn ho (by omega)).2
 have HP := hide (ptrs_cells ((unhide HX2).call kb) ((unhide HY2).call kb))
 have HB := hide ((unhide HB).trans (kb.mono (unhide HB).size))
 have HN := hide (show xs.length + ys.length = (xs ++ ys).length by rw [List.length_append])
 have HM := hide (show (ptrsN e1 xs.length ++ ptrsN e2 ys.length).length = (xs ++ ys).length by rw [List.length_append, List.length_append, ptrsN_len, ptrsN_len])
 clear ho kb HX HY HE HD HE2 HX2 HY2 g3 g4
 generalize ptrsN e1 xs.length ++ ptrsN e2 ys.length = ps at HS HP HM
 generalize xs ++ ys = zs at HF HP HN HM
 generalize xs.length + ys.length = L at hL HN ⊢
 have hL' : (L : Int) ≤ 7 := by omega
 go_wp2
 go_loopw [53] (fun i wr => ∃ k : Nat, k ≤ L ∧ i = .int .i64 k ∧ (∀ j, (h : j < zs.length) → j < k → zs[j].1 ≤ zs[j].2) ∧ Below u1.heap.size u1 wr) (fun i _ => L - (intOf i).toNat)
 case atStart => exact ⟨0, Nat.zero_le _, rfl, fun j _ h => by omega, Below.refl _ _⟩
 case round =>
  obtain ⟨k, hk, rfl, hall, hb⟩ := hrel
  have HA := hide hall
  have HB2 := hide hb
  by_cases hlt : k < L
  ·have hk' : k < zs.length := by rw [← unhide HN]; exact hlt
   have hp' : k < ps.length := by rw [unhide HM]; exact hk'
   rcases ((unhide HS).call hb).2 with h0 | ⟨cb, co, rfl, hc⟩
   ·omega
   obtain ⟨pb, po, hpe, hp1, hp2⟩ := unhide HP k hk'
   rw [List.getElem?_eq_getElem hp', Option.some.injEq] at hpe
   have c1 := hc k hp'
   rw [hpe] at c1
   have c2 := (hb.cell (World.block_lt_of_cell? u1 _ hp1)).trans hp1
   have c3 := (hb.cell (World.block_lt_of_cell? u1 _ hp2)).trans hp2
   have HG := hide (show zs[k].1 ≤ zs[k].2 → ∀ j, (h : j < zs.length) → j < k + 1 → zs[j].1 ≤ zs[j].2 from fun e j h hj => by
    by_cases q : j = k
    ·subst q; exact e
    ·exact unhide HA j h (by omega))
   have HF1 := hide (show ¬ zs[k].1 ≤ zs[k].2 → decide (ivsP zs) = false from fun e => decide_eq_false (fun h => e (h k hk')))
   clear hc hall hb hp1 hp2 hpe
   generalize zs[k].1 = x at c2 HG HF1
   generalize zs[k].2 = y at c3 HG HF1
   go_wp2_with fail
   refine (IvOk_c _ _ _).mono ?_
   rintro e u3 ⟨rfl, kb⟩
   have HB3 := hide ((unhide HB2).trans (kb.mono (unhide HB2).size))
   clear kb c1 c2 c3
   cases ho : okB x y
   ·have HN2 := hide (show fitB vs.length rs.length true xs ys = false by rw [unhide HF]; exact unhide HF1 (Int.not_le.1 (of_decide_eq_false ho)))
    have HB4 := hide ((unhide HB).trans ((unhide HB3).mono (unhide HB).size))
    clear ho
    go_wp2
    go_ret
    exact ⟨by rw [unhide HN2]; rfl, unhide HB4⟩
   ·have HG2 := hide (unhide HG (of_decide_eq_true ho))
    clear ho HG HF1
    go_wp2
    go_roundw
    case rel => exact ⟨k + 1, by omega, by go_num, unhide HG2, unhide HB3⟩
    case measure => simp [intOf]; omega
  ·have HN2 := hide (show fitB vs.length rs.length true xs ys = true by rw [unhide HF]; exact decide_eq_true (fun j hj => unhide HA j hj (by have := unhide HN; omega)))
   have HB4 := hide ((unhide HB).trans (hb.mono (unhide HB).size))
   clear hall hb
   go_wp2
   go_ret
   exact ⟨by rw [unhide HN2]; rfl, unhide HB4⟩
end Go.Proofs.YtpdnnpnclgcpoaaDoor

