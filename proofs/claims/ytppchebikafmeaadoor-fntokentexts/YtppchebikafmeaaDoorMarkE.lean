/- Marks in rows of entries: they are written, all else stays. -/
import Derived.Test.YtppchebikafmeaaDoorRdY
import Derived.Deep.DeepCutAuto
namespace Go.Proofs.YtppchebikafmeaaDoor
open Go.RowKit
set_option linter.unusedSimpArgs false
set_option linter.unusedVariables false

/-- Blocks outside of lo .. hi - 1 are as they were. -/
structure Mid (lo hi : Nat) (w w' : World) : Prop where
  os : w'.os = w.os
  tape : w'.tape = w.tape
  output : w'.output = w.output
  size : w.heap.size ≤ w'.heap.size
  block : ∀ k, k < w.heap.size → (k < lo ∨ hi ≤ k) → w'.heap[k]? = w.heap[k]?
theorem Mid.refl (lo hi : Nat) (w : World) : Mid lo hi w w := ⟨rfl, rfl, rfl, Nat.le_refl _, fun _ _ _ => rfl⟩
theorem Mid.trans {lo hi : Nat} {u v w : World} (h : Mid lo hi u v) (k : Mid lo hi v w) : Mid lo hi u w :=
  ⟨k.os.trans h.os, k.tape.trans h.tape, k.output.trans h.output, Nat.le_trans h.size k.size, fun i hi' hb => (k.block i (Nat.lt_of_lt_of_le hi' h.size) hb).trans (h.block i hi' hb)⟩
theorem Mid.mono {lo hi lo' hi' : Nat} {u v : World} (h : Mid lo hi u v) (h1 : lo' ≤ lo) (h2 : hi ≤ hi') : Mid lo' hi' u v :=
  ⟨h.os, h.tape, h.output, h.size, fun i a b => h.block i a (by omega)⟩
theorem Mid.of {lo hi : Nat} {u v : World} (h : Below u.heap.size u v) : Mid lo hi u v := ⟨h.os, h.tape, h.output, h.size, fun i a _ => h.block i a⟩
theorem Mid.below {lo hi : Nat} {u v : World} (h : Mid lo hi u v) (hl : lo ≤ u.heap.size) : Below lo u v := ⟨h.os, h.tape, h.output, h.size, fun i a => h.block i (by omega) (.inl a)⟩
theorem Mid.set {lo hi b o : Nat} {u v : World} (h : Mid lo hi u v) (h1 : lo ≤ b) (h2 : b < hi) (x : Value) : Mid lo hi u (v.setCell ⟨b, o, none⟩ x) :=
  ⟨h.os, h.tape, h.output, by simpa [World.setCell] using h.size, fun k hk hb => (Below.heap_setCell _ _ _ _ (by show k ≠ b; omega)).trans (h.block k hk hb)⟩
theorem Mid.cell {lo hi : Nat} {u v : World} (h : Mid lo hi u v) {b o : Nat} (hb : b < u.heap.size) (ho : b < lo ∨ hi ≤ b) : v.cell? ⟨b, o, none⟩ = u.cell? ⟨b, o, none⟩ := World.cell?_of_block (w := u) (h.block b hb ho)
theorem Mid.frozen {lo hi : Nat} {u v : World} (h : Mid lo hi u v) {b o : Nat} (hb : b < u.heap.size) (ho : b < lo ∨ hi ≤ b) : v.frozen? ⟨b, o, none⟩ = u.frozen? ⟨b, o, none⟩ := World.frozen?_of_block (w := u) (h.block b hb ho)
/-- So many cells of a block may be written. -/
def Wr (w : World) (g m : Nat) : Prop := (∀ o, o < m → ∃ v, w.cell? ⟨g, o, none⟩ = some v) ∧ (∀ o, w.frozen? ⟨g, o, none⟩ = false) ∧ g < w.heap.size
theorem Wr.mid {w w' : World} {g m lo hi : Nat} (h : Wr w g m) (k : Mid lo hi w w') (ho : g < lo ∨ hi ≤ g) : Wr w' g m :=
  ⟨fun o hm => by obtain ⟨v, hv⟩ := h.1 o hm; exact ⟨v, (k.cell h.2.2 ho).trans hv⟩, fun o => (k.frozen h.2.2 ho).trans (h.2.1 o), Nat.lt_of_lt_of_le h.2.2 k.size⟩
theorem Wr.call {w w' : World} {g m : Nat} (h : Wr w g m) (hb : Below w.heap.size w w') : Wr w' g m := h.mid (Mid.of (lo := 0) (hi := 0) hb) (.inr (Nat.zero_le _))
theorem Wr.set {w : World} {g m o : Nat} (h : Wr w g m) (x : Value) (ho : o < m) : Wr (w.setCell ⟨g, o, none⟩ x) g m := by
  refine ⟨fun p hp => ?_, fun p => (World.frozen?_setCell _ _ _ _).trans (h.2.1 p), by simpa [World.setCell] using h.2.2⟩
  by_cases e : p = o
  · subst e
    obtain ⟨v, hv⟩ := h.1 p hp
    exact ⟨x, World.cell?_setCell_same _ _ _ hv⟩
  · obtain ⟨v, hv⟩ := h.1 p hp
    exact ⟨v, by rw [World.cell?_setCell_other _ _ _ _ (by intro q; cases q; exact e rfl)]; exact hv⟩
/-- The marks that lie in a row of entries. -/
def MkV (w : World) (g : Nat) (k : Int) (i : Nat) : Prop := ∀ j, j < i → w.cell? ⟨g, j * 2, none⟩ = some (.int .i64 (k + 2 * j)) ∧ w.cell? ⟨g, j * 2 + 1, none⟩ = some (.int .i64 (k + 2 * j + 1))
theorem MkV.mid {w w' : World} {g i lo hi : Nat} {k : Int} (h : MkV w g k i) (m : Mid lo hi w w') (hg : g < w.heap.size) (ho : g < lo ∨ hi ≤ g) : MkV w' g k i := fun j hj => ⟨(m.cell hg ho).trans (h j hj).1, (m.cell hg ho).trans (h j hj).2⟩
theorem MkV.step {w : World} {g i n : Nat} {k : Int} (h : MkV w g k i) (hw : Wr w g (n * 2)) (hi : i < n) : MkV ((w.setCell ⟨g, i * 2, none⟩ (.int .i64 (k + 2 * i))).setCell ⟨g, i * 2 + 1, none⟩ (.int .i64 (k + 2 * i + 1))) g k (i + 1) := by
  intro j hj
  obtain ⟨v0, h0⟩ := hw.1 (i * 2) (by omega)
  obtain ⟨v1, h1⟩ := hw.1 (i * 2 + 1) (by omega)
  by_cases e : j = i
  · subst e
    refine ⟨?_, ?_⟩
    · rw [World.cell?_setCell_other _ _ _ _ (by simp)]; exact World.cell?_setCell_same _ _ _ h0
    · exact World.cell?_setCell_same _ _ _ (by rw [World.cell?_setCell_other _ _ _ _ (by simp)]; exact h1)
  · obtain ⟨c1, c2⟩ := h j (by omega)
    refine ⟨?_, ?_⟩
    · rw [World.cell?_setCell_other _ _ _ _ (by intro q; have := congrArg Addr.off q; simp at this; omega), World.cell?_setCell_other _ _ _ _ (by intro q; have := congrArg Addr.off q; simp at this; omega)]; exact c1
    · rw [World.cell?_setCell_other _ _ _ _ (by intro q; have := congrArg Addr.off q; simp at this; omega), World.cell?_setCell_other _ _ _ _ (by intro q; have := congrArg Addr.off q; simp at this; omega)]; exact c2
theorem markEn0_c (a : Option Addr) (c : Nat) (k : Int) (w : World) : Calls Tryd.prog 19 #[.slice a 0 c, .int .i64 k] w fun e w' => e = .returned (.int .i64 k) ∧ w' = w := by
  go_enter Tryd.func19, Tryd.ntmps19
  go_wp2
  go_loopw [1, 5] (fun kk i wr => kk = .int .i64 k ∧ i = .int .i64 0 ∧ wr = w) (fun _ i _ => 0)
  case atStart => exact ⟨rfl, rfl, rfl⟩
  case round =>
    obtain ⟨rfl, rfl, rfl⟩ := hrel
    go_wp2
    go_ret
    exact ⟨rfl, rfl⟩
set_option maxHeartbeats 2000000 in
theorem markEn_c (g n c : Nat) (k : Int) (hk : 0 ≤ k ∧ k ≤ 1099511627776) (hn : n ≤ 1048576) (w : World) (h : Wr w g (n * 2)) : Calls Tryd.prog 19 #[.slice (some ⟨g, 0, none⟩) n c, .int .i64 k] w fun e w' => e = .returned (.int .i64 (k + 2 * n)) ∧ MkV w' g k n ∧ Mid g (g + 1) w w' := by
  have H0 := hide h
  have hn' : (n : Int) ≤ 1048576 := by omega
  clear h
  go_enter Tryd.func19, Tryd.ntmps19
  go_wp2
  go_loopw [1, 5] (fun kk i wr => ∃ j : Nat, j ≤ n ∧ kk = .int .i64 (k + 2 * j) ∧ i = .int .i64 j ∧ Wr wr g (n * 2) ∧ MkV wr g k j ∧ Mid g (g + 1) w wr) (fun _ i _ => n - (intOf i).toNat)
  case atStart => exact ⟨0, Nat.zero_le _, by simp, rfl, unhide H0, fun j hj => by omega, Mid.refl _ _ _⟩
  case round =>
    obtain ⟨j, hj, rfl, rfl, hw, hm, hd⟩ := hrel
    have HW := hide hw
    have HM := hide hm
    have HD := hide hd
    by_cases hlt : j < n
    · obtain ⟨v0, h0⟩ := hw.1 (j * 2) (by omega)
      obtain ⟨v1, h1⟩ := hw.1 (j * 2 + 1) (by omega)
      have f0 := hw.2.1 (j * 2)
      have f1 := hw.2.1 (j * 2 + 1)
      have e1 : wrap64 (k + 2 * ↑j + 1) = k + 2 * ↑j + 1 := by unfold wrap64; omega
      have e2 : wrap64 (k + 2 * ↑j + 1 + 1) = k + 2 * ↑j + 1 + 1 := by unfold wrap64; omega
      clear hw hm hd
      go_wp2
      go_roundw
      case rel => exact ⟨j + 1, by omega, by first | rfl | (congr 1; omega) | (simp; omega), by go_num, ((unhide HW).set _ (by omega)).set _ (by omega), (unhide HM).step (unhide HW) hlt, ((unhide HD).set (Nat.le_refl _) (by omega) _).set (Nat.le_refl _) (by omega) _⟩
      case measure => simp [intOf]; omega
    · obtain rfl : n = j := by omega
      clear hw hm hd
      go_wp2
      go_ret
      exact ⟨rfl, unhide HM, unhide HD⟩
theorem heldEn0_c (a : Option Addr) (c : Nat) (k : Int) (w : World) : Calls Tryd.prog 20 #[.slice a 0 c, .int .i64 k] w fun e w' => e = .returned (.int .i64 k) ∧ w' = w := by
  go_enter Tryd.func20, Tryd.ntmps20
  go_wp2
  go_loopw [1, 5] (fun kk i wr => kk = .int .i64 k ∧ i = .int .i64 0 ∧ wr = w) (fun _ i _ => 0)
  case atStart => exact ⟨rfl, rfl, rfl⟩
  case round =>
    obtain ⟨rfl, rfl, rfl⟩ := hrel
    go_wp2
    go_ret
    exact ⟨rfl, rfl⟩
set_option maxHeartbeats 2000000 in
theorem heldEn_c (g n c : Nat) (k : Int) (hk : 0 ≤ k ∧ k ≤ 1099511627776) (hn : n ≤ 1048576) (w : World) (h : MkV w g k n) : Calls Tryd.prog 20 #[.slice (some ⟨g, 0, none⟩) n c, .int .i64 k] w fun e w' => e = .returned (.int .i64 (k + 2 * n)) ∧ w' = w := by
  have H0 := hide h
  have hn' : (n : Int) ≤ 1048576 := by omega
  clear h
  go_enter Tryd.func20, Tryd.ntmps20
  go_wp2
  go_loopw [1, 5] (fun kk i wr => ∃ j : Nat, j ≤ n ∧ kk = .int .i64 (k + 2 * j) ∧ i = .int .i64 j ∧ wr = w) (fun _ i _ => n - (intOf i).toNat)
  case atStart => exact ⟨0, Nat.zero_le _, by simp, rfl, rfl⟩
  case round =>
    obtain ⟨j, hj, rfl, rfl, rfl⟩ := hrel
    by_cases hlt : j < n
    · obtain ⟨c0, c1⟩ := unhide H0 j hlt
      have e1 : wrap64 (k + 2 * ↑j + 1) = k + 2 * ↑j + 1 := by unfold wrap64; omega
      have e2 : wrap64 (k + 2 * ↑j + 1 + 1) = k + 2 * ↑j + 1 + 1 := by unfold wrap64; omega
      go_wp2
      go_roundw
      case rel => exact ⟨j + 1, by omega, by first | rfl | (congr 1; omega) | (simp; omega), by go_num, by first | rfl | trivial⟩
      case measure => simp [intOf]; omega
    · obtain rfl : n = j := by omega
      go_wp2
      go_ret
      exact ⟨rfl, rfl⟩
/-- Marks that lie in a row of the call's own. -/
def MkE (w : World) (B : Nat) (a : Option Addr) (k : Int) (n : Nat) : Prop := n = 0 ∨ ∃ g, a = some ⟨g, 0, none⟩ ∧ B ≤ g ∧ g < w.heap.size ∧ MkV w g k n
theorem MkE.call {w w' : World} {B n : Nat} {a : Option Addr} {q : Int} (r : MkE w B a q n) (hb : Below w.heap.size w w') : MkE w' B a q n := by
  rcases r with r | ⟨g, e, h1, h2, h3⟩
  · exact .inl r
  · exact .inr ⟨g, e, h1, Nat.lt_of_lt_of_le h2 hb.size, h3.mid (Mid.of (lo := 0) (hi := 0) hb) h2 (.inr (Nat.zero_le _))⟩
theorem cellsW_len (l : List (Int × Int)) : (cellsW l).length = l.length * 2 := by
  induction l with
  | nil => rfl
  | cons p l ih =>
    have e : cellsW (p :: l) = [.int .i64 p.1, .int .i64 p.2] ++ cellsW l := rfl
    rw [e, List.length_append, ih]
    simp
    omega
theorem RowN.wr {w : World} {B : Nat} {oc : Option Addr} {cc : Nat} {es : List (Int × Int)} (h : RowN w B oc cc es) : es.length = 0 ∨ ∃ g, oc = some ⟨g, 0, none⟩ ∧ B ≤ g ∧ Wr w g (es.length * 2) := by
  have h := h
  unfold RowN at h
  rcases h.2 with ⟨_, h0⟩ | ⟨g, cap, cur, hv, hB, hg, r⟩
  · exact .inl h0
  · cases hv
    refine .inr ⟨g, rfl, hB, fun o ho => ?_, fun o => h.frozenAt o, (Array.getElem?_eq_some_iff.1 hg).1⟩
    have := h.cellAt o ho
    rw [this]
    exact ⟨_, List.getElem?_eq_getElem (by rw [cellsW_len]; exact ho)⟩
theorem markOwn_c (oc : Option Addr) (cc B : Nat) (es : List (Int × Int)) (k : Int) (hk : 0 ≤ k ∧ k ≤ 1099511627776) (hn : es.length ≤ 1048576) (w : World) (h : RowN w B oc cc es) (hB : B ≤ w.heap.size) : Calls Tryd.prog 19 #[.slice oc es.length cc, .int .i64 k] w fun e w' => e = .returned (.int .i64 (k + 2 * es.length)) ∧ MkE w' B oc k es.length ∧ Below B w w' := by
  rcases h.wr with h0 | ⟨g, rfl, h1, h2⟩
  · rw [h0]
    refine (markEn0_c oc cc k w).mono ?_
    rintro e w' ⟨rfl, rfl⟩
    exact ⟨by simp, .inl rfl, Below.refl _ _⟩
  · refine (markEn_c g es.length cc k hk hn w h2).mono ?_
    rintro e w' ⟨rfl, m1, m2⟩
    exact ⟨rfl, .inr ⟨g, rfl, h1, Nat.lt_of_lt_of_le h2.2.2 m2.size, m1⟩, (m2.mono h1 (Nat.le_refl _)).below hB⟩
theorem heldOwn_c (a : Option Addr) (c B n : Nat) (k : Int) (hk : 0 ≤ k ∧ k ≤ 1099511627776) (hn : n ≤ 1048576) (w : World) (h : MkE w B a k n) : Calls Tryd.prog 20 #[.slice a n c, .int .i64 k] w fun e w' => e = .returned (.int .i64 (k + 2 * n)) ∧ w' = w := by
  rcases h with h | ⟨g, rfl, h1, h2, h3⟩
  · subst h
    refine (heldEn0_c a c k w).mono ?_
    rintro e w' ⟨rfl, rfl⟩
    exact ⟨by simp, rfl⟩
  · exact heldEn_c g n c k hk hn w h3
end Go.Proofs.YtppchebikafmeaaDoor
