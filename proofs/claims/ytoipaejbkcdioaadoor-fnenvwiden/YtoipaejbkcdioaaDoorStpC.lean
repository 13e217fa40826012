/- What is drawn of steps, from a code. -/
import Derived.Test.YtoipaejbkcdioaaDoorDrwE
import Derived.Test.YtoipaejbkcdioaaDoorStZ
import Derived.Maps.AppendAt
import Derived.Laws.OwnMore
namespace Go.Proofs.YtoipaejbkcdioaaDoor
open Go.RowKit Go.Iv
set_option linter.unusedSimpArgs false
set_option linter.unusedVariables false

theorem Left.callB {u w v : World} {b len cap : Nat} {a : Option Addr} (h : Left b a len cap u w) (k : Below w.heap.size w v) : Left b a len cap u v := by
  obtain ⟨⟨⟨p, hp, hh⟩, hc, hn⟩, q⟩ := h
  exact ⟨⟨⟨p, hp, (k.block b (Array.getElem?_eq_some_iff.1 hh).1).trans hh⟩, hc.below k, hn⟩, ⟨k.os.trans q.os, k.tape.trans q.tape, k.output.trans q.output, Nat.le_trans q.size k.size, fun i hi hne => (k.block i (Nat.lt_of_lt_of_le hi q.size)).trans (q.block i hi hne)⟩⟩
def cellsI (l : List Int) : List Value := l.map fun x => .int .i64 x
/-- A row of the call's own of so many numbers, beside the reader. -/
def SS (w : World) (b : Nat) (a : Option Addr) (len cap : Nat) (v : Value) (zs : List Int) (wr : World) : Prop :=
  wr.ownsRow w.heap.size 2 1 v zs.length (cellsI zs) ∧ v ≠ .slice none 0 0 ∧ Left b a len cap w wr
theorem SS.left {w wr w1 : World} {b len cap : Nat} {a : Option Addr} {v : Value} {zs : List Int} (h : SS w b a len cap v zs wr) (hb : b < w.heap.size) (k : Left b a len cap wr w1) : SS w b a len cap v zs w1 :=
  ⟨own_kp h.1 k.2 hb, h.2.1, h.2.2.trans k⟩
theorem SS.step {w wr w1 : World} {b len cap : Nat} {a : Option Addr} {v v' : Value} {zs : List Int} {x : Int} {o : Obj} (h : SS w b a len cap v zs wr) (hb : b < w.heap.size) (hcode : ∀ y, a = some y → 0 < len → y.block < w.heap.size) (hown : w1.ownsRow w.heap.size 2 1 v' (zs.length + 1) (cellsI zs ++ [.int .i64 x]))
    (hg : (wr.alloc o).grownBy w1 v.ownBlock) (hn : ¬ v' = .slice none 0 0) : SS w b a len cap v' (zs ++ [x]) w1 := by
  obtain ⟨ho, h2, hl⟩ := h
  have hs := hl.2.size
  have B : Below w.heap.size wr w1 := ((Below.refl _ wr).alloc hs o).grown hg (by simp; omega) (fun j hj => by have := (ho.lt j hj).1; omega)
  refine ⟨by simpa [cellsI] using hown, hn, ?_⟩
  obtain ⟨⟨p, hp, hh⟩, hc, hx⟩ := hl.1
  refine ⟨⟨⟨p, hp, (B.block b hb).trans hh⟩, ⟨hc.1, ?_⟩, hx⟩, ⟨B.os.trans hl.2.os, B.tape.trans hl.2.tape, B.output.trans hl.2.output, Nat.le_trans hl.2.size B.size, fun k hk hne => (B.block k hk).trans (hl.2.block k hk hne)⟩⟩
  rcases hc.2 with h0 | ⟨cb, co, ha, hcc⟩
  · exact .inl h0
  · refine .inr ⟨cb, co, ha, fun i hi => ?_⟩
    obtain ⟨z, hz, hz2⟩ := hcc i hi
    exact ⟨z, (B.cell (by exact hcode ⟨cb, co, none⟩ ha (by omega))).trans hz, hz2⟩
theorem SS.start {w : World} {b len cap : Nat} {a : Option Addr} (h : Rdr w b a len cap) : SS w b a len cap (.slice (some ⟨w.heap.size, 0, none⟩) 0 0) [] (w.alloc (Obj.cells #[] 2)) := by
  have o1 := World.ownsRow_lit (base := w.heap.size) (size := 1) (e := 2) w #[] 0 (Nat.le_refl _) (by decide) (by simp)
  exact ⟨by simpa [cellsI] using o1, by simp, (Left.refl h).alloc _⟩
theorem SS.ints {w wr : World} {b len cap : Nat} {a : Option Addr} {v : Value} {zs : List Int} (h : SS w b a len cap v zs wr) (hl : zs.length ≤ 1048576) : ∃ g c, v = .slice (some ⟨g, 0, none⟩) zs.length c ∧ w.heap.size ≤ g ∧ Ints wr (some ⟨g, 0, none⟩) zs := by
  obtain ⟨⟨hlen, ho⟩, h2, _⟩ := h
  rcases ho with ⟨rfl, _⟩ | ⟨g, c, cur, rfl, hbg, hg, r⟩
  · exact absurd rfl h2
  · refine ⟨g, c, rfl, hbg, hl, .inr ⟨g, 0, rfl, fun i hi => ?_⟩⟩
    have := World.ownsRow.cellAt (w := wr) (base := w.heap.size) (e := 2) (size := 1) (g := g) (n := zs.length) (cap := c) (xs := cellsI zs) ⟨hlen, .inr ⟨g, c, cur, rfl, hbg, hg, r⟩⟩ i (by omega)
    rw [Nat.zero_add, this]
    simp [cellsI, List.getElem?_eq_getElem hi]
theorem one_cell1 (x : Int) : (∀ u ∈ [Value.int .i64 x], u.oneCell' = true) := by
  intro u hu
  simp at hu
  subst hu; rfl
theorem Rdr.code {w : World} {b len cap : Nat} {a : Option Addr} (h : Rdr w b a len cap) : ∀ y, a = some y → 0 < len → y.block < w.heap.size := by
  obtain ⟨_, hc, _⟩ := h
  intro y hy h0
  rcases hc.2 with h1 | ⟨cb, co, rfl, hcc⟩
  · omega
  · cases hy
    obtain ⟨z, hz, _⟩ := hcc 0 h0
    exact World.block_lt_of_cell? w _ hz

set_option maxHeartbeats 1000000 in
theorem steps_c (b : Nat) (a : Option Addr) (len cap : Nat) (w : World) (h : Rdr w b a len cap) : Calls Tryd.prog 54 #[.pointer (some ⟨b, 0, none⟩)] w fun e w' => ∃ (g c : Nat) (zs : List Int), e = .returned (.slice (some ⟨g, 0, none⟩) zs.length c) ∧ w.heap.size ≤ g ∧ Ints w' (some ⟨g, 0, none⟩) zs ∧ Left b a len cap w w' := by
  obtain ⟨inf, hi, hz0, hz1, hz2⟩ := info_parts i64Info
  have hb := h.lt
  have HC := hide h.code
  have S0 := hide (SS.start h)
  clear h
  go_enter Tryd.func54, Tryd.ntmps54
  go_wp2_with fail
  refine (below_c b a len cap 7 (by decide) _ (unhide S0).2.2.1).mono ?_
  rintro e w1 ⟨r, rfl, r0, r1, r2, hl⟩
  have S1 := hide ((unhide S0).left hb hl)
  clear hl S0
  have r3 : r ≤ 6 := by omega
  clear r1 r2
  go_wp2
  go_loopw [3, 4] (fun v i wr => ∃ (k : Nat) (zs : List Int), k ≤ 6 ∧ i = .int .i64 k ∧ zs.length + k ≤ 6 ∧ SS w b a len cap v zs wr) (fun _ i _ => (intOf i).toNat)
  case atStart =>
    obtain ⟨k, rfl⟩ : ∃ k : Nat, r = k := ⟨r.toNat, by omega⟩
    exact ⟨k, [], by omega, rfl, by simp; omega, unhide S1⟩
  case round =>
    clear S1
    obtain ⟨k, zs, hk, rfl, hz, hss⟩ := hrel
    have HS := hide hss
    clear hss
    by_cases hpos : 0 < k
    · have hpos' : (0 : Int) < (k : Int) := by omega
      go_wp2_with fail
      refine (num_c b a len cap _ (unhide HS).2.2.1).mono ?_
      rintro e w2 ⟨x, rfl, hx, hl⟩
      have HS2 := hide ((unhide HS).left hb hl)
      have HX := hide hx
      clear hl HS hx
      go_wp2_with (at_builtin; refine wpList_append_own _ rfl _ _ 33 rfl w.heap.size 2 inf (.int .i64 0) 1 8 Tryd.underlying33 hi hz0 hz1 hz2 rfl (by decide) _ _ _ rfl ((unhide HS2).1.alloc _) ⟨_, 0, none⟩ 1 1 [.int .i64 x] rfl rfl ?c1 (one_cell1 _) ?c3 ?c4 ?c5 ?_)
      case c1 =>
        intro j u hj
        rcases j with _ | j
        · simp at hj; subst hj; simp [Addr.add]
        · simp at hj
      case c3 => unfold maxLen; omega
      case c4 => omega
      case c5 => have := (unhide HS2).2.2.2.size; simp; omega
      intro v' w3 hown3 hgrow hnil
      have HS3 := hide ((unhide HS2).step hb (unhide HC) hown3 hgrow hnil)
      clear hown3 hgrow hnil HS2
      go_wp2
      go_roundw
      case rel => exact ⟨k - 1, zs ++ [x], by omega, by go_num, by simp; omega, unhide HS3⟩
      case measure => simp [intOf]; omega
    · obtain rfl : k = 0 := by omega
      go_wp2_with fail
      refine (once_c b a len cap 40 (by decide) (by decide) _ (unhide HS).2.2.1).mono ?_
      rintro e w2 ⟨q, rfl, hl⟩
      have HS2 := hide ((unhide HS).left hb hl)
      clear hl HS
      cases q
      · obtain ⟨g, c, rfl, hg, hin⟩ := (unhide HS2).ints (by omega)
        have HN := hide hin
        clear hin
        go_wp2
        go_ret
        exact ⟨g, c, zs, rfl, hg, unhide HN, (unhide HS2).2.2⟩
      · go_wp2_with fail
        refine (below_c b a len cap 2 (by decide) _ (unhide HS2).2.2.1).mono ?_
        rintro e w3 ⟨s, rfl, s0, s1, s2, hl⟩
        have HL3 := hide ((unhide HS2).2.2.trans hl)
        clear hl HS2 s1
        obtain ⟨n, hn⟩ : ∃ n : Nat, 100 + s = (n : Int) := ⟨(100 + s).toNat, by omega⟩
        obtain ⟨w4, hmk, hf⟩ := makeI_c n (by omega) (List.replicate n 0) (by simp) w3
        rw [← hn] at hmk
        have HF := hide hf
        have HN := hide hn
        have s3 : s ≤ 1 := by omega
        clear hf hn s2
        go_wp2
        go_ret
        refine ⟨w3.heap.size, n, List.replicate n 0, by simp, Nat.le_trans (unhide HL3).2.size (Nat.le_refl _), ⟨by simp; have := unhide HN; omega, .inr ⟨_, _, rfl, fun i hi => ?_⟩⟩, (unhide HL3).callB (unhide HF).2.2.2.2.2⟩
        rw [Nat.zero_add, (unhide HF).2.1 i hi (Nat.zero_le _)]
        simp
end Go.Proofs.YtoipaejbkcdioaaDoor
