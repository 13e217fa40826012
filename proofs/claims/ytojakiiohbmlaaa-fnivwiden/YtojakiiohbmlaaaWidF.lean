/- What is drawn of steps, from a code. -/
import Derived.Test.YtojakiiohbmlaaaWidC
import Derived.Test.YtojakiiohbmlaaaIvS
import Derived.Maps.AppendAt
import Derived.Laws.OwnMore
namespace Go.Proofs.Ytojakiiohbmlaaa
open Go.RowKit Go.Iv
set_option linter.unusedSimpArgs false

def cellsI (l : List Int) : List Value := l.map fun x => .int .i64 x
/-- A row of the call's own of so many numbers, beside the reader. -/
def SS (w : World) (b : Nat) (a : Option Addr) (len cap : Nat) (v : Value) (zs : List Int) (wr : World) : Prop :=
  wr.ownsRow w.heap.size 2 1 v zs.length (cellsI zs) ∧ v ≠ .slice none 0 0 ∧ Left b a len cap w wr
theorem own_kp {w w' : World} {base b : Nat} {e : TypeId} {size n : Nat} {v : Value} {xs : List Value} (h : w.ownsRow base e size v n xs) (k : Kp b w w') (hb : b < base) : w'.ownsRow base e size v n xs := by
  refine ⟨h.1, ?_⟩
  rcases h.2 with hn | ⟨g, cap, cur, hv, hbg, hg, r⟩
  · exact .inl hn
  · exact .inr ⟨g, cap, cur, hv, hbg, by rw [k.block g (Array.getElem?_eq_some_iff.1 hg).1 (by omega)]; exact hg, r⟩
theorem SS.left {w wr w1 : World} {b len cap : Nat} {a : Option Addr} {v : Value} {zs : List Int} (h : SS w b a len cap v zs wr) (hb : b < w.heap.size) (k : Left b a len cap wr w1) : SS w b a len cap v zs w1 :=
  ⟨own_kp h.1 k.2 hb, h.2.1, h.2.2.trans k⟩
theorem SS.step {w wr w1 : World} {b len cap : Nat} {a : Option Addr} {v v' : Value} {zs : List Int} {x : Int} {o : Obj} (h : SS w b a len cap v zs wr) (hb : b < w.heap.size) (hcode : ∀ y, a = some y → 0 < len → y.block < w.heap.size) (hown : w1.ownsRow w.heap.size 2 1 v' (zs.length + 1) (cellsI zs ++ [.int .i64 x]))
    (hg : (wr.alloc o).grownBy w1 v.ownBlock) (hn : ¬ v' = .slice none 0 0) : SS w b a len cap v' (zs ++ [x]) w1 := by
  obtain ⟨ho, h2, hl⟩ := h
  have hs := hl.2.size
  have B : Below w.heap.size wr w1 := ((Below.refl _ wr).alloc hs o).grown hg (by simp; omega) (fun j hj => by have := (ho.lt j hj).1; omega)
  refine ⟨by simpa [cellsI] using hown, hn, ?_⟩
  obtain ⟨⟨p, hp, hh⟩, hc, hx⟩ := hl.1
  refine ⟨⟨⟨p, hp, (B.block b hb).trans hh⟩, ⟨hc.1, ?_⟩, hx⟩, ⟨B.os.trans hl.2.os, B.tape.trans hl.2.tape, B.output.trans hl.2.output, Nat.le_trans hl.2.size B.size, fun k hk hne => (B.block k hk).trans (hl.2.block k hk hne)⟩⟩
  rcases hc.2 with h0 | ⟨cb, co, ha, hcc⟩
  · exact .inl h0
  · refine .inr ⟨cb, co, ha, fun i hi => ?_⟩
    obtain ⟨z, hz, hz2⟩ := hcc i hi
    exact ⟨z, (B.cell (by exact hcode ⟨cb, co, none⟩ ha (by omega))).trans hz, hz2⟩
theorem SS.start {w : World} {b len cap : Nat} {a : Option Addr} (h : Rdr w b a len cap) : SS w b a len cap (.slice (some ⟨w.heap.size, 0, none⟩) 0 0) [] (w.alloc (Obj.cells #[] 2)) := by
  have o1 := World.ownsRow_lit (base := w.heap.size) (size := 1) (e := 2) w #[] 0 (Nat.le_refl _) (by decide) (by simp)
  exact ⟨by simpa [cellsI] using o1, by simp, (Left.refl h).alloc _⟩
theorem SS.ints {w wr : World} {b len cap : Nat} {a : Option Addr} {v : Value} {zs : List Int} (h : SS w b a len cap v zs wr) (hl : zs.length ≤ 1048576) : ∃ g c, v = .slice (some ⟨g, 0, none⟩) zs.length c ∧ w.heap.size ≤ g ∧ Ints wr (some ⟨g, 0, none⟩) zs := by
  obtain ⟨⟨hlen, ho⟩, h2, _⟩ := h
  rcases ho with ⟨rfl, _⟩ | ⟨g, c, cur, rfl, hbg, hg, r⟩
  · exact absurd rfl h2
  · refine ⟨g, c, rfl, hbg, hl, .inr ⟨g, 0, rfl, fun i hi => ?_⟩⟩
    have := World.ownsRow.cellAt (w := wr) (base := w.heap.size) (e := 2) (size := 1) (g := g) (n := zs.length) (cap := c) (xs := cellsI zs) ⟨hlen, .inr ⟨g, c, cur, rfl, hbg, hg, r⟩⟩ i (by omega)
    rw [Nat.zero_add, this]
    simp [cellsI, List.getElem?_eq_getElem hi]
theorem one_cell1 (x : Int) : (∀ u ∈ [Value.int .i64 x], u.oneCell' = true) := by
  intro u hu
  simp at hu
  subst hu; rfl
theorem Rdr.code {w : World} {b len cap : Nat} {a : Option Addr} (h : Rdr w b a len cap) : ∀ y, a = some y → 0 < len → y.block < w.heap.size := by
  obtain ⟨_, hc, _⟩ := h
  intro y hy h0
  rcases hc.2 with h1 | ⟨cb, co, rfl, hcc⟩
  · omega
  · cases hy
    obtain ⟨z, hz, _⟩ := hcc 0 h0
    exact World.block_lt_of_cell? w _ hz

set_option maxHeartbeats 1000000 in
theorem steps_c (b : Nat) (a : Option Addr) (len cap : Nat) (w : World) (h : Rdr w b a len cap) : Calls Try.prog 45 #[.pointer (some ⟨b, 0, none⟩)] w fun e w' => ∃ (g c : Nat) (zs : List Int), e = .returned (.slice (some ⟨g, 0, none⟩) zs.length c) ∧ w.heap.size ≤ g ∧ Ints w' (some ⟨g, 0, none⟩) zs ∧ Left b a len cap w w' := by
  obtain ⟨inf, hi, hz0, hz1, hz2⟩ := info_parts i64Info
  have hb := h.lt
  have HC := hide h.code
  have S0 := hide (SS.start h)
  clear h
  go_enter Try.func45, Try.ntmps45
  go_wp2_with fail
  refine (below_c b a len cap 7 (by decide) _ (unhide S0).2.2.1).mono ?_
  rintro e w1 ⟨r, rfl, r0, r1, r2, hl⟩
  have S1 := hide ((unhide S0).left hb hl)
  clear hl S0
  have r3 : r ≤ 6 := by omega
  clear r1 r2
  go_wp2
  go_loopw [3, 4] (fun v i wr => ∃ (k : Nat) (zs : List Int), k ≤ 6 ∧ i = .int .i64 k ∧ zs.length + k ≤ 6 ∧ SS w b a len cap v zs wr) (fun _ i _ => (intOf i).toNat)
  case atStart =>
    obtain ⟨k, rfl⟩ : ∃ k : Nat, r = k := ⟨r.toNat, by omega⟩
    exact ⟨k, [], by omega, rfl, by simp; omega, unhide S1⟩
  case round =>
    clear S1
    obtain ⟨k, zs, hk, rfl, hz, hss⟩ := hrel
    have HS := hide hss
    clear hss
    by_cases hpos : 0 < k
    · have hpos' : (0 : Int) < (k : Int) := by omega
      go_wp2_with fail
      refine (num_c b a len cap _ (unhide HS).2.2.1).mono ?_
      rintro e w2 ⟨x, rfl, hx, hl⟩
      have HS2 := hide ((unhide HS).left hb hl)
      have HX := hide hx
      clear hl HS hx
      go_wp2_with (at_builtin; refine wpList_append_own _ rfl _ _ 37 rfl w.heap.size 2 inf (.int .i64 0) 1 8 Try.underlying37 hi hz0 hz1 hz2 rfl (by decide) _ _ _ rfl ((unhide HS2).1.alloc _) ⟨_, 0, none⟩ 1 1 [.int .i64 x] rfl rfl ?c1 (one_cell1 _) ?c3 ?c4 ?c5 ?_)
      case c1 =>
        intro j u hj
        rcases j with _ | j
        · simp at hj; subst hj; simp [Addr.add]
        · simp at hj
      case c3 => unfold maxLen; omega
      case c4 => omega
      case c5 => have := (unhide HS2).2.2.2.size; simp; omega
      intro v' w3 hown3 hgrow hnil
      have HS3 := hide ((unhide HS2).step hb (unhide HC) hown3 hgrow hnil)
      clear hown3 hgrow hnil HS2
      go_wp2
      go_roundw
      case rel => exact ⟨k - 1, zs ++ [x], by omega, by go_num, by simp; omega, unhide HS3⟩
      case measure => simp [intOf]; omega
    · obtain rfl : k = 0 := by omega
      go_wp2_with fail
      refine (once_c b a len cap 40 (by decide) (by decide) _ (unhide HS).2.2.1).mono ?_
      rintro e w2 ⟨q, rfl, hl⟩
      have HS2 := hide ((unhide HS).left hb hl)
      clear hl HS
      cases q
      · obtain ⟨g, c, rfl, hg, hin⟩ := (unhide HS2).ints (by omega)
        have HN := hide hin
        clear hin
        go_wp2
        go_ret
        exact ⟨g, c, zs, rfl, hg, unhide HN, (unhide HS2).2.2⟩
      · go_wp2_with fail
        refine (below_c b a len cap 2 (by decide) _ (unhide HS2).2.2.1).mono ?_
        rintro e w3 ⟨s, rfl, s0, s1, s2, hl⟩
        have HL3 := hide ((unhide HS2).2.2.trans hl)
        clear hl HS2 s1
        obtain ⟨n, hn⟩ : ∃ n : Nat, 100 + s = (n : Int) := ⟨(100 + s).toNat, by omega⟩
        obtain ⟨w4, hmk, hf⟩ := make_c n (by omega) (List.replicate n 0) (by simp) w3
        rw [← hn] at hmk
        have HF := hide hf
        have HN := hide hn
        have s3 : s ≤ 1 := by omega
        clear hf hn s2
        go_wp2
        go_ret
        refine ⟨w3.heap.size, n, List.replicate n 0, by simp, Nat.le_trans (unhide HL3).2.size (Nat.le_refl _), ⟨by simp; have := unhide HN; omega, .inr ⟨_, _, rfl, fun i hi => ?_⟩⟩, (unhide HL3).call (unhide HF).2.2.2.2.2⟩
        rw [Nat.zero_add, (unhide HF).2.1 i hi (Nat.zero_le _)]
        simp
set_option maxHeartbeats 1000000 in
theorem DrawIvWiden_c (a : Option Addr) (len cap : Nat) (w : World) (h : Code w a len) : Calls Try.prog 28 #[.slice a len cap] w fun e w' => ∃ (l g l' g' : Int) (q c : Nat) (zs : List Int), e = .returned (.tuple #[.agg #[.int .i64 l, .int .i64 g], .agg #[.int .i64 l', .int .i64 g'], .slice (some ⟨q, 0, none⟩) zs.length c]) ∧ In l ∧ In g ∧ In l' ∧ In g' ∧ Ints w' (some ⟨q, 0, none⟩) zs ∧ Below w.heap.size w w' := by
  have H0 := hide h
  clear h
  go_enter Try.func28, Try.ntmps28
  go_wp2_with fail
  refine (open_c _ _ _ _).mono ?_
  rintro e w1 ⟨rfl, hw1⟩
  have KU : Below w.heap.size w ((w.alloc (Obj.cells #[.int .i64 0, .int .i64 0] 25)).alloc (Obj.cells #[.int .i64 0, .int .i64 0] 25)) := ((Below.refl _ _).alloc (Nat.le_refl _) _).alloc (by simp) _
  have su : ((w.alloc (Obj.cells #[.int .i64 0, .int .i64 0] 25)).alloc (Obj.cells #[.int .i64 0, .int .i64 0] 25)).heap.size = w.heap.size + 1 + 1 := by simp
  have n0 : ((w.alloc (Obj.cells #[.int .i64 0, .int .i64 0] 25)).alloc (Obj.cells #[.int .i64 0, .int .i64 0] 25)).heap[w.heap.size]? = some (Obj.cells #[.int .i64 0, .int .i64 0] 25) := (heap_alloc_old _ _ (by simp)).trans (heap_alloc_new _ _)
  have n1 : ((w.alloc (Obj.cells #[.int .i64 0, .int .i64 0] 25)).alloc (Obj.cells #[.int .i64 0, .int .i64 0] 25)).heap[w.heap.size + 1]? = some (Obj.cells #[.int .i64 0, .int .i64 0] 25) := by
    have := heap_alloc_new (w.alloc (Obj.cells #[.int .i64 0, .int .i64 0] 25)) (Obj.cells #[.int .i64 0, .int .i64 0] 25)
    simpa using this
  have hc : Code ((w.alloc (Obj.cells #[.int .i64 0, .int .i64 0] 25)).alloc (Obj.cells #[.int .i64 0, .int .i64 0] 25)) a len := ((unhide H0).alloc _).alloc _
  generalize (w.alloc (Obj.cells #[.int .i64 0, .int .i64 0] 25)).alloc (Obj.cells #[.int .i64 0, .int .i64 0] 25) = U at *
  have hl1 : Left (w.heap.size + 1 + 1) a len cap U w1 := by rw [hw1, ← su]; exact open_rdr _ _ _ _ hc
  have HL1 := hide hl1
  have HU := hide (show Below w.heap.size w U ∧ U.heap.size = w.heap.size + 1 + 1 ∧ U.heap[w.heap.size]? = some (Obj.cells #[.int .i64 0, .int .i64 0] 25) ∧ U.heap[w.heap.size + 1]? = some (Obj.cells #[.int .i64 0, .int .i64 0] 25) from ⟨KU, su, n0, n1⟩)
  rw [su]
  clear hw1 H0 KU su n0 n1 hc hl1
  generalize hB : w.heap.size = B at *
  have HB := hide hB
  clear hB
  go_wp2_with fail
  refine (iv_c _ _ _ _ _ (unhide HL1).1).mono ?_
  rintro e w2 ⟨l, g, rfl, lin, gin, hl⟩
  have HL2 := hide ((unhide HL1).trans hl)
  have XI := hide (And.intro lin gin)
  clear hl lin gin HL1
  go_wp2_with fail
  refine (iv_c _ _ _ _ _ (unhide HL2).1).mono ?_
  rintro e w3 ⟨l', g', rfl, lin, gin, hl⟩
  have HL3 := hide ((unhide HL2).trans hl)
  have YI := hide (And.intro lin gin)
  clear hl lin gin HL2
  go_wp2_with fail
  refine (steps_c _ _ _ _ _ (unhide HL3).1).mono ?_
  rintro e w4 ⟨q, c, zs, rfl, hq, hin, hl⟩
  have HL4 := hide ((unhide HL3).trans hl)
  have hz3 : B + 1 + 1 < w3.heap.size := (unhide HL3).1.lt
  have HN := hide hin
  have hqb : B + 1 + 1 < q := by omega
  clear hl hin HL3 hq hz3
  have nb := ((unhide HL4).2.block B (by have := (unhide HU).2.1; omega) (by omega)).trans (unhide HU).2.2.1
  have nc := ((unhide HL4).2.block (B + 1) (by have := (unhide HU).2.1; omega) (by omega)).trans (unhide HU).2.2.2
  have b0 : w4.cell? ⟨B, 0, none⟩ = some (.int .i64 0) := cell_ob nb
  have b1 : w4.cell? ⟨B, 1, none⟩ = some (.int .i64 0) := cell_ob nb
  have f0 : w4.frozen? ⟨B, 0, none⟩ = false := frozen_ob nb
  have f1 : w4.frozen? ⟨B, 1, none⟩ = false := frozen_ob nb
  have c0 : w4.cell? ⟨B + 1, 0, none⟩ = some (.int .i64 0) := cell_ob nc
  have c1 : w4.cell? ⟨B + 1, 1, none⟩ = some (.int .i64 0) := cell_ob nc
  have g0 : w4.frozen? ⟨B + 1, 0, none⟩ = false := frozen_ob nc
  have g1 : w4.frozen? ⟨B + 1, 1, none⟩ = false := frozen_ob nc
  have KW := hide (((unhide HU).1.trans ((unhide HL4).2.below (show B ≤ B + 1 + 1 by omega) (by have := (unhide HU).2.1; omega))))
  clear nb nc
  go_wp2
  refine bodyPost_ret (v := .tuple #[.agg #[.int .i64 l, .int .i64 g], .agg #[.int .i64 l', .int .i64 g'], .slice (some ⟨q, 0, none⟩) zs.length c]) (by simp [results, Try.results28, go_sem, b0, b1, c0, c1]) rfl ⟨l, g, l', g', q, c, zs, rfl, (unhide XI).1, (unhide XI).2, (unhide YI).1, (unhide YI).2, ?_, by rw [unhide HB]; exact ((((unhide KW).setCell (by simp) _).setCell (by simp) _).setCell (by simp) _).setCell (by simp) _⟩
  refine ⟨(unhide HN).1, ?_⟩
  rcases (unhide HN).2 with h0 | ⟨cb, co, he, hcc⟩
  · exact .inl h0
  · refine .inr ⟨cb, co, he, fun i hi => ?_⟩
    obtain ⟨rfl, rfl⟩ : q = cb ∧ 0 = co := by simpa using he
    have k : ∀ (w : World) (x o : Nat) (v : Value), x < q → (w.setCell ⟨x, o, none⟩ v).cell? ⟨q, 0 + i, none⟩ = w.cell? ⟨q, 0 + i, none⟩ := fun w x o v hx => World.cell?_setCell_other _ _ _ _ (fun e => by have : x = q := congrArg Addr.block e; omega)
    rw [k _ _ _ _ (by omega), k _ _ _ _ (by omega), k _ _ _ _ (by omega), k _ _ _ _ (by omega)]
    exact hcc i hi
end Go.Proofs.Ytojakiiohbmlaaa
