/- What is drawn of tokens, from a code. -/
import Derived.Test.YtppchebikafmeaaDoorDrawC
import Derived.Test.YtppchebikafmeaaDoorRdK
import Derived.Maps.AppendAt
import Derived.Laws.OwnMore
namespace Go.Proofs.YtppchebikafmeaaDoor
open Go.RowKit Go.Iv
set_option linter.unusedSimpArgs false

theorem two_new (u : World) (x y : Value) (t : TypeId) : (u.alloc (Obj.cells #[x, y] t)).drew.cell? ⟨u.heap.size, 0, none⟩ = some x ∧ (u.alloc (Obj.cells #[x, y] t)).drew.cell? ⟨u.heap.size, 1, none⟩ = some y := by
  constructor
  · show (u.alloc (Obj.cells #[x, y] t)).cell? _ = _
    unfold World.cell?; rw [heap_alloc_new]; rfl
  · show (u.alloc (Obj.cells #[x, y] t)).cell? _ = _
    unfold World.cell?; rw [heap_alloc_new]; rfl
theorem two_new' (u : World) (x y : Value) (t : TypeId) : (u.alloc (Obj.cells #[x, y] t)).cell? ⟨u.heap.size, 0, none⟩ = some x ∧ (u.alloc (Obj.cells #[x, y] t)).cell? ⟨u.heap.size, 1, none⟩ = some y := two_new u x y t
theorem near_c (b : Nat) (a : Option Addr) (len cap : Nat) (l g : Int) (hl : In l) (hg : In g) (hd : g - l < 18446744073709551615) (w : World) (h : Rdr w b a len cap) : Calls Tryd.prog 50 #[.pointer (some ⟨b, 0, none⟩), .int .i64 l, .int .i64 g] w fun e w' => ∃ n : Int, e = .returned (.int .i64 n) ∧ In n ∧ Left b a len cap w w' := by
  have R := hide h
  have XI := hide hl
  have YI := hide hg
  have HD := hide hd
  clear h hl hg hd
  go_enter Tryd.func50, Tryd.ntmps50
  go_wp2_with fail
  refine (below_c _ _ _ _ _ (by decide) _ (unhide R)).mono ?_
  rintro e w1 ⟨x, rfl, x0, x1, x2, hl⟩
  have HL := hide hl
  clear hl x2 R
  by_cases e0 : x = 0
  · have e0' : (x == 0) = true := by simpa using e0
    clear e0
    go_wp2
    go_ret
    exact ⟨l, rfl, unhide XI, unhide HL⟩
  have e0' : (x == 0) = false := by simpa using e0
  by_cases e1 : x = 1
  · have e1' : (x == 1) = true := by simpa using e1
    clear e0 e1
    go_wp2
    go_ret
    exact ⟨g, rfl, unhide YI, unhide HL⟩
  have e1' : (x == 1) = false := by simpa using e1
  clear e0 e1
  by_cases hgl : g < l
  · go_wp2
    go_ret
    exact ⟨l, rfl, unhide XI, unhide HL⟩
  go_wp2_with fail
  refine (word_c _ _ _ _ _ (unhide HL).1).mono ?_
  rintro e w2 ⟨y, rfl, y0, y1, hl⟩
  have HL2 := hide ((unhide HL).trans hl)
  clear hl
  have hnz : ¬ IntKind.u64.wrap (wrap64 (wrap64 (g - l) + 1)) = 0 := by
    have := unhide HD
    have := unhide XI
    have := unhide YI
    rw [IntKind.wrap_u64]
    unfold wrap64 In at *
    omega
  go_wp2
  go_ret
  exact ⟨_, rfl, wrap_in _, unhide HL2⟩
set_option maxHeartbeats 1000000 in
theorem off_c (b : Nat) (a : Option Addr) (len cap : Nat) (l g : Int) (hl : In l) (hg : In g) (hd : g - l < 18446744073709551615) (w : World) (h : Rdr w b a len cap) : Calls Tryd.prog 41 #[.pointer (some ⟨b, 0, none⟩), .int .i64 l, .int .i64 g] w fun e w' => ∃ n : Int, e = .returned (.int .i64 n) ∧ In n ∧ Left b a len cap w w' := by
  have R := hide h
  have X := hide (And.intro hl (And.intro hg hd))
  clear h hl hg hd
  go_enter Tryd.func41, Tryd.ntmps41
  go_wp2_with fail
  refine (once_c _ _ _ _ _ (by decide) (by decide) _ (unhide R)).mono ?_
  rintro e w1 ⟨r, rfl, hl⟩
  have HL := hide hl
  clear hl R
  cases r
  · go_wp2_with fail
    refine (near_c _ _ _ _ _ _ (unhide X).1 (unhide X).2.1 (unhide X).2.2 _ (unhide HL).1).mono ?_
    rintro e w2 ⟨n, rfl, hn, hl⟩
    have HL2 := hide ((unhide HL).trans hl)
    have N := hide hn
    clear hl hn HL
    go_wp2
    go_ret
    exact ⟨n, rfl, unhide N, unhide HL2⟩
  · have hlt : b < w1.heap.size := (unhide HL).1.lt
    go_wp2_with fail
    refine (below_c _ _ _ _ _ (by decide) _ ((unhide HL).1.alloc _)).mono ?_
    rintro e w2 ⟨y, rfl, y0, y1, y2, hl⟩
    have y3 : y < 4 := by omega
    have pk := pick4_kept hl.2 hlt y0 y3
    have HL2 := hide (((unhide HL).alloc _).trans hl)
    clear hl HL y2
    go_wp2
    go_ret
    exact ⟨_, rfl, pick4_in _ (wrap_in _) (wrap_in _) (by unfold In; decide) (by unfold In; decide), unhide HL2⟩
def cellsV (l : List (Int × Int)) : List Value := l.flatMap fun p => [.int .i64 p.1, .int .i64 p.2]
theorem cellsV_len (l : List (Int × Int)) : (cellsV l).length = l.length * 2 := by
  induction l with
  | nil => rfl
  | cons p l ih => show (cellsV l).length + 2 = _; rw [ih, List.length_cons]; omega
theorem cellsV_one (l : List (Int × Int)) : ∀ u ∈ cellsV l, u.oneCell' = true := by
  intro u hu
  obtain ⟨x, _, hx⟩ := List.mem_flatMap.1 hu
  simp at hx
  rcases hx with rfl | rfl <;> rfl
theorem cellsV_app (l m : List (Int × Int)) : cellsV (l ++ m) = cellsV l ++ cellsV m := by simp [cellsV]
theorem cellsV_at (l : List (Int × Int)) : ∀ i, (h : i < l.length) → (cellsV l)[i * 2]? = some (.int .i64 l[i].1) ∧ (cellsV l)[i * 2 + 1]? = some (.int .i64 l[i].2) := by
  induction l with
  | nil => intro i h; cases h
  | cons p l ih =>
    intro i h
    have e : cellsV (p :: l) = .int .i64 p.1 :: .int .i64 p.2 :: cellsV l := rfl
    rw [e]
    cases i with
    | zero => exact ⟨rfl, rfl⟩
    | succ i =>
      have k := ih i (by simpa using h)
      rw [show (i + 1) * 2 = i * 2 + 1 + 1 by omega]
      exact k
theorem own_kp {w w' : World} {base b : Nat} {e : TypeId} {size n : Nat} {v : Value} {xs : List Value} (h : w.ownsRow base e size v n xs) (k : Kp b w w') (hb : b < base) : w'.ownsRow base e size v n xs := by
  refine ⟨h.1, ?_⟩
  rcases h.2 with hn | ⟨g, cap, cur, hv, hbg, hg, r⟩
  · exact .inl hn
  · exact .inr ⟨g, cap, cur, hv, hbg, by rw [k.block g (Array.getElem?_eq_some_iff.1 hg).1 (by omega)]; exact hg, r⟩
/-- A row of the call's own of so many entries, beside the reader. -/
def ST (w : World) (b : Nat) (a : Option Addr) (len cap : Nat) (v : Value) (zs : List (Int × Int)) (wr : World) : Prop :=
  wr.ownsRow w.heap.size 40 2 v zs.length (cellsV zs) ∧ v ≠ .slice none 0 0 ∧ Left b a len cap w wr
theorem ST.left {w wr w1 : World} {b len cap : Nat} {a : Option Addr} {v : Value} {zs : List (Int × Int)} (h : ST w b a len cap v zs wr) (hb : b < w.heap.size) (k : Left b a len cap wr w1) : ST w b a len cap v zs w1 :=
  ⟨own_kp h.1 k.2 hb, h.2.1, h.2.2.trans k⟩
theorem ST.step {w wr w1 : World} {b len cap : Nat} {a : Option Addr} {v v' : Value} {zs : List (Int × Int)} {x y : Int} {o : Obj} (h : ST w b a len cap v zs wr) (hb : b < w.heap.size) (hcode : ∀ t, a = some t → 0 < len → t.block < w.heap.size) (hown : w1.ownsRow w.heap.size 40 2 v' (zs.length + 1) (cellsV zs ++ [.int .i64 x, .int .i64 y]))
    (hg : (wr.alloc o).grownBy w1 v.ownBlock) (hn : ¬ v' = .slice none 0 0) : ST w b a len cap v' (zs ++ [(x, y)]) w1 := by
  obtain ⟨ho, h2, hl⟩ := h
  have hs := hl.2.size
  have B : Below w.heap.size wr w1 := ((Below.refl _ wr).alloc hs o).grown hg (by simp; omega) (fun j hj => by have := (ho.lt j hj).1; omega)
  refine ⟨by rw [cellsV_app, show cellsV [(x, y)] = [Value.int .i64 x, .int .i64 y] from rfl]; simpa using hown, hn, ?_⟩
  obtain ⟨⟨p, hp, hh⟩, hc, hx⟩ := hl.1
  refine ⟨⟨⟨p, hp, (B.block b hb).trans hh⟩, ⟨hc.1, ?_⟩, hx⟩, ⟨B.os.trans hl.2.os, B.tape.trans hl.2.tape, B.output.trans hl.2.output, Nat.le_trans hl.2.size B.size, fun k hk hne => (B.block k hk).trans (hl.2.block k hk hne)⟩⟩
  rcases hc.2 with h0 | ⟨cb, co, ha, hcc⟩
  · exact .inl h0
  · refine .inr ⟨cb, co, ha, fun i hi => ?_⟩
    obtain ⟨z, hz, hz2⟩ := hcc i hi
    exact ⟨z, (B.cell (by exact hcode ⟨cb, co, none⟩ ha (by omega))).trans hz, hz2⟩
theorem ST.start {w : World} {b len cap : Nat} {a : Option Addr} (h : Rdr w b a len cap) : ST w b a len cap (.slice (some ⟨w.heap.size, 0, none⟩) 0 0) [] (w.alloc (Obj.cells #[] 40)) := by
  have o1 := World.ownsRow_lit (base := w.heap.size) (size := 2) (e := 40) w #[] 0 (Nat.le_refl _) (by decide) (by simp)
  exact ⟨by simpa [cellsV] using o1, by simp, (Left.refl h).alloc _⟩
theorem ST.ents {w wr : World} {b len cap : Nat} {a : Option Addr} {v : Value} {zs : List (Int × Int)} (h : ST w b a len cap v zs wr) (hl : zs.length ≤ 1048576) : ∃ g c, v = .slice (some ⟨g, 0, none⟩) zs.length c ∧ w.heap.size ≤ g ∧ Ivs wr (some ⟨g, 0, none⟩) zs := by
  obtain ⟨⟨hlen, ho⟩, h2, _⟩ := h
  rcases ho with ⟨rfl, _⟩ | ⟨g, c, cur, rfl, hbg, hg, r⟩
  · exact absurd rfl h2
  · refine ⟨g, c, rfl, hbg, hl, .inr ⟨g, 0, rfl, fun i hi => ?_⟩⟩
    have k0 := World.ownsRow.cellAt (w := wr) (base := w.heap.size) (e := 40) (size := 2) (g := g) (n := zs.length) (cap := c) (xs := cellsV zs) ⟨hlen, .inr ⟨g, c, cur, rfl, hbg, hg, r⟩⟩ (i * 2) (by omega)
    have k1 := World.ownsRow.cellAt (w := wr) (base := w.heap.size) (e := 40) (size := 2) (g := g) (n := zs.length) (cap := c) (xs := cellsV zs) ⟨hlen, .inr ⟨g, c, cur, rfl, hbg, hg, r⟩⟩ (i * 2 + 1) (by omega)
    have d := cellsV_at zs i hi
    rw [Nat.zero_add, k0, k1]
    exact d
theorem one_cell2 (x y : Int) : (∀ u ∈ [Value.int .i64 x, .int .i64 y], u.oneCell' = true) := by
  intro u hu
  simp at hu
  rcases hu with rfl | rfl <;> rfl
theorem Rdr.code {w : World} {b len cap : Nat} {a : Option Addr} (h : Rdr w b a len cap) : ∀ y, a = some y → 0 < len → y.block < w.heap.size := by
  obtain ⟨_, hc, _⟩ := h
  intro y hy h0
  rcases hc.2 with h1 | ⟨cb, co, rfl, hcc⟩
  · omega
  · cases hy
    obtain ⟨z, hz, _⟩ := hcc 0 h0
    exact World.block_lt_of_cell? w _ hz

theorem Ivs.kp {w w1 : World} {a : Option Addr} {xs : List (Int × Int)} {b : Nat} (h : Ivs w a xs) (k : Kp b w w1) (ha : ∀ x, a = some x → 0 < xs.length → x.block ≠ b) : Ivs w1 a xs := by
  refine ⟨h.1, ?_⟩
  rcases h.2 with h0 | ⟨cb, co, rfl, hc⟩
  · exact .inl h0
  · refine .inr ⟨cb, co, rfl, fun i hi => ?_⟩
    have hne := ha ⟨cb, co, none⟩ rfl (by omega)
    have hlt := World.block_lt_of_cell? w _ (hc i hi).1
    have e := k.block cb hlt hne
    have c1 : w1.cell? ⟨cb, co + i * 2, none⟩ = w.cell? ⟨cb, co + i * 2, none⟩ := World.cell?_of_block (by exact e)
    have c2 : w1.cell? ⟨cb, co + i * 2 + 1, none⟩ = w.cell? ⟨cb, co + i * 2 + 1, none⟩ := World.cell?_of_block (by exact e)
    rw [c1, c2]
    exact hc i hi
theorem lit_ent (u : World) (x y : Int) (t : TypeId) : Ivs (u.alloc (Obj.cells #[.int .i64 x, .int .i64 y] t)) (some ⟨u.heap.size, 0, none⟩) [(x, y)] := by
  refine ⟨by simp, .inr ⟨u.heap.size, 0, rfl, fun i hi => ?_⟩⟩
  obtain rfl : i = 0 := by simp at hi; omega
  exact two_new' u (.int .i64 x) (.int .i64 y) t
set_option maxHeartbeats 1000000 in
theorem token_c (b : Nat) (a : Option Addr) (len cap : Nat) (w : World) (h : Rdr w b a len cap) : Calls Tryd.prog 25 #[.pointer (some ⟨b, 0, none⟩)] w fun e w' => ∃ (g c : Nat) (zs : List (Int × Int)), e = .returned (.slice (some ⟨g, 0, none⟩) zs.length c) ∧ w.heap.size ≤ g ∧ Ivs w' (some ⟨g, 0, none⟩) zs ∧ Left b a len cap w w' := by
  obtain ⟨inf, hi, hz0, hz1, hz2⟩ := info_parts ivInfo
  have hb := h.lt
  have HC := hide h.code
  have S0 := hide (ST.start h)
  clear h
  go_enter Tryd.func25, Tryd.ntmps25
  go_wp2_with fail
  refine (below_c b a len cap 4 (by decide) _ (unhide S0).2.2.1).mono ?_
  rintro e w1 ⟨r, rfl, r0, r1, r2, hl⟩
  have S1 := hide ((unhide S0).left hb hl)
  clear hl S0
  have r3 : r ≤ 3 := by omega
  clear r1 r2
  go_wp2
  go_loopw [3, 4] (fun v i wr => ∃ (k : Nat) (zs : List (Int × Int)), k ≤ 3 ∧ i = .int .i64 k ∧ zs.length + k ≤ 3 ∧ ST w b a len cap v zs wr) (fun _ i _ => (intOf i).toNat)
  case atStart =>
    obtain ⟨k, rfl⟩ : ∃ k : Nat, r = k := ⟨r.toNat, by omega⟩
    exact ⟨k, [], by omega, rfl, by simp; omega, unhide S1⟩
  case round =>
    clear S1
    obtain ⟨k, zs, hk, rfl, hz, hss⟩ := hrel
    have HS := hide hss
    clear hss
    by_cases hpos : 0 < k
    · have hpos' : (0 : Int) < (k : Int) := by omega
      go_wp2_with fail
      refine (below_c b a len cap 4 (by decide) _ (unhide HS).2.2.1).mono ?_
      rintro e w2 ⟨x, rfl, x0, x1, x2, hl⟩
      have HS2 := hide ((unhide HS).left hb hl)
      clear hl HS x2
      go_wp2_with fail
      refine (below_c b a len cap 3 (by decide) _ (unhide HS2).2.2.1).mono ?_
      rintro e w3 ⟨y, rfl, y0, y1, y2, hl⟩
      have HS3 := hide ((unhide HS2).left hb hl)
      clear hl HS2 y2
      go_wp2_with (at_builtin; refine wpList_append_own _ rfl _ _ 24 rfl w.heap.size 40 inf (.agg #[.int .i64 0, .int .i64 0]) 2 16 Tryd.underlying24 hi hz0 hz1 hz2 rfl (by decide) _ _ _ rfl ((unhide HS3).1.alloc _) ⟨_, 0, none⟩ 1 1 [.int .i64 x, .int .i64 y] rfl rfl ?c1 (one_cell2 _ _) ?c3 ?c4 ?c5 ?_)
      case c1 =>
        intro j u hj
        rcases j with _ | _ | j
        · simp at hj; subst hj; simp [Addr.add]
        · simp at hj; subst hj; simp [Addr.add]
        · simp at hj
      case c3 => unfold maxLen; omega
      case c4 => omega
      case c5 => have := (unhide HS3).2.2.2.size; simp; omega
      intro v' w4 hown3 hgrow hnil
      have HS4 := hide ((unhide HS3).step hb (unhide HC) hown3 hgrow hnil)
      clear hown3 hgrow hnil HS3
      go_wp2
      go_roundw
      case rel => exact ⟨k - 1, zs ++ [(x, y)], by omega, by go_num, by simp; omega, unhide HS4⟩
      case measure => simp [intOf]; omega
    · obtain rfl : k = 0 := by omega
      go_wp2_with fail
      refine (below_c b a len cap 40 (by decide) _ (unhide HS).2.2.1).mono ?_
      rintro e w2 ⟨q, rfl, q0, q1, q2, hl⟩
      have HS2 := hide ((unhide HS).left hb hl)
      clear hl HS q2
      by_cases e0 : q = 0
      · have e0' : (q == 0) = true := by simpa using e0
        clear e0
        go_wp2_with fail
        refine (off_c b a len cap 0 29 (by unfold In; decide) (by unfold In; decide) (by decide) _ (unhide HS2).2.2.1).mono ?_
        rintro e w3 ⟨x, rfl, hx, hl⟩
        have HS3 := hide ((unhide HS2).left hb hl)
        clear hl HS2 hx
        go_wp2_with fail
        refine (off_c b a len cap 0 4 (by unfold In; decide) (by unfold In; decide) (by decide) _ (unhide HS3).2.2.1).mono ?_
        rintro e w4 ⟨y, rfl, hy, hl⟩
        have HS4 := hide ((unhide HS3).left hb hl)
        clear hl HS3 hy
        go_wp2_with (at_builtin; refine wpList_append_own _ rfl _ _ 24 rfl w.heap.size 40 inf (.agg #[.int .i64 0, .int .i64 0]) 2 16 Tryd.underlying24 hi hz0 hz1 hz2 rfl (by decide) _ _ _ rfl ((unhide HS4).1.alloc _) ⟨_, 0, none⟩ 1 1 [.int .i64 x, .int .i64 y] rfl rfl ?c1 (one_cell2 _ _) ?c3 ?c4 ?c5 ?_)
        case c1 =>
          intro j u hj
          rcases j with _ | _ | j
          · simp at hj; subst hj; simp [Addr.add]
          · simp at hj; subst hj; simp [Addr.add]
          · simp at hj
        case c3 => unfold maxLen; omega
        case c4 => omega
        case c5 => have := (unhide HS4).2.2.2.size; simp; omega
        intro v' w5 hown3 hgrow hnil
        have HS5 := hide ((unhide HS4).step hb (unhide HC) hown3 hgrow hnil)
        clear hown3 hgrow hnil HS4
        obtain ⟨g, c, rfl, hg, hin⟩ := (unhide HS5).ents (by simp; omega)
        have HN := hide hin
        clear hin
        go_wp2
        go_ret
        exact ⟨g, c, _, rfl, hg, unhide HN, (unhide HS5).2.2⟩
      have e0' : (q == 0) = false := by simpa using e0
      clear e0
      by_cases e1 : q = 1
      · have e1' : (q == 1) = true := by simpa using e1
        clear e1
        go_wp2_with fail
        refine (off_c b a len cap 0 29 (by unfold In; decide) (by unfold In; decide) (by decide) _ (unhide HS2).2.2.1).mono ?_
        rintro e w3 ⟨x, rfl, hx, hl⟩
        have HS3 := hide ((unhide HS2).left hb hl)
        clear hl HS2 hx
        go_wp2_with fail
        refine (off_c b a len cap 0 4 (by unfold In; decide) (by unfold In; decide) (by decide) _ (unhide HS3).2.2.1).mono ?_
        rintro e w4 ⟨y, rfl, hy, hl⟩
        have HS4 := hide ((unhide HS3).left hb hl)
        clear hl HS3 hy
        go_wp2
        go_ret
        exact ⟨w4.heap.size, 1, [(x, y)], rfl, (unhide HS4).2.2.2.size, lit_ent w4 x y _, (unhide HS4).2.2.alloc _⟩
      have e1' : (q == 1) = false := by simpa using e1
      clear e1
      obtain ⟨g, c, rfl, hg, hin⟩ := (unhide HS2).ents (by omega)
      have HN := hide hin
      clear hin
      go_wp2
      go_ret
      exact ⟨g, c, zs, rfl, hg, unhide HN, (unhide HS2).2.2⟩
set_option maxHeartbeats 1000000 in
theorem DrawTokenOk_c (a : Option Addr) (len cap : Nat) (w : World) (h : Code w a len) : Calls Tryd.prog 21 #[.slice a len cap] w fun e w' => ∃ (g c : Nat) (zs : List (Int × Int)), e = .returned (.slice (some ⟨g, 0, none⟩) zs.length c) ∧ Ivs w' (some ⟨g, 0, none⟩) zs ∧ Below w.heap.size w w' := by
  have H0 := hide h
  clear h
  go_enter Tryd.func21, Tryd.ntmps21
  go_wp2_with fail
  refine (open_c _ _ _ _).mono ?_
  rintro e w1 ⟨rfl, hw1⟩
  have HL1 : Hid (Left w.heap.size a len cap w w1) := by rw [hw1]; exact open_rdr _ _ _ _ H0.out
  have hs1 : w.heap.size < w1.heap.size := HL1.out.1.lt
  clear hw1 H0
  go_wp2_with fail
  refine (token_c _ _ _ _ _ HL1.out.1).mono ?_
  rintro e w2 ⟨g, c, zs, rfl, hg, hin, hl⟩
  have HL2 := hide (HL1.out.trans hl)
  have HN := hide hin
  clear hl hin HL1
  go_wp2
  go_ret
  exact ⟨g, c, zs, rfl, unhide HN, (unhide HL2).2.below (Nat.le_refl _) (Nat.le_refl _)⟩
theorem DrawTokenText_c (a : Option Addr) (len cap : Nat) (w : World) (h : Code w a len) : Calls Tryd.prog 7 #[.slice a len cap] w fun e w' => ∃ (g c : Nat) (zs : List (Int × Int)), e = .returned (.slice (some ⟨g, 0, none⟩) zs.length c) ∧ Ivs w' (some ⟨g, 0, none⟩) zs ∧ Below w.heap.size w w' := by
  have H0 := hide h
  clear h
  go_enter Tryd.func7, Tryd.ntmps7
  go_wp2_with fail
  refine (DrawTokenOk_c a len cap _ (unhide H0)).mono ?_
  rintro e w1 ⟨g, c, zs, rfl, hin, hl⟩
  have HN := hide hin
  have HL := hide hl
  clear hin hl
  go_wp2
  go_ret
  exact ⟨g, c, zs, rfl, unhide HN, unhide HL⟩
set_option maxHeartbeats 1000000 in
theorem same_c (a b : Option Addr) (c d : Nat) (zs zt : List (Int × Int)) (w : World) (h : Ivs w a zs) (h2 : Ivs w b zt) : Calls Tryd.prog 13 #[.slice a zs.length c, .slice b zt.length d] w fun e w' => e = .returned (.bool (decide (zs = zt))) ∧ Below w.heap.size w w' := by
  have hl := h.1
  have hm := h2.1
  obtain ⟨r, hr⟩ : ∃ r, r = decide (zs = zt) := ⟨_, rfl⟩
  obtain ⟨L, hL⟩ : ∃ L, L = zs.length := ⟨_, rfl⟩
  obtain ⟨M, hM⟩ : ∃ M, M = zt.length := ⟨_, rfl⟩
  rw [← hr]
  rw [← hL] at hl ⊢
  rw [← hM] at hm ⊢
  have HR := hide hr
  have HL := hide hL
  have HM := hide hM
  have HH := hide h
  have HG := hide h2
  have hl' : (L : Int) ≤ 1048576 := by omega
  have hm' : (M : Int) ≤ 1048576 := by omega
  clear h h2 hL hM hr
  by_cases hc : L = M
  · subst hc
    go_enter Tryd.func13, Tryd.ntmps13
    go_wp2
    go_loopw [5] (fun i wr => ∃ k : Nat, k ≤ L ∧ i = .int .i64 k ∧ (∀ j, (hj : j < zs.length) → (hj2 : j < zt.length) → j < k → zs[j] = zt[j]) ∧ Below w.heap.size w wr) (fun i _ => L - (intOf i).toNat)
    case atStart => exact ⟨0, Nat.zero_le _, rfl, fun j _ _ h0 => by omega, Below.refl _ _⟩
    case round =>
      obtain ⟨k, hk, rfl, hd, hb⟩ := hrel
      have HD := hide hd
      have HB := hide hb
      clear hd
      by_cases hlt : k < L
      · have hk' : k < zs.length := by rw [← unhide HL]; exact hlt
        have hm2 : k < zt.length := by rw [← unhide HM]; exact hlt
        obtain ⟨s, hs⟩ : ∃ s, s = zs[k].1 := ⟨_, rfl⟩
        obtain ⟨z, hz⟩ : ∃ z, z = zs[k].2 := ⟨_, rfl⟩
        obtain ⟨t, ht⟩ : ∃ t, t = zt[k].1 := ⟨_, rfl⟩
        obtain ⟨y, hy⟩ : ∃ y, y = zt[k].2 := ⟨_, rfl⟩
        rcases ((unhide HH).call hb).2 with h0 | ⟨cb, co, rfl, hc⟩
        · omega
        rcases ((unhide HG).call hb).2 with h0 | ⟨eb, eo, rfl, he⟩
        · omega
        have c1 := (hc k hk').1
        have c2 := (hc k hk').2
        have k1 := (he k hm2).1
        have k2 := (he k hm2).2
        rw [← hs] at c1
        rw [← hz] at c2
        rw [← ht] at k1
        rw [← hy] at k2
        have P1 : Hid (zs[k] = (s, z)) := by unfold Hid; rw [hs, hz]
        have P2 : Hid (zt[k] = (t, y)) := by unfold Hid; rw [ht, hy]
        have HB1 : Hid (∀ n, Below w.heap.size w (wr.drewN n)) := fun n => below_drewN hb n
        have hk4 : H4 w ⟨cb, co + k * 2, none⟩ ⟨cb, co + k * 2 + 1, none⟩ ⟨eb, eo + k * 2, none⟩ ⟨eb, eo + k * 2 + 1, none⟩ (.int .i64 s) (.int .i64 z) (.int .i64 t) (.int .i64 y) wr := ⟨c1, c2, k1, k2, hb⟩
        clear hs hz ht hy hc he hb
        have bad : Hid (¬ (s, z) = (t, y) → r = false) := fun hne => by
          rw [unhide HR]
          exact decide_eq_false (fun e => hne (by rw [← P1.out, ← P2.out]; subst e; rfl))
        by_cases g1 : s = t
        · by_cases g2 : z = y
          · subst g1 g2
            go_wp2
            go_region_held3 (H4 w ⟨cb, co + k * 2, none⟩ ⟨cb, co + k * 2 + 1, none⟩ ⟨eb, eo + k * 2, none⟩ ⟨eb, eo + k * 2 + 1, none⟩ (.int .i64 s) (.int .i64 z) (.int .i64 s) (.int .i64 z))
              (first | assumption | exact H4.drew (by assumption))
              (fail)
            rename_i hH
            have HQ := hide hH.2.2.2.2
            clear hH hk4
            go_wp2
            go_roundw
            case rel => exact ⟨k + 1, by omega, by go_num, fun j hj hj2 h1 => by
              by_cases e : j = k
              · subst e; rw [P1.out, P2.out]
              · exact unhide HD j hj hj2 (by omega), unhide HQ⟩
            case measure => simp [intOf]; omega
          · have g3 : (z == y) = false := by simpa using g2
            have E := hide (bad.out (fun e => g2 (Prod.mk.inj e).2))
            subst g1
            go_wp2
            go_region_held3 (H4 w ⟨cb, co + k * 2, none⟩ ⟨cb, co + k * 2 + 1, none⟩ ⟨eb, eo + k * 2, none⟩ ⟨eb, eo + k * 2 + 1, none⟩ (.int .i64 s) (.int .i64 z) (.int .i64 s) (.int .i64 y))
              (first | assumption | exact H4.drew (by assumption))
              (fail)
            rename_i hH
            have HQ := hide hH.2.2.2.2
            clear hH hk4
            go_wp2
            go_ret
            exact ⟨by rw [unhide E]; rfl, unhide HQ⟩
        · have g3 : (s == t) = false := by simpa using g1
          have E := hide (bad.out (fun e => g1 (Prod.mk.inj e).1))
          go_wp2
          go_region_held3 (H4 w ⟨cb, co + k * 2, none⟩ ⟨cb, co + k * 2 + 1, none⟩ ⟨eb, eo + k * 2, none⟩ ⟨eb, eo + k * 2 + 1, none⟩ (.int .i64 s) (.int .i64 z) (.int .i64 t) (.int .i64 y))
            (first | assumption | exact H4.drew (by assumption))
            (fail)
          rename_i hH
          have HQ := hide hH.2.2.2.2
          clear hH hk4
          go_wp2
          go_ret
          exact ⟨by rw [unhide E]; rfl, unhide HQ⟩
      · obtain rfl : k = L := by omega
        have E : Hid (r = true) := by
          unfold Hid; rw [unhide HR]
          exact decide_eq_true (List.ext_getElem (by rw [← unhide HL, ← unhide HM]) (fun j h1 h2 => unhide HD j h1 h2 (by rw [unhide HL]; exact h1)))
        clear hb
        go_wp2
        go_ret
        exact ⟨by rw [unhide E]; rfl, unhide HB⟩
  · have E : Hid (r = false) := by
      unfold Hid; rw [unhide HR]
      exact decide_eq_false (fun e => hc (by rw [unhide HL, unhide HM, e]))
    have g : ((L : Int) != (M : Int)) = true := by simp; omega
    go_enter Tryd.func13, Tryd.ntmps13
    go_wp2
    go_ret
    exact ⟨by rw [unhide E]; rfl, Below.refl _ _⟩
end Go.Proofs.YtppchebikafmeaaDoor
