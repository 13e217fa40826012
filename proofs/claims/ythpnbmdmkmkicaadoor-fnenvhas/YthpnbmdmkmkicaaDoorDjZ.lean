/- Texts that go together: DjnC, OffC, DstC. -/
import Derived.Test.YthpnbmdmkmkicaaDoorDrwH
import Derived.Test.YthpnbmdmkmkicaaDoorSmaA
import Derived.Test.YthpnbmdmkmkicaaDoorMeZ
/- What is drawn for a join. -/
namespace Go.Proofs.YthpnbmdmkmkicaaDoor
open Go.RowKit Go.Iv
set_option linter.unusedSimpArgs false
set_option linter.unusedVariables false

theorem Ivs.at3 {u v : World} {a : Option Addr} {xs : List (Int × Int)} (h : Ivs u a xs) (hb : ∀ x, a = some x → 0 < xs.length → v.heap[x.block]? = u.heap[x.block]?) : Ivs v a xs := by
  refine ⟨h.1, ?_⟩
  rcases h.2 with h0 | ⟨cb, co, rfl, hc⟩
  · exact .inl h0
  · exact .inr ⟨cb, co, rfl, fun i hi => ⟨(World.cell?_of_block (w := u) (a := ⟨cb, co + i * 2, none⟩) (hb ⟨cb, co, none⟩ rfl (by omega))).trans (hc i hi).1, (World.cell?_of_block (w := u) (a := ⟨cb, co + i * 2 + 1, none⟩) (hb ⟨cb, co, none⟩ rfl (by omega))).trans (hc i hi).2⟩⟩
/-- The rows of a declaration and of two bounds, none below n. -/
def DeC (u : World) (n : Nat) (a1 a2 a3 oa ob oc od : Option Addr) (vs fs : List ByteArray) (rs : List (ByteArray × Int)) (xs ys xs2 ys2 : List (Int × Int)) : Prop :=
  Strs u a1 vs ∧ Strs u a2 fs ∧ Arrs u a3 rs ∧ (Ivs u oa xs ∧ Ivs u ob ys) ∧ (Ivs u oc xs2 ∧ Ivs u od ys2) ∧ DeF n a1 a2 a3 oa ob oc od vs.length fs.length rs.length
theorem DeC.at' {u v : World} {n : Nat} {a1 a2 a3 oa ob oc od : Option Addr} {vs fs : List ByteArray} {rs : List (ByteArray × Int)} {xs ys xs2 ys2 : List (Int × Int)} (h : DeC u n a1 a2 a3 oa ob oc od vs fs rs xs ys xs2 ys2)
    (hb : ∀ g, n ≤ g → g < u.heap.size → v.heap[g]? = u.heap[g]?) : DeC v n a1 a2 a3 oa ob oc od vs fs rs xs ys xs2 ys2 := by
  obtain ⟨h1, h2, h3, ⟨h4, h5⟩, ⟨h6, h7⟩, f⟩ := h
  exact ⟨h1.at' fun x e h0 => hb _ (f.1 x e h0) (h1.lt' x e h0), h2.at' fun x e h0 => hb _ (f.2.1 x e h0) (h2.lt' x e h0), h3.at' fun x e h0 => hb _ (f.2.2.1 x e h0) (h3.lt' x e h0),
    ⟨h4.at3 fun x e h0 => hb _ (f.2.2.2.1 x e) (h4.lt x e h0), h5.at3 fun x e h0 => hb _ (f.2.2.2.2.1 x e) (h5.lt x e h0)⟩, ⟨h6.at3 fun x e h0 => hb _ (f.2.2.2.2.2.1 x e) (h6.lt x e h0), h7.at3 fun x e h0 => hb _ (f.2.2.2.2.2.2 x e) (h7.lt x e h0)⟩, f⟩
theorem w9_heap (v : World) (p q r g : Nat) (x0 x1 x2 x3 x4 x5 x6 x7 x8 : Value) (hp : g ≠ p) (hq : g ≠ q) (hr : g ≠ r) : (W9 v p q r x0 x1 x2 x3 x4 x5 x6 x7 x8).heap[g]? = v.heap[g]? := by
  unfold W9
  refine (Below.heap_setCell _ _ _ _ (by exact hr)).trans ((Below.heap_setCell _ _ _ _ (by exact hr)).trans ((Below.heap_setCell _ _ _ _ (by exact hr)).trans ?_))
  refine (Below.heap_setCell _ _ _ _ (by exact hq)).trans ((Below.heap_setCell _ _ _ _ (by exact hq)).trans ((Below.heap_setCell _ _ _ _ (by exact hq)).trans ?_))
  exact (Below.heap_setCell _ _ _ _ (by exact hp)).trans ((Below.heap_setCell _ _ _ _ (by exact hp)).trans (Below.heap_setCell _ _ _ _ (by exact hp)))
theorem DeC.w9 {v : World} {n p q r : Nat} {a1 a2 a3 oa ob oc od : Option Addr} {vs fs : List ByteArray} {rs : List (ByteArray × Int)} {xs ys xs2 ys2 : List (Int × Int)} {x0 x1 x2 x3 x4 x5 x6 x7 x8 : Value} (h : DeC v n a1 a2 a3 oa ob oc od vs fs rs xs ys xs2 ys2) (hp : p < n) (hq : q < n) (hr : r < n) :
    DeC (W9 v p q r x0 x1 x2 x3 x4 x5 x6 x7 x8) n a1 a2 a3 oa ob oc od vs fs rs xs ys xs2 ys2 := h.at' fun g h1 _ => w9_heap _ _ _ _ _ _ _ _ _ _ _ _ _ _ (by omega) (by omega) (by omega)
theorem DeF.down {n m : Nat} {a1 a2 a3 oa ob oc od : Option Addr} {l1 l2 l3 : Nat} (h : DeF n a1 a2 a3 oa ob oc od l1 l2 l3) (hm : m ≤ n) : DeF m a1 a2 a3 oa ob oc od l1 l2 l3 :=
  ⟨fun x e h0 => Nat.le_trans hm (h.1 x e h0), fun x e h0 => Nat.le_trans hm (h.2.1 x e h0), fun x e h0 => Nat.le_trans hm (h.2.2.1 x e h0), fun x e => Nat.le_trans hm (h.2.2.2.1 x e), fun x e => Nat.le_trans hm (h.2.2.2.2.1 x e), fun x e => Nat.le_trans hm (h.2.2.2.2.2.1 x e), fun x e => Nat.le_trans hm (h.2.2.2.2.2.2 x e)⟩
set_option maxRecDepth 20000 in
set_option maxHeartbeats 8000000 in
theorem DrawEnvMeet_c (a : Option Addr) (len cap : Nat) (w : World) (h : Code w a len) : Calls Tryd.prog 7 #[.slice a len cap] w (DeR w) := by
  have HC := hide h
  clear h
  have q0 := B3.new w (.slice none 0 0) (.slice none 0 0) (.slice none 0 0) (.bool false) (.slice none 0 0) (.slice none 0 0) (.bool false) (.slice none 0 0) (.slice none 0 0) 27 30 30
  have hs0 : w.heap.size + 3 ≤ (((w.alloc (Obj.cells #[.slice none 0 0, .slice none 0 0, .slice none 0 0] 27)).alloc (Obj.cells #[.bool false, .slice none 0 0, .slice none 0 0] 30)).alloc (Obj.cells #[.bool false, .slice none 0 0, .slice none 0 0] 30)).heap.size := by simp
  go_enter Tryd.func7, Tryd.ntmps7
  go_wp2_with fail
  generalize ((w.alloc (Obj.cells #[.slice none 0 0, .slice none 0 0, .slice none 0 0] 27)).alloc (Obj.cells #[.bool false, .slice none 0 0, .slice none 0 0] 30)).alloc (Obj.cells #[.bool false, .slice none 0 0, .slice none 0 0] 30) = u0 at q0 hs0 ⊢
  have HQ := hide q0
  clear q0
  refine (DrawEnvLeq_c a len cap u0 ((unhide HC).below (unhide HQ).2.2.2)).mono ?_
  rintro e u1 ⟨a1, a2, a3, c1, c2, c3, vs, fs, rs, li, oa, ca, ob, cb, xs, ys, lj, oc, cc, od, cd, xs2, ys2, rfl, s1, s2, s3, hz, i12, i34, hin, hfar, kb⟩
  have HD := hide (show DeC u1 u0.heap.size a1 a2 a3 oa ob oc od vs fs rs xs ys xs2 ys2 from ⟨s1, s2, s3, i12, i34, hfar⟩)
  have HZ := hide hz
  have HI := hide hin
  have HQ := hide ((unhide HQ).call kb)
  clear s1 s2 s3 i12 i34 hfar hz hin kb
  have r0 := (unhide HQ).1.1
  have r1 := (unhide HQ).1.2.1
  have r2 := (unhide HQ).1.2.2.1
  have rf0 := (unhide HQ).1.2.2.2 0
  have rf1 := (unhide HQ).1.2.2.2 1
  have rf2 := (unhide HQ).1.2.2.2 2
  have s0 := (unhide HQ).2.1.1
  have s1 := (unhide HQ).2.1.2.1
  have s2 := (unhide HQ).2.1.2.2.1
  have sf0 := (unhide HQ).2.1.2.2.2 0
  have sf1 := (unhide HQ).2.1.2.2.2 1
  have sf2 := (unhide HQ).2.1.2.2.2 2
  have t0 : u1.cell? ⟨w.heap.size + 1 + 1, 0, none⟩ = _ := (unhide HQ).2.2.1.1
  have t1 : u1.cell? ⟨w.heap.size + 1 + 1, 1, none⟩ = _ := (unhide HQ).2.2.1.2.1
  have t2 : u1.cell? ⟨w.heap.size + 1 + 1, 2, none⟩ = _ := (unhide HQ).2.2.1.2.2.1
  have tf0 : u1.frozen? ⟨w.heap.size + 1 + 1, 0, none⟩ = _ := (unhide HQ).2.2.1.2.2.2 0
  have tf1 : u1.frozen? ⟨w.heap.size + 1 + 1, 1, none⟩ = _ := (unhide HQ).2.2.1.2.2.2 1
  have tf2 : u1.frozen? ⟨w.heap.size + 1 + 1, 2, none⟩ = _ := (unhide HQ).2.2.1.2.2.2 2
  have nw1 : w.heap.size ≠ w.heap.size + 1 := by omega
  have nw2 : w.heap.size ≠ w.heap.size + 1 + 1 := by omega
  have nw3 : w.heap.size + 1 ≠ w.heap.size + 1 + 1 := by omega
  go_wp2
  have bD := DeC.w9 (unhide HD) (p := w.heap.size) (q := w.heap.size + 1) (r := w.heap.size + 1 + 1) (x0 := .slice a1 vs.length c1) (x1 := .slice a2 fs.length c2) (x2 := .slice a3 rs.length c3) (x3 := .bool li) (x4 := .slice oa xs.length ca) (x5 := .slice ob ys.length cb) (x6 := .bool lj) (x7 := .slice oc xs2.length cc) (x8 := .slice od ys2.length cd) (by omega) (by omega) (by omega)
  exact bodyPost_ret (v := .tuple #[.agg #[.slice a1 vs.length c1, .slice a2 fs.length c2, .slice a3 rs.length c3], .agg #[.bool li, .slice oa xs.length ca, .slice ob ys.length cb], .agg #[.bool lj, .slice oc xs2.length cc, .slice od ys2.length cd]]) (by simp [results, Tryd.results7, go_sem, r0, r1, r2, s0, s1, s2, t0, t1, t2]) rfl ⟨a1, a2, a3, c1, c2, c3, vs, fs, rs, li, oa, ca, ob, cb, xs, ys, lj, oc, cc, od, cd, xs2, ys2, rfl, bD.1, bD.2.1, bD.2.2.1, unhide HZ, bD.2.2.2.1, bD.2.2.2.2.1, unhide HI, bD.2.2.2.2.2.down (by omega), below_w9 (unhide HQ).2.2.2 (Nat.le_refl _) (Nat.le_succ _) (by omega)⟩
end Go.Proofs.YthpnbmdmkmkicaaDoor

/- Numbers off a range, from a code. -/
namespace Go.Proofs.YthpnbmdmkmkicaaDoor
open Go.RowKit Go.Iv
set_option linter.unusedSimpArgs false
set_option linter.unusedVariables false

set_option maxHeartbeats 1000000 in
theorem near_c (b : Nat) (a : Option Addr) (len cap : Nat) (l g : Int) (hl : In l) (hg : In g) (hd : g - l < 18446744073709551615) (w : World) (h : Rdr w b a len cap) : Calls Tryd.prog 74 #[.pointer (some ⟨b, 0, none⟩), .int .i64 l, .int .i64 g] w fun e w' => ∃ n : Int, e = .returned (.int .i64 n) ∧ In n ∧ Left b a len cap w w' := by
  have R := hide h
  have XI := hide hl
  have YI := hide hg
  have HD := hide hd
  clear h hl hg hd
  go_enter Tryd.func74, Tryd.ntmps74
  go_wp2_with fail
  refine (below_c _ _ _ _ _ (by decide) _ (unhide R)).mono ?_
  rintro e w1 ⟨x, rfl, x0, x1, x2, hl⟩
  have HL := hide hl
  clear hl x2 R
  by_cases e0 : x = 0
  · have e0' : (x == 0) = true := by simpa using e0
    clear e0
    go_wp2
    go_ret
    exact ⟨l, rfl, unhide XI, unhide HL⟩
  have e0' : (x == 0) = false := by simpa using e0
  by_cases e1 : x = 1
  · have e1' : (x == 1) = true := by simpa using e1
    clear e0 e1
    go_wp2
    go_ret
    exact ⟨g, rfl, unhide YI, unhide HL⟩
  have e1' : (x == 1) = false := by simpa using e1
  clear e0 e1
  by_cases hgl : g < l
  · go_wp2
    go_ret
    exact ⟨l, rfl, unhide XI, unhide HL⟩
  go_wp2_with fail
  refine (word_c _ _ _ _ _ (unhide HL).1).mono ?_
  rintro e w2 ⟨y, rfl, y0, y1, hl⟩
  have HL2 := hide ((unhide HL).trans hl)
  clear hl
  have hnz : ¬ IntKind.u64.wrap (wrap64 (wrap64 (g - l) + 1)) = 0 := by
    have := unhide HD
    have := unhide XI
    have := unhide YI
    rw [IntKind.wrap_u64]
    unfold wrap64 In at *
    omega
  go_wp2
  go_ret
  exact ⟨_, rfl, wrap_in _, unhide HL2⟩
set_option maxHeartbeats 1000000 in
theorem off_c (b : Nat) (a : Option Addr) (len cap : Nat) (l g : Int) (hl : In l) (hg : In g) (hd : g - l < 18446744073709551615) (w : World) (h : Rdr w b a len cap) : Calls Tryd.prog 50 #[.pointer (some ⟨b, 0, none⟩), .int .i64 l, .int .i64 g] w fun e w' => ∃ n : Int, e = .returned (.int .i64 n) ∧ In n ∧ Left b a len cap w w' := by
  have R := hide h
  have X := hide (And.intro hl (And.intro hg hd))
  clear h hl hg hd
  go_enter Tryd.func50, Tryd.ntmps50
  go_wp2_with fail
  refine (once_c _ _ _ _ _ (by decide) (by decide) _ (unhide R)).mono ?_
  rintro e w1 ⟨r, rfl, hl⟩
  have HL := hide hl
  clear hl R
  cases r
  · go_wp2_with fail
    refine (near_c _ _ _ _ _ _ (unhide X).1 (unhide X).2.1 (unhide X).2.2 _ (unhide HL).1).mono ?_
    rintro e w2 ⟨n, rfl, hn, hl⟩
    have HL2 := hide ((unhide HL).trans hl)
    have N := hide hn
    clear hl hn HL
    go_wp2
    go_ret
    exact ⟨n, rfl, unhide N, unhide HL2⟩
  · have hlt : b < w1.heap.size := (unhide HL).1.lt
    go_wp2_with fail
    refine (below_c _ _ _ _ _ (by decide) _ ((unhide HL).1.alloc _)).mono ?_
    rintro e w2 ⟨y, rfl, y0, y1, y2, hl⟩
    have y3 : y < 4 := by omega
    have pk := pick4_kept hl.2 hlt y0 y3
    have HL2 := hide (((unhide HL).alloc _).trans hl)
    clear hl HL y2
    go_wp2
    go_ret
    exact ⟨_, rfl, pick4_in _ (wrap_in _) (wrap_in _) (by unfold In; decide) (by unfold In; decide), unhide HL2⟩
end Go.Proofs.YthpnbmdmkmkicaaDoor

/- What is drawn for a place that is set. -/
namespace Go.Proofs.YthpnbmdmkmkicaaDoor
open Go.RowKit Go.Iv
set_option linter.unusedSimpArgs false
set_option linter.unusedVariables false

theorem CI.kp {u v : World} {g b : Nat} {x y : Int} (h : CI u g x y) (k : Kp b u v) (hne : g ≠ b) : CI v g x y := by
  have hg := k.block g h.2.2.2 hne
  exact ⟨(World.cell?_of_block (w := u) hg).trans h.1, (World.cell?_of_block (w := u) hg).trans h.2.1, fun o => (World.frozen?_of_block (w := u) hg).trans (h.2.2.1 o), Nat.lt_of_lt_of_le h.2.2.2 k.size⟩
theorem CI.hu {u v : World} {g b len cap : Nat} {a oa : Option Addr} {x y : Int} (h : CI u g x y) (k : HuQ b a len cap oa u v) (h1 : g ≠ b) (h2 : ∀ x, oa = some x → x.block ≠ g) : CI v g x y := by
  have hg := k.2.2.2.2.2 g h.2.2.2 h1 h2
  exact ⟨(World.cell?_of_block (w := u) hg).trans h.1, (World.cell?_of_block (w := u) hg).trans h.2.1, fun o => (World.frozen?_of_block (w := u) hg).trans (h.2.2.1 o), Nat.lt_of_lt_of_le h.2.2.2 k.2.2.2.2.1⟩
theorem CI.alloc {u : World} {b : Nat} {x y : Int} (h : CI u b x y) (o : Obj) : CI (u.alloc o) b x y := h.call ((Below.refl _ u).alloc (Nat.le_refl _) o)
abbrev W8 (v : World) (p q r : Nat) (x0 x1 x2 x3 x4 x5 x6 x7 : Value) : World := (((((((v.setCell ⟨p, 0, none⟩ x0).setCell ⟨p, 1, none⟩ x1).setCell ⟨p, 2, none⟩ x2).setCell ⟨q, 0, none⟩ x3).setCell ⟨q, 1, none⟩ x4).setCell ⟨q, 2, none⟩ x5).setCell ⟨r, 0, none⟩ x6).setCell ⟨r, 1, none⟩ x7
theorem w8_heap (v : World) (p q r g : Nat) (x0 x1 x2 x3 x4 x5 x6 x7 : Value) (hp : g ≠ p) (hq : g ≠ q) (hr : g ≠ r) : (W8 v p q r x0 x1 x2 x3 x4 x5 x6 x7).heap[g]? = v.heap[g]? := by
  unfold W8
  refine (Below.heap_setCell _ _ _ _ (by exact hr)).trans ((Below.heap_setCell _ _ _ _ (by exact hr)).trans ?_)
  refine (Below.heap_setCell _ _ _ _ (by exact hq)).trans ((Below.heap_setCell _ _ _ _ (by exact hq)).trans ((Below.heap_setCell _ _ _ _ (by exact hq)).trans ?_))
  exact (Below.heap_setCell _ _ _ _ (by exact hp)).trans ((Below.heap_setCell _ _ _ _ (by exact hp)).trans (Below.heap_setCell _ _ _ _ (by exact hp)))
theorem below_w8 {u v : World} {B p q r : Nat} {x0 x1 x2 x3 x4 x5 x6 x7 : Value} (h : Below B u v) (hp : B ≤ p) (hq : B ≤ q) (hr : B ≤ r) : Below B u (W8 v p q r x0 x1 x2 x3 x4 x5 x6 x7) :=
  (((((((h.setCell (show B ≤ (⟨p, 0, none⟩ : Addr).block from hp) _).setCell (show B ≤ (⟨p, 1, none⟩ : Addr).block from hp) _).setCell (show B ≤ (⟨p, 2, none⟩ : Addr).block from hp) _).setCell (show B ≤ (⟨q, 0, none⟩ : Addr).block from hq) _).setCell (show B ≤ (⟨q, 1, none⟩ : Addr).block from hq) _).setCell (show B ≤ (⟨q, 2, none⟩ : Addr).block from hq) _).setCell (show B ≤ (⟨r, 0, none⟩ : Addr).block from hr) _).setCell (show B ≤ (⟨r, 1, none⟩ : Addr).block from hr) _
/-- A declaration, bounds, a place, an interval. -/
def DsR (w : World) (e : Ending) (w' : World) : Prop := ∃ (a1 a2 a3 : Option Addr) (c1 c2 c3 : Nat) (vs fs : List ByteArray) (rs : List (ByteArray × Int)) (li : Bool) (oa : Option Addr) (ca : Nat) (ob : Option Addr) (cb : Nat) (xs ys : List (Int × Int)) (p l g : Int),
  e = .returned (.tuple #[.agg #[.slice a1 vs.length c1, .slice a2 fs.length c2, .slice a3 rs.length c3], .agg #[.bool li, .slice oa xs.length ca, .slice ob ys.length cb], .int .i64 p, .agg #[.int .i64 l, .int .i64 g]]) ∧ Strs w' a1 vs ∧ Strs w' a2 fs ∧ Arrs w' a3 rs ∧ (∀ x ∈ namesOf vs fs rs, x.size ≤ 1048576) ∧ (Ivs w' oa xs ∧ Ivs w' ob ys) ∧ (InL xs ∧ InL ys) ∧ (In p ∧ In l ∧ In g) ∧ Below w.heap.size w w'
set_option maxRecDepth 20000 in
set_option maxHeartbeats 16000000 in
theorem DrawEnvSet_c (a : Option Addr) (len cap : Nat) (w : World) (h : Code w a len) : Calls Tryd.prog 18 #[.slice a len cap] w (DsR w) := by
  have HC := hide h
  clear h
  go_enter Tryd.func18, Tryd.ntmps18
  go_wp2_with fail
  have r2 := ((C3.new w (.slice none 0 0) (.slice none 0 0) (.slice none 0 0) 27).alloc (Obj.cells #[.bool false, .slice none 0 0, .slice none 0 0] 30)).alloc (Obj.cells #[.int .i64 0, .int .i64 0] 47)
  have r3 := (C3.new (w.alloc (Obj.cells #[.slice none 0 0, .slice none 0 0, .slice none 0 0] 27)) (.bool false) (.slice none 0 0) (.slice none 0 0) 30).alloc (Obj.cells #[.int .i64 0, .int .i64 0] 47)
  have r4 := CI.new ((w.alloc (Obj.cells #[.slice none 0 0, .slice none 0 0, .slice none 0 0] 27)).alloc (Obj.cells #[.bool false, .slice none 0 0, .slice none 0 0] 30)) 0 0 47
  rw [show (w.alloc (Obj.cells #[.slice none 0 0, .slice none 0 0, .slice none 0 0] 27)).heap.size = w.heap.size + 1 by simp] at r3
  rw [show ((w.alloc (Obj.cells #[.slice none 0 0, .slice none 0 0, .slice none 0 0] 27)).alloc (Obj.cells #[.bool false, .slice none 0 0, .slice none 0 0] 30)).heap.size = w.heap.size + 1 + 1 by simp] at r4
  have k0 := (((Below.refl _ w).alloc (Nat.le_refl _) (Obj.cells #[.slice none 0 0, .slice none 0 0, .slice none 0 0] 27)).alloc (by simp) (Obj.cells #[.bool false, .slice none 0 0, .slice none 0 0] 30)).alloc (by simp; omega) (Obj.cells #[.int .i64 0, .int .i64 0] 47)
  have hs0 : w.heap.size + 3 ≤ (((w.alloc (Obj.cells #[.slice none 0 0, .slice none 0 0, .slice none 0 0] 27)).alloc (Obj.cells #[.bool false, .slice none 0 0, .slice none 0 0] 30)).alloc (Obj.cells #[.int .i64 0, .int .i64 0] 47)).heap.size := by simp
  generalize ((w.alloc (Obj.cells #[.slice none 0 0, .slice none 0 0, .slice none 0 0] 27)).alloc (Obj.cells #[.bool false, .slice none 0 0, .slice none 0 0] 30)).alloc (Obj.cells #[.int .i64 0, .int .i64 0] 47) = u0 at r2 r3 r4 k0 hs0 ⊢
  refine (open_c a len cap _).mono ?_
  rintro e u1 ⟨rfl, he⟩
  have hl := open_rdr a len cap u0 ((unhide HC).below k0)
  rw [← he] at hl
  clear he
  have HCO := hide (show ∀ x, a = some x → 0 < len → x.block < u0.heap.size from ((unhide HC).below k0).lt)
  have hrs : u0.heap.size < u1.heap.size := hl.1.lt
  have HR2 := hide (r2.kp hl.2 (by omega))
  have HR3 := hide (r3.kp hl.2 (by omega))
  have HR4 := hide (r4.kp hl.2 (by omega))
  have HB := hide (k0.trans (hl.2.below (by omega) k0.size))
  have HL := hide hl.1
  clear r2 r3 r4 k0 hl
  obtain ⟨rb, hrb⟩ : ∃ x, x = u0.heap.size := ⟨_, rfl⟩
  rw [← hrb] at HL HCO hrs hs0 ⊢
  clear hrb
  go_wp2_with fail
  refine (decl_c rb a len cap _ (unhide HL)).mono ?_
  rintro e u2 ⟨a1, a2, a3, c1, c2, c3, vs, fs, rs, rfl, s1, s2, s3, hz, lv, lf, lr, hfr, hl⟩
  have HD := hide (DeP.of s1 s2 s3 hfr)
  have HZ := hide hz
  have hz12 := hl.2.size
  have HR2 := hide ((unhide HR2).kp hl.2 (by omega))
  have HR3 := hide ((unhide HR3).kp hl.2 (by omega))
  have HR4 := hide ((unhide HR4).kp hl.2 (by omega))
  have HB := hide ((unhide HB).trans (hl.2.below (by omega) (unhide HB).size))
  have HL := hide hl.1
  clear s1 s2 s3 hz hfr hl
  have HGD := hide (C3.new u2 (.slice a1 vs.length c1) (.slice a2 fs.length c2) (.slice a3 rs.length c3) 27)
  have ka := (Below.refl _ u2).alloc (Nat.le_refl _) (Obj.cells #[.slice a1 vs.length c1, .slice a2 fs.length c2, .slice a3 rs.length c3] 27)
  have HR2 := hide ((unhide HR2).alloc (Obj.cells #[.slice a1 vs.length c1, .slice a2 fs.length c2, .slice a3 rs.length c3] 27))
  have HR3 := hide ((unhide HR3).alloc (Obj.cells #[.slice a1 vs.length c1, .slice a2 fs.length c2, .slice a3 rs.length c3] 27))
  have HR4 := hide ((unhide HR4).alloc (Obj.cells #[.slice a1 vs.length c1, .slice a2 fs.length c2, .slice a3 rs.length c3] 27))
  have HL := hide ((unhide HL).alloc (Obj.cells #[.slice a1 vs.length c1, .slice a2 fs.length c2, .slice a3 rs.length c3] 27))
  have HD := hide ((unhide HD).call ka)
  have HB := hide ((unhide HB).trans (ka.mono (unhide HB).size))
  have hz23 : u2.heap.size + 1 ≤ (u2.alloc (Obj.cells #[.slice a1 vs.length c1, .slice a2 fs.length c2, .slice a3 rs.length c3] 27)).heap.size := by simp
  clear ka
  go_upto_region 3 with fail
  generalize u2.alloc (Obj.cells #[.slice a1 vs.length c1, .slice a2 fs.length c2, .slice a3 rs.length c3] 27) = u3 at HR2 HR3 HR4 HD HGD HB HL hz23 ⊢
  have g0 := (unhide HGD).1
  have g1 := (unhide HGD).2.1
  have g2 := (unhide HGD).2.2.1
  go_wp2_with fail
  refine (env_c rb a len cap a1 a2 a3 vs.length fs.length rs.length c1 c2 c3 (by omega) (by omega) _ (unhide HL)).mono ?_
  rintro e u4 ⟨li0, oa0, ca0, ob, cb, xs0, ys, rfl, hre, hxl, hyl, hlen, hl⟩
  clear g0 g1 g2
  have HRA := hide (RowsT.of hre)
  have HXL := hide (And.intro hxl hyl)
  have hz34 := hl.2.size
  have HR2 := hide ((unhide HR2).kp hl.2 (by omega))
  have HR3 := hide ((unhide HR3).kp hl.2 (by omega))
  have HR4 := hide ((unhide HR4).kp hl.2 (by omega))
  have HD := hide ((unhide HD).kp hl.2 (by omega))
  have HGD := hide ((unhide HGD).kp hl.2 (by omega))
  have HB := hide ((unhide HB).trans (hl.2.below (by omega) (unhide HB).size))
  have HL := hide hl.1
  clear hre hxl hyl hlen hl
  go_wp2_with fail
  refine (hurtEnv_c rb a len cap li0 oa0 ca0 ob cb xs0 ys u3.heap.size u4 (unhide HL) (unhide HRA).1 (by omega) (by omega) (fun x e1 e2 => by have := (unhide HCO) x e1 e2; omega) (by have := unhide HXL; omega)).mono ?_
  rintro e u5 ⟨li, oa, ca, xs, rfl, hre, hlx, hq, hmv, hin⟩
  have hbo := (unhide HRA).2.1
  have hs45 : u4.heap.size ≤ u5.heap.size := hq.2.2.2.2.1
  have HR2 := hide ((unhide HR2).hu hq (by omega) (fun x e => by have := hbo x e; omega))
  have HR3 := hide ((unhide HR3).hu hq (by omega) (fun x e => by have := hbo x e; omega))
  have HR4 := hide ((unhide HR4).hu hq (by omega) (fun x e => by have := hbo x e; omega))
  have HGD := hide ((unhide HGD).hu hq (by omega) (fun x e => by have := hbo x e; omega))
  have HD := hide ((unhide HD).hu hq (by omega) (fun x e => by have := hbo x e; omega))
  have HB := hide ((unhide HB).trans (hq.below (by omega) (unhide HB).size (fun x e => by have := hbo x e; omega)))
  have HL := hide hq.1
  have HRA := hide (RowsT.of hre)
  have HLX := hide (And.intro hlx (hin (unhide HXL).1.2))
  clear hre hlx hq hmv hin hbo
  have HGE := hide (C3.new u5 (.bool li) (.slice oa xs.length ca) (.slice ob ys.length cb) 30)
  have ka := (Below.refl _ u5).alloc (Nat.le_refl _) (Obj.cells #[.bool li, .slice oa xs.length ca, .slice ob ys.length cb] 30)
  have HR2 := hide ((unhide HR2).alloc (Obj.cells #[.bool li, .slice oa xs.length ca, .slice ob ys.length cb] 30))
  have HR3 := hide ((unhide HR3).alloc (Obj.cells #[.bool li, .slice oa xs.length ca, .slice ob ys.length cb] 30))
  have HR4 := hide ((unhide HR4).alloc (Obj.cells #[.bool li, .slice oa xs.length ca, .slice ob ys.length cb] 30))
  have HGD := hide ((unhide HGD).alloc (Obj.cells #[.bool li, .slice oa xs.length ca, .slice ob ys.length cb] 30))
  have HL := hide ((unhide HL).alloc (Obj.cells #[.bool li, .slice oa xs.length ca, .slice ob ys.length cb] 30))
  have HD := hide ((unhide HD).call ka)
  have HRA := hide ((unhide HRA).call ka)
  have HB := hide ((unhide HB).trans (ka.mono (unhide HB).size))
  have hz56 : u5.heap.size + 1 ≤ (u5.alloc (Obj.cells #[.bool li, .slice oa xs.length ca, .slice ob ys.length cb] 30)).heap.size := by simp
  clear ka
  go_upto_region 4 with fail
  generalize u5.alloc (Obj.cells #[.bool li, .slice oa xs.length ca, .slice ob ys.length cb] 30) = u6 at HR2 HR3 HR4 HD HGD HGE HRA HB HL hz56 ⊢
  have hvl : (vs.length : Int) ≤ 1000 := by omega
  have hwrap : IntKind.i64.wrap ((vs.length : Int) - 1) = (vs.length : Int) - 1 := by rw [IntKind.wrap_i64]; omega
  obtain ⟨wz, hwz⟩ : ∃ x, x = u6.drew := ⟨_, rfl⟩
  have HR2 := hide (show C3 wz w.heap.size _ _ _ by rw [hwz]; exact unhide HR2)
  have HR3 := hide (show C3 wz (w.heap.size + 1) _ _ _ by rw [hwz]; exact unhide HR3)
  have HR4 := hide (show CI wz (w.heap.size + 1 + 1) _ _ by rw [hwz]; exact unhide HR4)
  have HGD := hide (show C3 wz u2.heap.size _ _ _ by rw [hwz]; exact unhide HGD)
  have HGE := hide (show C3 wz u5.heap.size _ _ _ by rw [hwz]; exact unhide HGE)
  have HD := hide (show DeP wz u1.heap.size u2.heap.size a1 a2 a3 vs fs rs by rw [hwz]; exact (unhide HD).call (Below.refl _ _).drew)
  have HRA := hide (show RowsT wz u3.heap.size u5.heap.size oa ca ob cb xs ys by rw [hwz]; exact (unhide HRA).call (Below.refl _ _).drew)
  have HB := hide (show Below w.heap.size w wz by rw [hwz]; exact (unhide HB).drew)
  have HL := hide (show Rdr wz rb a len cap by rw [hwz]; exact unhide HL)
  have hzz : u6.heap.size ≤ wz.heap.size := by rw [hwz]; exact Nat.le_refl _
  refine wp_region_held_drew (S := S7 u2.heap.size u5.heap.size u5.heap.size (.slice a1 vs.length c1) (.slice a2 fs.length c2) (.slice a3 rs.length c3) (.bool li) (.slice oa xs.length ca) (.slice ob ys.length cb) (.bool li) (.slice oa xs.length ca) (.slice ob ys.length cb)) (by kernel_rfl) (by rw [← hwz]; exact S7.of (unhide HGD) (unhide HGE) (unhide HGE)) (fun hHeld => ?_)
  rw [← hwz] at hHeld ⊢
  clear hwz
  refine wpAnyH_take (i := 0) (oi := { dst := some 18, op := Op.load 27 (Operand.tmp 7), type := 27, pos := "l07_values.go:328", after := #[], guard := none }) (v := ?_) rfl (by kernel_rfl) (by kernel_rfl) (by kernel_rfl) (fun _ _ _ h => h) (Or.inl ⟨by rfl, ?_⟩) (by assumption) ?_
  rotate_left
  · (intro w9 hSw; (try dsimp only at hSw); go_simp; try with_reducible rfl)
  try simp only [Act.put, List.setIfInBounds_toArray, List.set_cons_zero, List.set_cons_succ]
  refine wpAnyH_take (i := 1) (oi := { dst := some 19, op := Op.load 30 (Operand.tmp 8), type := 30, pos := "l07_values.go:328", after := #[{ on := 10, ground := Ground.gcOnly Departure.lateStores }], guard := none }) (v := ?_) rfl (by kernel_rfl) (by kernel_rfl) (by kernel_rfl) (fun _ _ _ h => h) (Or.inl ⟨by rfl, ?_⟩) (by assumption) ?_
  rotate_left
  · (intro w9 hSw; (try dsimp only at hSw); go_simp; try with_reducible rfl)
  try simp only [Act.put, List.setIfInBounds_toArray, List.set_cons_zero, List.set_cons_succ]
  refine wpAnyH_take (i := 2) (oi := { dst := some 20, op := Op.move (Operand.tmp 6), type := 60, pos := "l07_values.go:328", after := #[], guard := none }) (v := ?_) rfl (by kernel_rfl) (by kernel_rfl) (by kernel_rfl) (fun _ _ _ h => h) (Or.inl ⟨by rfl, ?_⟩) (by assumption) ?_
  rotate_left
  · (intro w9 hSw; (try dsimp only at hSw); go_simp; try with_reducible rfl)
  try simp only [Act.put, List.setIfInBounds_toArray, List.set_cons_zero, List.set_cons_succ]
  refine wpAnyH_take (i := 3) (oi := { dst := some 21, op := Op.fieldAddr 27 (Operand.tmp 7) 0, type := 0, pos := "l07_values.go:328", after := #[], guard := none }) (v := ?_) rfl (by kernel_rfl) (by kernel_rfl) (by kernel_rfl) (fun _ _ _ h => h) (Or.inl ⟨by rfl, ?_⟩) (by assumption) ?_
  rotate_left
  · (intro w9 hSw; (try dsimp only at hSw); go_simp; try with_reducible rfl)
  try simp only [Act.put, List.setIfInBounds_toArray, List.set_cons_zero, List.set_cons_succ]
  refine wpAnyH_take (i := 4) (oi := { dst := some 22, op := Op.load 24 (Operand.tmp 21), type := 24, pos := "l07_values.go:328", after := #[{ on := 3, ground := Ground.data }], guard := none }) (v := ?_) rfl (by kernel_rfl) (by kernel_rfl) (by kernel_rfl) (fun _ _ _ h => h) (Or.inl ⟨by rfl, ?_⟩) (by assumption) ?_
  rotate_left
  · (intro w9 hSw; (try dsimp only at hSw); go_simp; try with_reducible rfl)
  try simp only [Act.put, List.setIfInBounds_toArray, List.set_cons_zero, List.set_cons_succ]
  refine wpAnyH_take (i := 5) (oi := { dst := some 23, op := Op.call { callee := Callee.builtin Builtin.len, args := #[Operand.tmp 22], argTypes := #[24] }, type := 3, pos := "l07_values.go:328", after := #[{ on := 4, ground := Ground.data }], guard := none }) (v := ?_) rfl (by kernel_rfl) (by kernel_rfl) (by kernel_rfl) (fun _ _ _ h => h) (Or.inl ⟨by rfl, ?_⟩) (by assumption) ?_
  rotate_left
  · (intro w9 hSw; (try dsimp only at hSw); go_simp; try with_reducible rfl)
  try simp only [Act.put, List.setIfInBounds_toArray, List.set_cons_zero, List.set_cons_succ]
  refine wpAnyH_take (i := 6) (oi := { dst := some 24, op := Op.binOp BinOp.sub 2 (Operand.tmp 23) (Operand.const (Value.int IntKind.i64 1)) 2, type := 2, pos := "l07_values.go:328", after := #[{ on := 5, ground := Ground.data }], guard := none }) (v := ?_) rfl (by kernel_rfl) (by kernel_rfl) (by kernel_rfl) (fun _ _ _ h => h) (Or.inl ⟨by rfl, ?_⟩) (by assumption) ?_
  rotate_left
  · (intro w9 hSw; (try dsimp only at hSw); go_simp; try with_reducible rfl)
  try simp only [Act.put, List.setIfInBounds_toArray, List.set_cons_zero, List.set_cons_succ]
  refine wpAnyH_take (i := 8) (oi := { dst := some 26, op := Op.move (Operand.tmp 6), type := 60, pos := "l07_values.go:328", after := #[], guard := none }) (v := ?_) rfl (by kernel_rfl) (by kernel_rfl) (by kernel_rfl) (fun _ _ _ h => h) (Or.inl ⟨by rfl, ?_⟩) (by assumption) ?_
  rotate_left
  · (intro w9 hSw; (try dsimp only at hSw); go_simp; try with_reducible rfl)
  try simp only [Act.put, List.setIfInBounds_toArray, List.set_cons_zero, List.set_cons_succ]
  refine wpAnyH_ready (rs := [7]) (by kernel_rfl) (by simp) ?_
  refine AllReadyH.cons (i := 7) (o := { dst := some 25, op := Op.call { callee := Callee.value (Operand.func 50), args := #[Operand.tmp 20, Operand.const (Value.int IntKind.i64 0), Operand.tmp 24], argTypes := #[60, 2, 2] }, type := 2, pos := "l07_values.go:328", after := #[{ on := 2, ground := Ground.data }, { on := 6, ground := Ground.data }], guard := none }) rfl (fun K hK => ?_) AllReadyH.nil
  go_simp
  refine (off_c rb a len cap _ _ (by unfold In; omega) (by unfold In; omega) (by omega) _ (unhide HL)).mono ?_
  rintro e v1 ⟨p, rfl, ip, hl⟩
  have HIP := hide ip
  clear ip
  have hzs0 := hl.2.size
  have HR2 := hide ((unhide HR2).kp hl.2 (by omega))
  have HR3 := hide ((unhide HR3).kp hl.2 (by omega))
  have HR4 := hide ((unhide HR4).kp hl.2 (by omega))
  have HD := hide ((unhide HD).kp hl.2 (by omega))
  have HGD := hide ((unhide HGD).kp hl.2 (by omega))
  have HGE := hide ((unhide HGE).kp hl.2 (by omega))
  have HRA := hide ((unhide HRA).kp hl.2 (by omega))
  have HB := hide ((unhide HB).trans (hl.2.below (by omega) (unhide HB).size))
  have HL := hide hl.1
  clear hl
  refine hK.out _ _ (S7.of (unhide HGD) (unhide HGE) (unhide HGE)) (fun hHeld => ?_)
  clear hK K
  try simp only [Act.put, List.setIfInBounds_toArray, List.set_cons_zero, List.set_cons_succ]
  refine wpAnyH_ready (rs := [9]) (by kernel_rfl) (by simp) ?_
  refine AllReadyH.cons (i := 9) (o := { dst := some 27, op := Op.call { callee := Callee.value (Operand.func 51), args := #[Operand.tmp 26], argTypes := #[60] }, type := 47, pos := "l07_values.go:328", after := #[{ on := 8, ground := Ground.data }, { on := 7, ground := Ground.chain }], guard := none }) rfl (fun K hK => ?_) AllReadyH.nil
  go_simp
  refine (iv_c rb a len cap _ (unhide HL)).mono ?_
  rintro e v2 ⟨l, g, rfl, il, ig, hl⟩
  have HIG := hide (And.intro il ig)
  clear il ig
  have hzs1 := hl.2.size
  have HR2 := hide ((unhide HR2).kp hl.2 (by omega))
  have HR3 := hide ((unhide HR3).kp hl.2 (by omega))
  have HR4 := hide ((unhide HR4).kp hl.2 (by omega))
  have HD := hide ((unhide HD).kp hl.2 (by omega))
  have HGD := hide ((unhide HGD).kp hl.2 (by omega))
  have HGE := hide ((unhide HGE).kp hl.2 (by omega))
  have HRA := hide ((unhide HRA).kp hl.2 (by omega))
  have HB := hide ((unhide HB).trans (hl.2.below (by omega) (unhide HB).size))
  have HL := hide hl.1
  clear hl
  refine hK.out _ _ (S7.of (unhide HGD) (unhide HGE) (unhide HGE)) (fun hHeld => ?_)
  clear hK K
  try simp only [Act.put, List.setIfInBounds_toArray, List.set_cons_zero, List.set_cons_succ]
  have r0 := (unhide HR2).1
  have r1 := (unhide HR2).2.1
  have r2 := (unhide HR2).2.2.1
  have s0 := (unhide HR3).1
  have s1 := (unhide HR3).2.1
  have s2 := (unhide HR3).2.2.1
  have t0 := (unhide HR4).1
  have t1 := (unhide HR4).2.1
  have rf0 := (unhide HR2).2.2.2 0
  have rf1 := (unhide HR2).2.2.2 1
  have rf2 := (unhide HR2).2.2.2 2
  have sf0 := (unhide HR3).2.2.2 0
  have sf1 := (unhide HR3).2.2.2 1
  have sf2 := (unhide HR3).2.2.2 2
  have tf0 := (unhide HR4).2.2.1 0
  have tf1 := (unhide HR4).2.2.1 1
  have nw1 : w.heap.size ≠ w.heap.size + 1 := by omega
  have nw2 : w.heap.size ≠ w.heap.size + 1 + 1 := by omega
  have nw3 : w.heap.size + 1 ≠ w.heap.size + 1 + 1 := by omega
  refine wpAnyH_ready (rs := [10]) (by kernel_rfl) (by simp) ?_
  refine AllReadyH.cons (i := 10) (o := { dst := none, op := Op.store 27 (Operand.tmp 2) (Operand.tmp 18), type := 0, pos := "l07_values.go:328", after := #[{ on := 0, ground := Ground.data }, { on := 9, ground := Ground.chain }, { on := 0, ground := Ground.phase }, { on := 1, ground := Ground.textOnly Departure.lateStores }, { on := 2, ground := Ground.textOnly Departure.lateStores }, { on := 3, ground := Ground.textOnly Departure.lateStores }, { on := 4, ground := Ground.textOnly Departure.lateStores }, { on := 5, ground := Ground.textOnly Departure.lateStoresUnsure }, { on := 6, ground := Ground.textOnly Departure.lateStores }, { on := 7, ground := Ground.textOnly Departure.lateStoresUnsure }, { on := 8, ground := Ground.textOnly Departure.lateStores }, { on := 9, ground := Ground.textOnly Departure.lateStoresUnsure }], guard := none }) rfl (fun K hK => ?_) AllReadyH.nil
  go_simp
  refine hK.out _ _ (S7.set (S7.set (S7.set (hHeld) (by omega) (by omega) (by omega) _) (by omega) (by omega) (by omega) _) (by omega) (by omega) (by omega) _) (fun hHeld => ?_)
  clear hK K
  try simp only [Act.put, List.setIfInBounds_toArray, List.set_cons_zero, List.set_cons_succ]
  refine wpAnyH_ready (rs := [11]) (by kernel_rfl) (by simp) ?_
  refine AllReadyH.cons (i := 11) (o := { dst := none, op := Op.store 30 (Operand.tmp 3) (Operand.tmp 19), type := 0, pos := "l07_values.go:328", after := #[{ on := 1, ground := Ground.data }, { on := 10, ground := Ground.chain }, { on := 0, ground := Ground.phase }, { on := 1, ground := Ground.phase }, { on := 2, ground := Ground.textOnly Departure.lateStores }, { on := 3, ground := Ground.textOnly Departure.lateStores }, { on := 4, ground := Ground.textOnly Departure.lateStores }, { on := 5, ground := Ground.textOnly Departure.lateStoresUnsure }, { on := 6, ground := Ground.textOnly Departure.lateStores }, { on := 7, ground := Ground.textOnly Departure.lateStoresUnsure }, { on := 8, ground := Ground.textOnly Departure.lateStores }, { on := 9, ground := Ground.textOnly Departure.lateStoresUnsure }, { on := 10, ground := Ground.phase }], guard := none }) rfl (fun K hK => ?_) AllReadyH.nil
  go_simp
  refine hK.out _ _ (S7.set (S7.set (S7.set (hHeld) (by omega) (by omega) (by omega) _) (by omega) (by omega) (by omega) _) (by omega) (by omega) (by omega) _) (fun hHeld => ?_)
  clear hK K
  try simp only [Act.put, List.setIfInBounds_toArray, List.set_cons_zero, List.set_cons_succ]
  refine wpAnyH_take (i := 12) (oi := { dst := some 4, op := Op.assign (Operand.tmp 25), type := 2, pos := "l07_values.go:328", after := #[{ on := 7, ground := Ground.data }, { on := 11, ground := Ground.chain }, { on := 0, ground := Ground.phase }, { on := 1, ground := Ground.phase }, { on := 2, ground := Ground.phase }, { on := 3, ground := Ground.phase }, { on := 4, ground := Ground.phase }, { on := 5, ground := Ground.phase }, { on := 6, ground := Ground.phase }, { on := 7, ground := Ground.phase }, { on := 8, ground := Ground.textOnly Departure.lateStores }, { on := 9, ground := Ground.textOnly Departure.lateStoresUnsure }, { on := 10, ground := Ground.phase }, { on := 11, ground := Ground.phase }], guard := none }) (v := ?_) rfl (by kernel_rfl) (by kernel_rfl) (by kernel_rfl) (fun _ _ _ h => h) (Or.inl ⟨by rfl, ?_⟩) (by assumption) ?_
  rotate_left
  · (intro w9 hSw; (try dsimp only at hSw); go_simp; try with_reducible rfl)
  try simp only [Act.put, List.setIfInBounds_toArray, List.set_cons_zero, List.set_cons_succ]
  refine wpAnyH_ready (rs := [13]) (by kernel_rfl) (by simp) ?_
  refine AllReadyH.cons (i := 13) (o := { dst := none, op := Op.store 47 (Operand.tmp 5) (Operand.tmp 27), type := 0, pos := "l07_values.go:328", after := #[{ on := 9, ground := Ground.data }, { on := 12, ground := Ground.chain }, { on := 0, ground := Ground.phase }, { on := 1, ground := Ground.phase }, { on := 2, ground := Ground.phase }, { on := 3, ground := Ground.phase }, { on := 4, ground := Ground.phase }, { on := 5, ground := Ground.phase }, { on := 6, ground := Ground.phase }, { on := 7, ground := Ground.phase }, { on := 8, ground := Ground.phase }, { on := 9, ground := Ground.phase }, { on := 10, ground := Ground.phase }, { on := 11, ground := Ground.phase }, { on := 12, ground := Ground.phase }], guard := none }) rfl (fun K hK => ?_) AllReadyH.nil
  go_simp
  refine hK.out _ _ (S7.set (S7.set (hHeld) (by omega) (by omega) (by omega) _) (by omega) (by omega) (by omega) _) (fun hHeld => ?_)
  clear hK K
  try simp only [Act.put, List.setIfInBounds_toArray, List.set_cons_zero, List.set_cons_succ]
  refine wpAnyH_done (by kernel_rfl) ?_ _
  clear hHeld
  go_wp2
  have bD := unhide HD
  have bA := unhide HRA
  have lX := unhide HLX
  have lY := unhide HXL
  have hh : ∀ q, u1.heap.size ≤ q → (W8 v2 w.heap.size (w.heap.size + 1) (w.heap.size + 1 + 1) (.slice a1 vs.length c1) (.slice a2 fs.length c2) (.slice a3 rs.length c3) (.bool li) (.slice oa xs.length ca) (.slice ob ys.length cb) (.int .i64 l) (.int .i64 g)).heap[q]? = v2.heap[q]? := fun q hq => w8_heap _ _ _ _ _ _ _ _ _ _ _ _ _ (by omega) (by omega) (by omega)
  have bD2 := bD.at' (fun q h1 _ => hh q h1) (by simp [W8, World.setCell])
  have bA2 := bA.at' (fun q h1 _ => hh q (by omega)) (by simp [W8, World.setCell])
  exact bodyPost_ret (v := .tuple #[.agg #[.slice a1 vs.length c1, .slice a2 fs.length c2, .slice a3 rs.length c3], .agg #[.bool li, .slice oa xs.length ca, .slice ob ys.length cb], .int .i64 p, .agg #[.int .i64 l, .int .i64 g]]) (by simp [results, Tryd.results18, go_sem, r0, r1, r2, s0, s1, s2, t0, t1]) rfl ⟨a1, a2, a3, c1, c2, c3, vs, fs, rs, li, oa, ca, ob, cb, xs, ys, p, l, g, rfl, bD2.1, bD2.2.1, bD2.2.2.1, unhide HZ, bA2.1.ivs (by omega), ⟨lX.2, lY.2.2⟩, ⟨unhide HIP, unhide HIG⟩, below_w8 (unhide HB) (Nat.le_refl _) (Nat.le_succ _) (by omega)⟩
end Go.Proofs.YthpnbmdmkmkicaaDoor

