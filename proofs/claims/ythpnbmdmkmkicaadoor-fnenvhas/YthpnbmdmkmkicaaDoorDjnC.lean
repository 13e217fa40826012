/- What is drawn for a join. -/
import Derived.Test.YthpnbmdmkmkicaaDoorDrwH
namespace Go.Proofs.YthpnbmdmkmkicaaDoor
open Go.RowKit Go.Iv
set_option linter.unusedSimpArgs false
set_option linter.unusedVariables false

theorem Ivs.at3 {u v : World} {a : Option Addr} {xs : List (Int × Int)} (h : Ivs u a xs) (hb : ∀ x, a = some x → 0 < xs.length → v.heap[x.block]? = u.heap[x.block]?) : Ivs v a xs := by
  refine ⟨h.1, ?_⟩
  rcases h.2 with h0 | ⟨cb, co, rfl, hc⟩
  · exact .inl h0
  · exact .inr ⟨cb, co, rfl, fun i hi => ⟨(World.cell?_of_block (w := u) (a := ⟨cb, co + i * 2, none⟩) (hb ⟨cb, co, none⟩ rfl (by omega))).trans (hc i hi).1, (World.cell?_of_block (w := u) (a := ⟨cb, co + i * 2 + 1, none⟩) (hb ⟨cb, co, none⟩ rfl (by omega))).trans (hc i hi).2⟩⟩
/-- The rows of a declaration and of two bounds, none below n. -/
def DeC (u : World) (n : Nat) (a1 a2 a3 oa ob oc od : Option Addr) (vs fs : List ByteArray) (rs : List (ByteArray × Int)) (xs ys xs2 ys2 : List (Int × Int)) : Prop :=
  Strs u a1 vs ∧ Strs u a2 fs ∧ Arrs u a3 rs ∧ (Ivs u oa xs ∧ Ivs u ob ys) ∧ (Ivs u oc xs2 ∧ Ivs u od ys2) ∧ DeF n a1 a2 a3 oa ob oc od vs.length fs.length rs.length
theorem DeC.at' {u v : World} {n : Nat} {a1 a2 a3 oa ob oc od : Option Addr} {vs fs : List ByteArray} {rs : List (ByteArray × Int)} {xs ys xs2 ys2 : List (Int × Int)} (h : DeC u n a1 a2 a3 oa ob oc od vs fs rs xs ys xs2 ys2)
    (hb : ∀ g, n ≤ g → g < u.heap.size → v.heap[g]? = u.heap[g]?) : DeC v n a1 a2 a3 oa ob oc od vs fs rs xs ys xs2 ys2 := by
  obtain ⟨h1, h2, h3, ⟨h4, h5⟩, ⟨h6, h7⟩, f⟩ := h
  exact ⟨h1.at' fun x e h0 => hb _ (f.1 x e h0) (h1.lt' x e h0), h2.at' fun x e h0 => hb _ (f.2.1 x e h0) (h2.lt' x e h0), h3.at' fun x e h0 => hb _ (f.2.2.1 x e h0) (h3.lt' x e h0),
    ⟨h4.at3 fun x e h0 => hb _ (f.2.2.2.1 x e) (h4.lt x e h0), h5.at3 fun x e h0 => hb _ (f.2.2.2.2.1 x e) (h5.lt x e h0)⟩, ⟨h6.at3 fun x e h0 => hb _ (f.2.2.2.2.2.1 x e) (h6.lt x e h0), h7.at3 fun x e h0 => hb _ (f.2.2.2.2.2.2 x e) (h7.lt x e h0)⟩, f⟩
theorem w9_heap (v : World) (p q r g : Nat) (x0 x1 x2 x3 x4 x5 x6 x7 x8 : Value) (hp : g ≠ p) (hq : g ≠ q) (hr : g ≠ r) : (W9 v p q r x0 x1 x2 x3 x4 x5 x6 x7 x8).heap[g]? = v.heap[g]? := by
  unfold W9
  refine (Below.heap_setCell _ _ _ _ (by exact hr)).trans ((Below.heap_setCell _ _ _ _ (by exact hr)).trans ((Below.heap_setCell _ _ _ _ (by exact hr)).trans ?_))
  refine (Below.heap_setCell _ _ _ _ (by exact hq)).trans ((Below.heap_setCell _ _ _ _ (by exact hq)).trans ((Below.heap_setCell _ _ _ _ (by exact hq)).trans ?_))
  exact (Below.heap_setCell _ _ _ _ (by exact hp)).trans ((Below.heap_setCell _ _ _ _ (by exact hp)).trans (Below.heap_setCell _ _ _ _ (by exact hp)))
theorem DeC.w9 {v : World} {n p q r : Nat} {a1 a2 a3 oa ob oc od : Option Addr} {vs fs : List ByteArray} {rs : List (ByteArray × Int)} {xs ys xs2 ys2 : List (Int × Int)} {x0 x1 x2 x3 x4 x5 x6 x7 x8 : Value} (h : DeC v n a1 a2 a3 oa ob oc od vs fs rs xs ys xs2 ys2) (hp : p < n) (hq : q < n) (hr : r < n) :
    DeC (W9 v p q r x0 x1 x2 x3 x4 x5 x6 x7 x8) n a1 a2 a3 oa ob oc od vs fs rs xs ys xs2 ys2 := h.at' fun g h1 _ => w9_heap _ _ _ _ _ _ _ _ _ _ _ _ _ _ (by omega) (by omega) (by omega)
theorem DeF.down {n m : Nat} {a1 a2 a3 oa ob oc od : Option Addr} {l1 l2 l3 : Nat} (h : DeF n a1 a2 a3 oa ob oc od l1 l2 l3) (hm : m ≤ n) : DeF m a1 a2 a3 oa ob oc od l1 l2 l3 :=
  ⟨fun x e h0 => Nat.le_trans hm (h.1 x e h0), fun x e h0 => Nat.le_trans hm (h.2.1 x e h0), fun x e h0 => Nat.le_trans hm (h.2.2.1 x e h0), fun x e => Nat.le_trans hm (h.2.2.2.1 x e), fun x e => Nat.le_trans hm (h.2.2.2.2.1 x e), fun x e => Nat.le_trans hm (h.2.2.2.2.2.1 x e), fun x e => Nat.le_trans hm (h.2.2.2.2.2.2 x e)⟩
set_option maxRecDepth 20000 in
set_option maxHeartbeats 8000000 in
theorem DrawEnvMeet_c (a : Option Addr) (len cap : Nat) (w : World) (h : Code w a len) : Calls Tryd.prog 7 #[.slice a len cap] w (DeR w) := by
  have HC := hide h
  clear h
  have q0 := B3.new w (.slice none 0 0) (.slice none 0 0) (.slice none 0 0) (.bool false) (.slice none 0 0) (.slice none 0 0) (.bool false) (.slice none 0 0) (.slice none 0 0) 27 30 30
  have hs0 : w.heap.size + 3 ≤ (((w.alloc (Obj.cells #[.slice none 0 0, .slice none 0 0, .slice none 0 0] 27)).alloc (Obj.cells #[.bool false, .slice none 0 0, .slice none 0 0] 30)).alloc (Obj.cells #[.bool false, .slice none 0 0, .slice none 0 0] 30)).heap.size := by simp
  go_enter Tryd.func7, Tryd.ntmps7
  go_wp2_with fail
  generalize ((w.alloc (Obj.cells #[.slice none 0 0, .slice none 0 0, .slice none 0 0] 27)).alloc (Obj.cells #[.bool false, .slice none 0 0, .slice none 0 0] 30)).alloc (Obj.cells #[.bool false, .slice none 0 0, .slice none 0 0] 30) = u0 at q0 hs0 ⊢
  have HQ := hide q0
  clear q0
  refine (DrawEnvLeq_c a len cap u0 ((unhide HC).below (unhide HQ).2.2.2)).mono ?_
  rintro e u1 ⟨a1, a2, a3, c1, c2, c3, vs, fs, rs, li, oa, ca, ob, cb, xs, ys, lj, oc, cc, od, cd, xs2, ys2, rfl, s1, s2, s3, hz, i12, i34, hin, hfar, kb⟩
  have HD := hide (show DeC u1 u0.heap.size a1 a2 a3 oa ob oc od vs fs rs xs ys xs2 ys2 from ⟨s1, s2, s3, i12, i34, hfar⟩)
  have HZ := hide hz
  have HI := hide hin
  have HQ := hide ((unhide HQ).call kb)
  clear s1 s2 s3 i12 i34 hfar hz hin kb
  have r0 := (unhide HQ).1.1
  have r1 := (unhide HQ).1.2.1
  have r2 := (unhide HQ).1.2.2.1
  have rf0 := (unhide HQ).1.2.2.2 0
  have rf1 := (unhide HQ).1.2.2.2 1
  have rf2 := (unhide HQ).1.2.2.2 2
  have s0 := (unhide HQ).2.1.1
  have s1 := (unhide HQ).2.1.2.1
  have s2 := (unhide HQ).2.1.2.2.1
  have sf0 := (unhide HQ).2.1.2.2.2 0
  have sf1 := (unhide HQ).2.1.2.2.2 1
  have sf2 := (unhide HQ).2.1.2.2.2 2
  have t0 : u1.cell? ⟨w.heap.size + 1 + 1, 0, none⟩ = _ := (unhide HQ).2.2.1.1
  have t1 : u1.cell? ⟨w.heap.size + 1 + 1, 1, none⟩ = _ := (unhide HQ).2.2.1.2.1
  have t2 : u1.cell? ⟨w.heap.size + 1 + 1, 2, none⟩ = _ := (unhide HQ).2.2.1.2.2.1
  have tf0 : u1.frozen? ⟨w.heap.size + 1 + 1, 0, none⟩ = _ := (unhide HQ).2.2.1.2.2.2 0
  have tf1 : u1.frozen? ⟨w.heap.size + 1 + 1, 1, none⟩ = _ := (unhide HQ).2.2.1.2.2.2 1
  have tf2 : u1.frozen? ⟨w.heap.size + 1 + 1, 2, none⟩ = _ := (unhide HQ).2.2.1.2.2.2 2
  have nw1 : w.heap.size ≠ w.heap.size + 1 := by omega
  have nw2 : w.heap.size ≠ w.heap.size + 1 + 1 := by omega
  have nw3 : w.heap.size + 1 ≠ w.heap.size + 1 + 1 := by omega
  go_wp2
  have bD := DeC.w9 (unhide HD) (p := w.heap.size) (q := w.heap.size + 1) (r := w.heap.size + 1 + 1) (x0 := .slice a1 vs.length c1) (x1 := .slice a2 fs.length c2) (x2 := .slice a3 rs.length c3) (x3 := .bool li) (x4 := .slice oa xs.length ca) (x5 := .slice ob ys.length cb) (x6 := .bool lj) (x7 := .slice oc xs2.length cc) (x8 := .slice od ys2.length cd) (by omega) (by omega) (by omega)
  exact bodyPost_ret (v := .tuple #[.agg #[.slice a1 vs.length c1, .slice a2 fs.length c2, .slice a3 rs.length c3], .agg #[.bool li, .slice oa xs.length ca, .slice ob ys.length cb], .agg #[.bool lj, .slice oc xs2.length cc, .slice od ys2.length cd]]) (by simp [results, Tryd.results7, go_sem, r0, r1, r2, s0, s1, s2, t0, t1, t2]) rfl ⟨a1, a2, a3, c1, c2, c3, vs, fs, rs, li, oa, ca, ob, cb, xs, ys, lj, oc, cc, od, cd, xs2, ys2, rfl, bD.1, bD.2.1, bD.2.2.1, unhide HZ, bD.2.2.2.1, bD.2.2.2.2.1, unhide HI, bD.2.2.2.2.2.down (by omega), below_w9 (unhide HQ).2.2.2 (Nat.le_refl _) (Nat.le_succ _) (by omega)⟩
end Go.Proofs.YthpnbmdmkmkicaaDoor
