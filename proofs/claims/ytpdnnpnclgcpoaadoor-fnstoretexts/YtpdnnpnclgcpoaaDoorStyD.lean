/- A store, drawn with its declaration, either hurt at times. -/
import Derived.Test.YtpdnnpnclgcpoaaDoorNaZ
import Derived.Test.YtpdnnpnclgcpoaaDoorHuZ
import Derived.Test.YtpdnnpnclgcpoaaDoorDecB
namespace Go.Proofs.YtpdnnpnclgcpoaaDoor
open Go.RowKit Go.Iv
set_option linter.unusedSimpArgs false
set_option linter.unusedVariables false

/-- A declaration and a store. -/
def StQ (w : World) (e : Ending) (w' : World) : Prop := ∃ (a1 a2 a3 : Option Addr) (c1 c2 c3 : Nat) (vs fs : List ByteArray) (rs : List (ByteArray × Int)) (oa ob oc : Option Addr) (ca cb cc : Nat) (is : List Int) (bs : List Bool) (js : List (List Int)),
 e = .returned (.tuple #[.agg #[.slice a1 vs.length c1, .slice a2 fs.length c2, .slice a3 rs.length c3], .agg #[.slice oa is.length ca, .slice ob bs.length cb, .slice oc js.length cc]]) ∧ Strs w' a1 vs ∧ Strs w' a2 fs ∧ Arrs w' a3 rs ∧ (∀ x ∈ namesOf vs fs rs, x.size ≤ 1048576) ∧ SF w' w.heap.size oa ob oc is bs js ∧ RgS is js ∧ Below w.heap.size w w'
/-- Six cells of two boxes. -/
@[reducible] def S6 (gd gs : Nat) (x0 x1 x2 y0 y1 y2 : Value) (u : World) : Prop :=
 u.cell? ⟨gd, 0, none⟩ = some x0 ∧ u.cell? ⟨gd, 1, none⟩ = some x1 ∧ u.cell? ⟨gd, 2, none⟩ = some x2 ∧ u.cell? ⟨gs, 0, none⟩ = some y0 ∧ u.cell? ⟨gs, 1, none⟩ = some y1 ∧ u.cell? ⟨gs, 2, none⟩ = some y2
theorem S6.of {gd gs : Nat} {x0 x1 x2 y0 y1 y2 : Value} {u : World} (h1 : C3 u gd x0 x1 x2) (h2 : C3 u gs y0 y1 y2) : S6 gd gs x0 x1 x2 y0 y1 y2 u := ⟨h1.1, h1.2.1, h1.2.2.1, h2.1, h2.2.1, h2.2.2.1⟩
theorem S6.set {gd gs c o : Nat} {x0 x1 x2 y0 y1 y2 : Value} {u : World} (h : S6 gd gs x0 x1 x2 y0 y1 y2 u) (h1 : c ≠ gd) (h2 : c ≠ gs) (x : Value) : S6 gd gs x0 x1 x2 y0 y1 y2 (u.setCell ⟨c, o, none⟩ x) := by
 obtain ⟨q0, q1, q2, q3, q4, q5⟩ := h
 have k : ∀ {g p : Nat} {y : Value}, u.cell? ⟨g, p, none⟩ = some y → c ≠ g → (u.setCell ⟨c, o, none⟩ x).cell? ⟨g, p, none⟩ = some y := fun e hne => (World.cell?_setCell_other _ _ _ _ (fun e2 => hne (congrArg Addr.block e2))).trans e
 exact ⟨k q0 h1, k q1 h1, k q2 h1, k q3 h2, k q4 h2, k q5 h2⟩
theorem C3.gr {u v : World} {g : Nat} {x y z : Value} {row : Option Nat} (h : C3 u g x y z) (k : u.grownBy v row) (hr : ∀ j, row = some j → j ≠ g) : C3 v g x y z := by
 have hb : v.heap[g]? = u.heap[g]? := k.block g h.lt (fun e => hr g e.symm rfl)
 exact ⟨(World.cell?_of_block (w := u) (a := ⟨g, 0, none⟩) hb).trans h.1, (World.cell?_of_block (w := u) (a := ⟨g, 1, none⟩) hb).trans h.2.1, (World.cell?_of_block (w := u) (a := ⟨g, 2, none⟩) hb).trans h.2.2.1, fun o => (World.frozen?_of_block (w := u) (a := ⟨g, o, none⟩) hb).trans (h.2.2.2 o)⟩
theorem DeP.gr {u v : World} {lo hi : Nat} {a1 a2 a3 : Option Addr} {vs fs : List ByteArray} {rs : List (ByteArray × Int)} {row : Option Nat} (h : DeP u lo hi a1 a2 a3 vs fs rs) (k : u.grownBy v row) (hr : ∀ j, row = some j → hi ≤ j) : DeP v lo hi a1 a2 a3 vs fs rs :=
 h.at' (fun g _ h2 => k.block g (Nat.lt_of_lt_of_le h2 h.2.2.2.2.2.2) (fun e => by have := hr g e.symm; omega)) k.size
theorem RgS.snoc {is : List Int} {js : List (List Int)} (h : RgS is js) : RgS (is ++ [0]) js := by
 refine ⟨fun i hi => ?_, h.2⟩
 by_cases e : i < is.length
 ·rw [List.getElem_append_left e]; exact h.1 i e
 ·have : i = is.length := by simp at hi; omega
  subst this
  simp
theorem RgS.snocJ {is : List Int} {js : List (List Int)} (h : RgS is js) : RgS is (js ++ [[]]) := by
 refine ⟨h.1, fun k hk i hi => ?_⟩
 by_cases e : k < js.length
 ·have ej : (js ++ [[]])[k] = js[k] := List.getElem_append_left e
  simp only [ej] at hi ⊢
  exact h.2 k e i hi
 ·have ek : k = js.length := by simp at hk; omega
  subst ek
  simp at hi
/-- Behind the draws of a declaration and of a store. -/
def DsB (w u1 : World) (rb : Nat) (a : Option Addr) (len cap lo hi gd gs B : Nat) (a1 a2 a3 : Option Addr) (c1 c2 c3 : Nat) (vs fs : List ByteArray) (rs : List (ByteArray × Int)) (y0 y1 y2 : Value) (u : World) : Prop :=
 Left rb a len cap u1 u ∧ C3 u gd (.slice a1 vs.length c1) (.slice a2 fs.length c2) (.slice a3 rs.length c3) ∧ C3 u gs y0 y1 y2 ∧ DeP u lo hi a1 a2 a3 vs fs rs ∧ (rb < u1.heap.size ∧ u1.heap.size ≤ lo ∧ hi ≤ gd ∧ gd < B ∧ B ≤ gs)
section
variable {w u1 u v : World} {rb : Nat} {a : Option Addr} {len cap lo hi gd gs B : Nat} {a1 a2 a3 : Option Addr} {c1 c2 c3 : Nat} {vs fs : List ByteArray} {rs : List (ByteArray × Int)} {y0 y1 y2 : Value}
theorem DsB.kp (h : DsB w u1 rb a len cap lo hi gd gs B a1 a2 a3 c1 c2 c3 vs fs rs y0 y1 y2 u) (hlh : u1.heap.size ≤ gd) (k : Left rb a len cap u v) : DsB w u1 rb a len cap lo hi gd gs B a1 a2 a3 c1 c2 c3 vs fs rs y0 y1 y2 v := by
 obtain ⟨h1, h2, h3, h4, h5⟩ := h
 exact ⟨h1.trans k, h2.kp k.2 (by omega), h3.kp k.2 (by omega), h4.kp k.2 (by omega), h5⟩
theorem DsB.drew (h : DsB w u1 rb a len cap lo hi gd gs B a1 a2 a3 c1 c2 c3 vs fs rs y0 y1 y2 u) : DsB w u1 rb a len cap lo hi gd gs B a1 a2 a3 c1 c2 c3 vs fs rs y0 y1 y2 u.drew :=
 ⟨h.1.drew, h.2.1, h.2.2.1, h.2.2.2.1.call (Below.refl _ _).drew, h.2.2.2.2⟩
theorem DsB.gr {row : Option Nat} (h : DsB w u1 rb a len cap lo hi gd gs B a1 a2 a3 c1 c2 c3 vs fs rs y0 y1 y2 u) (hlh : u1.heap.size ≤ gd) (hc : ∀ x, a = some x → 0 < len → x.block < u1.heap.size) (k : u.grownBy v row) (hr : ∀ j, row = some j → B ≤ j ∧ j ≠ gs) : DsB w u1 rb a len cap lo hi gd gs B a1 a2 a3 c1 c2 c3 vs fs rs y0 y1 y2 v := by
 obtain ⟨h1, h2, h3, h4, h5⟩ := h
 exact ⟨h1.grown k (fun j e => by have := hr j e; omega) (by omega) hc, h2.gr k (fun j e => by have := hr j e; omega), h3.gr k (fun j e => (hr j e).2), h4.gr k (fun j e => by have := hr j e; omega), h5⟩
theorem DsB.alloc (h : DsB w u1 rb a len cap lo hi gd gs B a1 a2 a3 c1 c2 c3 vs fs rs y0 y1 y2 u) (o : Obj) : DsB w u1 rb a len cap lo hi gd gs B a1 a2 a3 c1 c2 c3 vs fs rs y0 y1 y2 (u.alloc o) :=
 ⟨h.1.alloc o, h.2.1.alloc o, h.2.2.1.alloc o, h.2.2.2.1.call ((Below.refl _ u).alloc (Nat.le_refl _) o), h.2.2.2.2⟩
theorem DsB.put {z0 z1 z2 : Value} (h : DsB w u1 rb a len cap lo hi gd gs B a1 a2 a3 c1 c2 c3 vs fs rs y0 y1 y2 u) (hlh : u1.heap.size ≤ gd) (hc : ∀ x, a = some x → 0 < len → x.block < u1.heap.size) (o : Nat) (x : Value) (hn : C3 (u.setCell ⟨gs, o, none⟩ x) gs z0 z1 z2) : DsB w u1 rb a len cap lo hi gd gs B a1 a2 a3 c1 c2 c3 vs fs rs z0 z1 z2 (u.setCell ⟨gs, o, none⟩ x) := by
 obtain ⟨h1, h2, h3, h4, h5⟩ := h
 exact ⟨h1.set (by omega) (by omega) hc x, h2.other (by omega), hn, h4.set (.inr (by omega)) x, h5⟩
end
theorem far_set {u : World} {c o B : Nat} {x : Value} (h : c < B) : ∀ g, B ≤ g → g < u.heap.size → (u.setCell ⟨c, o, none⟩ x).heap[g]? = u.heap[g]? := fun g h1 _ => Below.heap_setCell _ _ _ _ (by show g ≠ c; omega)
theorem Strs.put {u : World} {a : Option Addr} {xs : List ByteArray} {c o l k : Nat} {s : Option Addr} {x : Value} (h : Strs u a xs) (hc : u.cell? ⟨c, o, none⟩ = some (.slice s l k)) : Strs (u.setCell ⟨c, o, none⟩ x) a xs := by
 refine ⟨h.1, ?_⟩
 rcases h.2 with h0 | ⟨cb, co, rfl, q⟩
 ·exact .inl h0
 ·refine .inr ⟨cb, co, rfl, fun i hi => (World.cell?_setCell_other _ _ _ _ (fun e => ?_)).trans (q i hi)⟩
  have := q i hi
  rw [← e, hc] at this
  cases this
theorem Arrs.put {u : World} {a : Option Addr} {xs : List (ByteArray × Int)} {c o l k : Nat} {s : Option Addr} {x : Value} (h : Arrs u a xs) (hc : u.cell? ⟨c, o, none⟩ = some (.slice s l k)) : Arrs (u.setCell ⟨c, o, none⟩ x) a xs := by
 refine ⟨h.1, ?_⟩
 rcases h.2 with h0 | ⟨cb, co, rfl, q⟩
 ·exact .inl h0
 ·refine .inr ⟨cb, co, rfl, fun i hi => ⟨(World.cell?_setCell_other _ _ _ _ (fun e => ?_)).trans (q i hi).1, (World.cell?_setCell_other _ _ _ _ (fun e => ?_)).trans (q i hi).2⟩⟩
  ·have := (q i hi).1
   rw [← e, hc] at this
   cases this
  ·have := (q i hi).2
   rw [← e, hc] at this
   cases this
/-- While the answer's boxes are written. -/
def FinP (w : World) (o1 o2 o3 : Option Addr) (vn fn : List ByteArray) (rn : List (ByteArray × Int)) (oa ob oc : Option Addr) (is : List Int) (bs : List Bool) (js : List (List Int)) (v : World) : Prop :=
 Strs v o1 vn ∧ Strs v o2 fn ∧ Arrs v o3 rn ∧ SF v (w.heap.size + 2) oa ob oc is bs js ∧ Below w.heap.size w v ∧ ∀ g k, (g = w.heap.size ∨ g = w.heap.size + 1) → k < 3 → ∃ s l c, v.cell? ⟨g, k, none⟩ = some (.slice s l c)
theorem FinP.put {w v : World} {o1 o2 o3 : Option Addr} {vn fn : List ByteArray} {rn : List (ByteArray × Int)} {oa ob oc : Option Addr} {is : List Int} {bs : List Bool} {js : List (List Int)} (h : FinP w o1 o2 o3 vn fn rn oa ob oc is bs js v) (g k : Nat) (hg : g = w.heap.size ∨ g = w.heap.size + 1) (hk : k < 3) (s : Option Addr) (l c : Nat) : FinP w o1 o2 o3 vn fn rn oa ob oc is bs js (v.setCell ⟨g, k, none⟩ (.slice s l c)) := by
 obtain ⟨h1, h2, h3, h4, h5, h6⟩ := h
 obtain ⟨s0, l0, c0, hc⟩ := h6 g k hg hk
 refine ⟨h1.put hc, h2.put hc, h3.put hc, h4.at' (far_set (by omega)), h5.setCell (by show w.heap.size ≤ g; omega) _, fun g2 k2 q1 q2 => ?_⟩
 by_cases e : (⟨g, k, none⟩ : Addr) = ⟨g2, k2, none⟩
 ·rw [← e]
  exact ⟨s, l, c, World.cell?_setCell_same _ _ _ hc⟩
 ·obtain ⟨s9, l9, c9, q⟩ := h6 g2 k2 q1 q2
  exact ⟨s9, l9, c9, (World.cell?_setCell_other _ _ _ _ e).trans q⟩
theorem FinP.of {w v : World} {o1 o2 o3 : Option Addr} {vn fn : List ByteArray} {rn : List (ByteArray × Int)} {oa ob oc : Option Addr} {is : List Int} {bs : List Bool} {js : List (List Int)} (h1 : Strs v o1 vn) (h2 : Strs v o2 fn) (h3 : Arrs v o3 rn) (h4 : SF v (w.heap.size + 2) oa ob oc is bs js) (h5 : Below w.heap.size w v)
  (c1 : C3 v w.heap.size (.slice none 0 0) (.slice none 0 0) (.slice none 0 0)) (c2 : C3 v (w.heap.size + 1) (.slice none 0 0) (.slice none 0 0) (.slice none 0 0)) : FinP w o1 o2 o3 vn fn rn oa ob oc is bs js v := by
 refine ⟨h1, h2, h3, h4, h5, fun g k q1 q2 => ?_⟩
 rcases (show k = 0 ∨ k = 1 ∨ k = 2 by omega) with rfl | rfl | rfl <;> rcases q1 with rfl | rfl
 ·exact ⟨_, _, _, c1.1⟩
 ·exact ⟨_, _, _, c2.1⟩
 ·exact ⟨_, _, _, c1.2.1⟩
 ·exact ⟨_, _, _, c2.2.1⟩
 ·exact ⟨_, _, _, c1.2.2.1⟩
 ·exact ⟨_, _, _, c2.2.2.1⟩
set_option maxRecDepth 20000 in
set_option maxHeartbeats 32000000 in
theorem DrawStoreOk_c (a : Option Addr) (len cap : Nat) (w : World) (h : Code w a len) : Calls Tryd.prog 64 #[.slice a len cap] w (StQ w) := by
 have HC := hide h
 clear h
 obtain ⟨inI, hiI, hzI0, hzI1, hzI2⟩ := info_parts i64Info
 obtain ⟨inM, hiM, hzM0, hzM1, hzM2⟩ := info_parts matInfo
 go_enter Tryd.func64, Tryd.ntmps64
 go_wp2_with fail
 have b0 := B2.new w (.slice none 0 0) (.slice none 0 0) (.slice none 0 0) (.slice none 0 0) (.slice none 0 0) (.slice none 0 0) 27 35
 have hs0 : w.heap.size + 2 ≤ ((w.alloc (Obj.cells #[.slice none 0 0, .slice none 0 0, .slice none 0 0] 27)).alloc (Obj.cells #[.slice none 0 0, .slice none 0 0, .slice none 0 0] 35)).heap.size := by simp
 have hcw := (unhide HC).lt
 generalize (w.alloc (Obj.cells #[.slice none 0 0, .slice none 0 0, .slice none 0 0] 27)).alloc (Obj.cells #[.slice none 0 0, .slice none 0 0, .slice none 0 0] 35) = u0 at b0 hs0 ⊢
 have HB0 := hide b0
 clear b0
 refine (open_c a len cap _).mono ?_
 rintro e u1 ⟨rfl, he⟩
 have hl := open_rdr a len cap u0 ((unhide HC).below (unhide HB0).2.2)
 rw [← he] at hl
 obtain ⟨rb, hrb⟩ : ∃ x, x = u0.heap.size := ⟨_, rfl⟩
 rw [← hrb] at hl ⊢
 have hrw : w.heap.size + 1 < rb := by omega
 have hrs : rb < u1.heap.size := hl.1.lt
 have hr2 := (unhide HB0).1.kp hl.2 (by omega)
 have hr3 := (unhide HB0).2.1.kp hl.2 (by omega)
 have hbw := (unhide HB0).2.2.trans (hl.2.below (by omega) (unhide HB0).2.2.size)
 have HR2 := hide hr2
 have HR3 := hide hr3
 have HBW := hide hbw
 have HL := hide hl.1
 have HCO := hide (show ∀ x, a = some x → 0 < len → x.block < u1.heap.size from fun x e l => by have := hcw x e l; omega)
 clear hr2 hr3 hbw hl he hrb HB0 hcw hs0
 go_wp2_with fail
 refine (decl_c rb a len cap _ (unhide HL)).mono ?_
 rintro e u2 ⟨a1, a2, a3, c1, c2, c3, vs, fs, rs, rfl, s1, s2, s3, hz, lv, lf, lr, hfr, hl⟩
 have hd := DeP.of s1 s2 s3 hfr
 have HZ := hide hz
 have hs12 := hl.2.size
 clear s1 s2 s3 hz hfr HL
 have hgd := C3.new u2 (.slice a1 vs.length c1) (.slice a2 fs.length c2) (.slice a3 rs.length c3) 27
 have ka := (Below.refl _ u2).alloc (Nat.le_refl _) (Obj.cells #[.slice a1 vs.length c1, .slice a2 fs.length c2, .slice a3 rs.length c3] 27)
 have hd := hd.call ka
 have hl := hl.alloc (Obj.cells #[.slice a1 vs.length c1, .slice a2 fs.length c2, .slice a3 rs.length c3] 27)
 have hs23 : (u2.alloc (Obj.cells #[.slice a1 vs.length c1, .slice a2 fs.length c2, .slice a3 rs.length c3] 27)).heap.size = u2.heap.size + 1 := by simp
 clear ka
 go_upto_region 3 with fail
 generalize u2.alloc (Obj.cells #[.slice a1 vs.length c1, .slice a2 fs.length c2, .slice a3 rs.length c3] 27) = u3 at hgd hd hl hs23 ⊢
 have g0 := hgd.1
 have g1 := hgd.2.1
 have g2 := hgd.2.2.1
 have HD := hide hd
 have HL := hide hl
 have HGD := hide hgd
 clear hd hl hgd
 go_wp2_with fail
 refine (rstore_c rb a len cap a1 a2 a3 c1 c2 c3 vs fs rs _ (unhide HL).1 (unhide HD).1 (unhide HD).2.1 (unhide HD).2.2.1 (unhide HZ)).mono ?_
 clear g0 g1 g2
 rintro e u4 ⟨oa, ob, oc, ca, cb, cc, B1, T, n1, n2, n3, gl, is, bs, js, rfl, hst, hn, ⟨k1, k2, k3, hca⟩, hl⟩
 obtain rfl : ca = is.length := hca.trans hn.1.symm
 have HRG := hide hn.2.2.2.2
 have hl1 : is.length ≤ 5 := by rw [hn.1]; exact k1
 have hl3 : js.length ≤ 2 := by rw [hn.2.2.1]; exact k3
 have hs34 := hl.2.size
 have hT4 := hst.2.2.2.2.2
 have hB1 := hst.2.2.2.1
 have hgs := C3.new u4 (.slice oa is.length is.length) (.slice ob bs.length cb) (.slice oc js.length cc) 35
 have ka := (Below.refl _ u4).alloc (Nat.le_refl _) (Obj.cells #[.slice oa is.length is.length, .slice ob bs.length cb, .slice oc js.length cc] 35)
 have hbx : DsB w u1 rb a len cap u1.heap.size u2.heap.size u2.heap.size u4.heap.size u3.heap.size a1 a2 a3 c1 c2 c3 vs fs rs (.slice oa is.length is.length) (.slice ob bs.length cb) (.slice oc js.length cc) (u4.alloc (Obj.cells #[.slice oa is.length is.length, .slice ob bs.length cb, .slice oc js.length cc] 35)) := ⟨((unhide HL).trans hl).alloc _, ((unhide HGD).kp hl.2 (by omega)).alloc _, hgs, ((unhide HD).kp hl.2 (by omega)).call ka, hrs, Nat.le_refl _, Nat.le_refl _, by omega, hs34⟩
 have hst := hst.call ka
 have hT : T ≤ u4.heap.size := hT4
 have hbt : B1 ≤ T := hst.2.2.2.2.1
 clear hT4 hgs ka hl hn hca k1 k2 k3 HL HD HGD
 have hwn : ∀ g, Value.ownBlock (.slice oc js.length cc) = some g → B1 ≤ g ∧ g < T := fun g e => ⟨(hst.own.lt g e).1, by
   rcases hst.2.2.1 with ⟨_, e1, _⟩ | k
   ·subst e1; cases e
   ·exact k.2.2.1 g e⟩
 go_upto_region 4 with fail
 generalize u4.alloc (Obj.cells #[.slice oa is.length is.length, .slice ob bs.length cb, .slice oc js.length cc] 35) = u5 at hbx hst ⊢
 obtain ⟨gs, hgs⟩ : ∃ x, x = u4.heap.size := ⟨_, rfl⟩
 obtain ⟨B, hB⟩ : ∃ x, x = u3.heap.size := ⟨_, rfl⟩
 rw [← hgs, ← hB] at hbx
 rw [← hgs] at hT
 rw [← hB] at hst
 rw [← hgs] at ⊢
 have hBB1 : B ≤ B1 := by omega
 have hBgd : u2.heap.size < B := by omega
 have hBgs : B ≤ gs := by omega
 clear hgs hB hs34 hs23
 have HBX := hide hbx
 have HST := hide hst
 have HWN := hide hwn
 clear hbx hst hwn
 go_wp2_with fail
 refine (below_c rb a len cap 16 (by decide) _ (unhide HBX).1.1).mono ?_
 rintro e u6 ⟨x, rfl, x0, x1, x2, hl⟩
 have hst6 := (unhide HST).kp hl.2 (by omega)
 have hbx6 := (unhide HBX).kp hs12 hl
 have HBX := hide hbx6
 have HST := hide hst6
 clear x0 x1 x2 hl hst6 hbx6
 have hs6 : gs < u6.heap.size := (unhide HBX).2.2.1.lt
 by_cases e0 : x = 0
 ·have e0' : (x == 0) = true := by simpa using e0
  clear e0
  go_upto_region 6 with fail
  have q0 := (unhide HBX).2.2.1.1
  go_wp2_with (at_builtin; refine wpList_app_full _ rfl _ _ 31 rfl 2 inI (.int .i64 0) 1 8 Tryd.underlying31 hiI hzI0 hzI1 hzI2 rfl (by decide) oa is.length (cellsN is) rfl (by simp [cellsN]) ((unhide HST).call ((Below.refl _ u6).alloc (Nat.le_refl _) _)).ints.newsI ⟨_, 0, none⟩ 1 1 [.int .i64 0] rfl rfl (World.news_of_block (heap_alloc_new _ _)) (by simp [Value.oneCell']) (by decide) (by unfold maxLen; omega) (by omega) ?_; intro o9 c9 w7 hown hgrow; have hbx7 := ((unhide HBX).alloc (Obj.cells #[.int .i64 0] 2)).gr hs12 (unhide HCO) hgrow (fun j e => by cases e); have t0 := hbx7.2.2.1.1; have tf0 := hbx7.2.2.1.2.2.2 0)
  have hs67 : u6.heap.size + 1 ≤ w7.heap.size := by have := hgrow.size; simpa using this
  rw [show (u6.alloc (Obj.cells #[.int .i64 0] 2)).heap.size = u6.heap.size + 1 by simp] at hown
  have hsf7 : SF w7 B oa ob oc is bs js := (SF.of (unhide HST) (by omega)).at' (fun g q1 q2 => (hgrow.block g (by simp; omega) (by simp)).trans (heap_alloc_old _ _ q2))
  have hno := Ints.ofOwn (xs := is ++ [0]) (by rw [show cellsN (is ++ [0]) = cellsN is ++ [.int .i64 0] by simp [cellsN]]; exact hown) (by omega)
  have hsf := hsf7.setI (oa' := o9) (is' := is ++ [0]) hno.2.1 (fun x e _ => by have := hno.2.2 x e; omega)
  have hsf := hsf.ps (c := gs) (o := 0) (x := (.slice o9 (is.length + 1) c9)) hbx7.2.2.1.1 (fun x e l => by have q := (unhide HWN) x.block (by rw [e]; rfl); omega)
  have hbx := hbx7.put hs12 (unhide HCO) 0 (.slice o9 (is.length + 1) c9) (hbx7.2.2.1.set0 (.slice o9 (is.length + 1) c9))
  have HBX := hide hbx
  have HSF := hide hsf
  have HRG := hide (unhide HRG).snoc
  clear hown hgrow hsf7 hno hsf hbx7 hbx t0 tf0 q0 HST
  go_upto_region 11 with fail
  generalize w7.setCell ⟨gs, 0, none⟩ (.slice o9 (is.length + 1) c9) = uz at HBX HSF ⊢
  obtain ⟨wz, hwz⟩ : ∃ x, x = uz.drew := ⟨_, rfl⟩
  have HBX := hide (show DsB w u1 rb a len cap u1.heap.size u2.heap.size u2.heap.size gs B a1 a2 a3 c1 c2 c3 vs fs rs (.slice o9 (is.length + 1) c9) (.slice ob bs.length cb) (.slice oc js.length cc) wz by rw [hwz]; exact (unhide HBX).drew)
  have HSF := hide (show SF wz B o9 ob oc (is ++ [0]) bs js by rw [hwz]; exact unhide HSF)
  refine wp_region_held_drew (S := S6 u2.heap.size gs (.slice a1 vs.length c1) (.slice a2 fs.length c2) (.slice a3 rs.length c3) (.slice o9 (is.length + 1) c9) (.slice ob bs.length cb) (.slice oc js.length cc)) (by kernel_rfl) (by rw [← hwz]; exact S6.of (unhide HBX).2.1 (unhide HBX).2.2.1) (fun hHeld => ?_)
  rw [← hwz] at hHeld ⊢
  clear hwz
  refine tk 0 (v := ?_) rfl ?_ ?_
  rotate_left
  ·(intro w9 hSw; (try dsimp only at hSw); go_simp; try with_reducible rfl)
  try simp only [Act.put, sa, sb, sc]
  refine tk 1 (v := ?_) rfl ?_ ?_
  rotate_left
  ·(intro w9 hSw; (try dsimp only at hSw); go_simp; try with_reducible rfl)
  try simp only [Act.put, sa, sb, sc]
  refine tk 3 (v := ?_) rfl ?_ ?_
  rotate_left
  ·(intro w9 hSw; (try dsimp only at hSw); go_simp; try with_reducible rfl)
  try simp only [Act.put, sa, sb, sc]
  refine wpAnyH_ready (rs := [2]) (by kernel_rfl) (by simp) ?_
  refine AllReadyH.cons (i := 2) rfl (fun K hK => ?_) AllReadyH.nil
  go_simp
  refine (hurtDecl_c rb a len cap u1.heap.size u2.heap.size a1 a2 a3 c1 c2 c3 vs fs rs _ (unhide HBX).1.1 (unhide HBX).2.2.2.1 hrs (unhide HBX).2.2.2.1.2.2.2.2.2.2 (unhide HZ) ⟨by omega, by omega⟩).mono ?_
  rintro e v1 ⟨o1, o2, o3, d1, d2, d3, vn, fn, rn, rfl, t1, t2, t3, tz, hl⟩
  have HSF := hide ((unhide HSF).at' (v := v1) (fun g q1 q2 => hl.2.block g q2 (by omega)))
  have HBX := hide ((unhide HBX).kp hs12 hl)
  have HDN := hide (And.intro t1 (And.intro t2 (And.intro t3 tz)))
  clear t1 t2 t3 tz hl
  have hr2 := (unhide HR2).kp (unhide HBX).1.2 (by omega)
  have hr3 := (unhide HR3).kp (unhide HBX).1.2 (by omega)
  have HR2' := hide hr2
  have HR3' := hide hr3
  have r0 := hr2.1
  have r1 := hr2.2.1
  have r2 := hr2.2.2.1
  have rf0 := hr2.2.2.2 0
  have rf1 := hr2.2.2.2 1
  have rf2 := hr2.2.2.2 2
  have s0 := hr3.1
  have s1 := hr3.2.1
  have s2 := hr3.2.2.1
  have sf0 := hr3.2.2.2 0
  have sf1 := hr3.2.2.2 1
  have sf2 := hr3.2.2.2 2
  clear hr2 hr3
  have nw1 : w.heap.size ≠ w.heap.size + 1 := by omega
  refine hK.out _ _ (S6.of (unhide HBX).2.1 (unhide HBX).2.2.1) (fun hHeld => ?_)
  clear hK K
  try simp only [Act.put, sa, sb, sc]
  refine wpAnyH_ready (rs := [4]) (by kernel_rfl) (by simp) ?_
  refine AllReadyH.cons (i := 4) rfl (fun K hK => ?_) AllReadyH.nil
  go_simp
  refine hK.out _ _ (S6.set (S6.set (S6.set hHeld (by omega) (by omega) _) (by omega) (by omega) _) (by omega) (by omega) _) (fun hHeld => ?_)
  clear hK K
  try simp only [Act.put, sa, sb, sc]
  refine wpAnyH_ready (rs := [5]) (by kernel_rfl) (by simp) ?_
  refine AllReadyH.cons (i := 5) rfl (fun K hK => ?_) AllReadyH.nil
  go_simp
  refine hK.out _ _ (S6.set (S6.set (S6.set hHeld (by omega) (by omega) _) (by omega) (by omega) _) (by omega) (by omega) _) (fun hHeld => ?_)
  clear hK K
  try simp only [Act.put, sa, sb, sc]
  refine wpAnyH_done (by kernel_rfl) ?_ _
  clear hHeld
  have hF0 := FinP.of (unhide HDN).1 (unhide HDN).2.1 (unhide HDN).2.2.1 ((unhide HSF).low (l2 := w.heap.size + 2) (by omega)) ((unhide HBW).trans ((unhide HBX).1.2.below (by omega) (unhide HBW).size)) (unhide HR2') (unhide HR3')
  have hF := ((((((hF0.put w.heap.size 0 (.inl rfl) (by omega) o1 vn.length d1).put w.heap.size 1 (.inl rfl) (by omega) o2 fn.length d2).put w.heap.size 2 (.inl rfl) (by omega) o3 rn.length d3).put (w.heap.size + 1) 0 (.inr rfl) (by omega) o9 (is.length + 1) c9).put (w.heap.size + 1) 1 (.inr rfl) (by omega) ob bs.length cb).put (w.heap.size + 1) 2 (.inr rfl) (by omega) oc js.length cc)
  have HF := hide hF
  clear hF hF0
  go_wp2
  refine bodyPost_ret (v := .tuple #[.agg #[.slice o1 vn.length d1, .slice o2 fn.length d2, .slice o3 rn.length d3], .agg #[.slice o9 (is.length + 1) c9, .slice ob bs.length cb, .slice oc js.length cc]]) (by simp [results, Tryd.results64, go_sem, r0, r1, r2, s0, s1, s2]) rfl ⟨o1, o2, o3, d1, d2, d3, vn, fn, rn, o9, ob, oc, c9, cb, cc, (is ++ [0]), bs, js, by first | rfl | simp, (unhide HF).1, (unhide HF).2.1, (unhide HF).2.2.1, (unhide HDN).2.2.2, (unhide HF).2.2.2.1.low (by omega), unhide HRG, (unhide HF).2.2.2.2.1⟩
 by_cases e1 : x = 1
 ·have e0' : (x == 0) = false := by simpa using e0
  have e1' : (x == 1) = true := by simpa using e1
  clear e0
  have t1 := (unhide HBX).2.2.1.2.1
  have tf1 := (unhide HBX).2.2.1.2.2.2 1
  go_upto_region 11 with fail
  have hsf := (SF.of (unhide HST) (by omega)).noB.ps (c := gs) (o := 1) (x := .slice none 0 0) (unhide HBX).2.2.1.2.1 (fun x e l => by have q := (unhide HWN) x.block (by rw [e]; rfl); omega)
  have hbx := (unhide HBX).put hs12 (unhide HCO) 1 (.slice none 0 0) ((unhide HBX).2.2.1.set1 (.slice none 0 0))
  have HBX := hide hbx
  have HSF := hide hsf
  clear hsf hbx t1 tf1 HST
  generalize u6.setCell ⟨gs, 1, none⟩ (.slice none 0 0) = uz at HBX HSF ⊢
  obtain ⟨wz, hwz⟩ : ∃ x, x = uz.drew := ⟨_, rfl⟩
  have HBX := hide (show DsB w u1 rb a len cap u1.heap.size u2.heap.size u2.heap.size gs B a1 a2 a3 c1 c2 c3 vs fs rs (.slice oa is.length is.length) (.slice none 0 0) (.slice oc js.length cc) wz by rw [hwz]; exact (unhide HBX).drew)
  have HSF := hide (show SF wz B oa none oc is [] js by rw [hwz]; exact unhide HSF)
  refine wp_region_held_drew (S := S6 u2.heap.size gs (.slice a1 vs.length c1) (.slice a2 fs.length c2) (.slice a3 rs.length c3) (.slice oa is.length is.length) (.slice none 0 0) (.slice oc js.length cc)) (by kernel_rfl) (by rw [← hwz]; exact S6.of (unhide HBX).2.1 (unhide HBX).2.2.1) (fun hHeld => ?_)
  rw [← hwz] at hHeld ⊢
  clear hwz
  refine tk 0 (v := ?_) rfl ?_ ?_
  rotate_left
  ·(intro w9 hSw; (try dsimp only at hSw); go_simp; try with_reducible rfl)
  try simp only [Act.put, sa, sb, sc]
  refine tk 1 (v := ?_) rfl ?_ ?_
  rotate_left
  ·(intro w9 hSw; (try dsimp only at hSw); go_simp; try with_reducible rfl)
  try simp only [Act.put, sa, sb, sc]
  refine tk 3 (v := ?_) rfl ?_ ?_
  rotate_left
  ·(intro w9 hSw; (try dsimp only at hSw); go_simp; try with_reducible rfl)
  try simp only [Act.put, sa, sb, sc]
  refine wpAnyH_ready (rs := [2]) (by kernel_rfl) (by simp) ?_
  refine AllReadyH.cons (i := 2) rfl (fun K hK => ?_) AllReadyH.nil
  go_simp
  refine (hurtDecl_c rb a len cap u1.heap.size u2.heap.size a1 a2 a3 c1 c2 c3 vs fs rs _ (unhide HBX).1.1 (unhide HBX).2.2.2.1 hrs (unhide HBX).2.2.2.1.2.2.2.2.2.2 (unhide HZ) ⟨by omega, by omega⟩).mono ?_
  rintro e v1 ⟨o1, o2, o3, d1, d2, d3, vn, fn, rn, rfl, t1, t2, t3, tz, hl⟩
  have HSF := hide ((unhide HSF).at' (v := v1) (fun g q1 q2 => hl.2.block g q2 (by omega)))
  have HBX := hide ((unhide HBX).kp hs12 hl)
  have HDN := hide (And.intro t1 (And.intro t2 (And.intro t3 tz)))
  clear t1 t2 t3 tz hl
  have hr2 := (unhide HR2).kp (unhide HBX).1.2 (by omega)
  have hr3 := (unhide HR3).kp (unhide HBX).1.2 (by omega)
  have HR2' := hide hr2
  have HR3' := hide hr3
  have r0 := hr2.1
  have r1 := hr2.2.1
  have r2 := hr2.2.2.1
  have rf0 := hr2.2.2.2 0
  have rf1 := hr2.2.2.2 1
  have rf2 := hr2.2.2.2 2
  have s0 := hr3.1
  have s1 := hr3.2.1
  have s2 := hr3.2.2.1
  have sf0 := hr3.2.2.2 0
  have sf1 := hr3.2.2.2 1
  have sf2 := hr3.2.2.2 2
  clear hr2 hr3
  have nw1 : w.heap.size ≠ w.heap.size + 1 := by omega
  refine hK.out _ _ (S6.of (unhide HBX).2.1 (unhide HBX).2.2.1) (fun hHeld => ?_)
  clear hK K
  try simp only [Act.put, sa, sb, sc]
  refine wpAnyH_ready (rs := [4]) (by kernel_rfl) (by simp) ?_
  refine AllReadyH.cons (i := 4) rfl (fun K hK => ?_) AllReadyH.nil
  go_simp
  refine hK.out _ _ (S6.set (S6.set (S6.set hHeld (by omega) (by omega) _) (by omega) (by omega) _) (by omega) (by omega) _) (fun hHeld => ?_)
  clear hK K
  try simp only [Act.put, sa, sb, sc]
  refine wpAnyH_ready (rs := [5]) (by kernel_rfl) (by simp) ?_
  refine AllReadyH.cons (i := 5) rfl (fun K hK => ?_) AllReadyH.nil
  go_simp
  refine hK.out _ _ (S6.set (S6.set (S6.set hHeld (by omega) (by omega) _) (by omega) (by omega) _) (by omega) (by omega) _) (fun hHeld => ?_)
  clear hK K
  try simp only [Act.put, sa, sb, sc]
  refine wpAnyH_done (by kernel_rfl) ?_ _
  clear hHeld
  have hF0 := FinP.of (unhide HDN).1 (unhide HDN).2.1 (unhide HDN).2.2.1 ((unhide HSF).low (l2 := w.heap.size + 2) (by omega)) ((unhide HBW).trans ((unhide HBX).1.2.below (by omega) (unhide HBW).size)) (unhide HR2') (unhide HR3')
  have hF := ((((((hF0.put w.heap.size 0 (.inl rfl) (by omega) o1 vn.length d1).put w.heap.size 1 (.inl rfl) (by omega) o2 fn.length d2).put w.heap.size 2 (.inl rfl) (by omega) o3 rn.length d3).put (w.heap.size + 1) 0 (.inr rfl) (by omega) oa is.length is.length).put (w.heap.size + 1) 1 (.inr rfl) (by omega) none 0 0).put (w.heap.size + 1) 2 (.inr rfl) (by omega) oc js.length cc)
  have HF := hide hF
  clear hF hF0
  go_wp2
  refine bodyPost_ret (v := .tuple #[.agg #[.slice o1 vn.length d1, .slice o2 fn.length d2, .slice o3 rn.length d3], .agg #[.slice oa is.length is.length, .slice none 0 0, .slice oc js.length cc]]) (by simp [results, Tryd.results64, go_sem, r0, r1, r2, s0, s1, s2]) rfl ⟨o1, o2, o3, d1, d2, d3, vn, fn, rn, oa, none, oc, is.length, 0, cc, is, [], js, by first | rfl | simp, (unhide HF).1, (unhide HF).2.1, (unhide HF).2.2.1, (unhide HDN).2.2.2, (unhide HF).2.2.2.1.low (by omega), unhide HRG, (unhide HF).2.2.2.2.1⟩
 by_cases e2 : x = 2
 ·have e0' : (x == 0) = false := by simpa using e0
  have e1' : (x == 1) = false := by simpa using e1
  have e2' : (x == 2) = true := by simpa using e2
  clear e0 e1
  go_upto_region 10 with fail
  have q2 := (unhide HBX).2.2.1.2.2.1
  go_wp2_with (at_builtin; refine wpList_app_at _ rfl _ _ 33 rfl B1 31 inM (.slice none 0 0) 1 24 Tryd.underlying33 hiM hzM0 hzM1 hzM2 rfl (by decide) _ _ _ rfl ((unhide HST).call ((Below.refl _ u6).alloc (Nat.le_refl _) _)).own ⟨_, 0, none⟩ 1 1 [.slice none 0 0] rfl rfl (World.news_of_block (heap_alloc_new _ _)) (by simp [Value.oneCell']) (by unfold maxLen; omega) (by omega) (by simp; omega) ?_; intro o9 c9 w7 hown hgrow hat; have hbx7 := ((unhide HBX).alloc (Obj.cells #[.slice none 0 0] 31)).gr hs12 (unhide HCO) hgrow (fun j e => by have e2 : Value.ownBlock (.slice oc js.length cc) = some j := e; have := (unhide HWN) j e2; omega); have t2 := hbx7.2.2.1.2.2.1; have tf2 := hbx7.2.2.1.2.2.2 2)
  have hsf7 := SF.snocJ ((unhide HST).call ((Below.refl _ u6).alloc (Nat.le_refl _) (Obj.cells #[.slice none 0 0] 31))) (by omega) hown hgrow
  have hne : ∀ x, o9 = some x → 0 < (js ++ [[]]).length → x.block ≠ gs := by
   intro x e l
   rcases hat with q | q
   ·have q2 := (unhide HWN) x.block (q.symm.trans (by rw [e]; rfl))
    omega
   ·rw [e] at q
    have q3 : x.block = (u6.alloc (Obj.cells #[.slice none 0 0] 31)).heap.size := by simpa [Value.ownBlock] using q
    simp at q3
    omega
  have hsf := hsf7.ps (c := gs) (o := 2) (x := (.slice o9 (js.length + 1) c9)) hbx7.2.2.1.2.2.1 hne
  have hbx := hbx7.put hs12 (unhide HCO) 2 (.slice o9 (js.length + 1) c9) (hbx7.2.2.1.set2 (.slice o9 (js.length + 1) c9))
  have HBX := hide hbx
  have HSF := hide hsf
  have HRG := hide (unhide HRG).snocJ
  clear hown hgrow hat hne hsf7 hsf hbx7 hbx t2 tf2 q2 HST
  go_upto_region 11 with fail
  generalize w7.setCell ⟨gs, 2, none⟩ (.slice o9 (js.length + 1) c9) = uz at HBX HSF ⊢
  obtain ⟨wz, hwz⟩ : ∃ x, x = uz.drew := ⟨_, rfl⟩
  have HBX := hide (show DsB w u1 rb a len cap u1.heap.size u2.heap.size u2.heap.size gs B a1 a2 a3 c1 c2 c3 vs fs rs (.slice oa is.length is.length) (.slice ob bs.length cb) (.slice o9 (js.length + 1) c9) wz by rw [hwz]; exact (unhide HBX).drew)
  have HSF := hide (show SF wz B oa ob o9 is bs (js ++ [[]]) by rw [hwz]; exact unhide HSF)
  refine wp_region_held_drew (S := S6 u2.heap.size gs (.slice a1 vs.length c1) (.slice a2 fs.length c2) (.slice a3 rs.length c3) (.slice oa is.length is.length) (.slice ob bs.length cb) (.slice o9 (js.length + 1) c9)) (by kernel_rfl) (by rw [← hwz]; exact S6.of (unhide HBX).2.1 (unhide HBX).2.2.1) (fun hHeld => ?_)
  rw [← hwz] at hHeld ⊢
  clear hwz
  refine tk 0 (v := ?_) rfl ?_ ?_
  rotate_left
  ·(intro w9 hSw; (try dsimp only at hSw); go_simp; try with_reducible rfl)
  try simp only [Act.put, sa, sb, sc]
  refine tk 1 (v := ?_) rfl ?_ ?_
  rotate_left
  ·(intro w9 hSw; (try dsimp only at hSw); go_simp; try with_reducible rfl)
  try simp only [Act.put, sa, sb, sc]
  refine tk 3 (v := ?_) rfl ?_ ?_
  rotate_left
  ·(intro w9 hSw; (try dsimp only at hSw); go_simp; try with_reducible rfl)
  try simp only [Act.put, sa, sb, sc]
  refine wpAnyH_ready (rs := [2]) (by kernel_rfl) (by simp) ?_
  refine AllReadyH.cons (i := 2) rfl (fun K hK => ?_) AllReadyH.nil
  go_simp
  refine (hurtDecl_c rb a len cap u1.heap.size u2.heap.size a1 a2 a3 c1 c2 c3 vs fs rs _ (unhide HBX).1.1 (unhide HBX).2.2.2.1 hrs (unhide HBX).2.2.2.1.2.2.2.2.2.2 (unhide HZ) ⟨by omega, by omega⟩).mono ?_
  rintro e v1 ⟨o1, o2, o3, d1, d2, d3, vn, fn, rn, rfl, t1, t2, t3, tz, hl⟩
  have HSF := hide ((unhide HSF).at' (v := v1) (fun g q1 q2 => hl.2.block g q2 (by omega)))
  have HBX := hide ((unhide HBX).kp hs12 hl)
  have HDN := hide (And.intro t1 (And.intro t2 (And.intro t3 tz)))
  clear t1 t2 t3 tz hl
  have hr2 := (unhide HR2).kp (unhide HBX).1.2 (by omega)
  have hr3 := (unhide HR3).kp (unhide HBX).1.2 (by omega)
  have HR2' := hide hr2
  have HR3' := hide hr3
  have r0 := hr2.1
  have r1 := hr2.2.1
  have r2 := hr2.2.2.1
  have rf0 := hr2.2.2.2 0
  have rf1 := hr2.2.2.2 1
  have rf2 := hr2.2.2.2 2
  have s0 := hr3.1
  have s1 := hr3.2.1
  have s2 := hr3.2.2.1
  have sf0 := hr3.2.2.2 0
  have sf1 := hr3.2.2.2 1
  have sf2 := hr3.2.2.2 2
  clear hr2 hr3
  have nw1 : w.heap.size ≠ w.heap.size + 1 := by omega
  refine hK.out _ _ (S6.of (unhide HBX).2.1 (unhide HBX).2.2.1) (fun hHeld => ?_)
  clear hK K
  try simp only [Act.put, sa, sb, sc]
  refine wpAnyH_ready (rs := [4]) (by kernel_rfl) (by simp) ?_
  refine AllReadyH.cons (i := 4) rfl (fun K hK => ?_) AllReadyH.nil
  go_simp
  refine hK.out _ _ (S6.set (S6.set (S6.set hHeld (by omega) (by omega) _) (by omega) (by omega) _) (by omega) (by omega) _) (fun hHeld => ?_)
  clear hK K
  try simp only [Act.put, sa, sb, sc]
  refine wpAnyH_ready (rs := [5]) (by kernel_rfl) (by simp) ?_
  refine AllReadyH.cons (i := 5) rfl (fun K hK => ?_) AllReadyH.nil
  go_simp
  refine hK.out _ _ (S6.set (S6.set (S6.set hHeld (by omega) (by omega) _) (by omega) (by omega) _) (by omega) (by omega) _) (fun hHeld => ?_)
  clear hK K
  try simp only [Act.put, sa, sb, sc]
  refine wpAnyH_done (by kernel_rfl) ?_ _
  clear hHeld
  have hF0 := FinP.of (unhide HDN).1 (unhide HDN).2.1 (unhide HDN).2.2.1 ((unhide HSF).low (l2 := w.heap.size + 2) (by omega)) ((unhide HBW).trans ((unhide HBX).1.2.below (by omega) (unhide HBW).size)) (unhide HR2') (unhide HR3')
  have hF := ((((((hF0.put w.heap.size 0 (.inl rfl) (by omega) o1 vn.length d1).put w.heap.size 1 (.inl rfl) (by omega) o2 fn.length d2).put w.heap.size 2 (.inl rfl) (by omega) o3 rn.length d3).put (w.heap.size + 1) 0 (.inr rfl) (by omega) oa is.length is.length).put (w.heap.size + 1) 1 (.inr rfl) (by omega) ob bs.length cb).put (w.heap.size + 1) 2 (.inr rfl) (by omega) o9 (js.length + 1) c9)
  have HF := hide hF
  clear hF hF0
  go_wp2
  refine bodyPost_ret (v := .tuple #[.agg #[.slice o1 vn.length d1, .slice o2 fn.length d2, .slice o3 rn.length d3], .agg #[.slice oa is.length is.length, .slice ob bs.length cb, .slice o9 (js.length + 1) c9]]) (by simp [results, Tryd.results64, go_sem, r0, r1, r2, s0, s1, s2]) rfl ⟨o1, o2, o3, d1, d2, d3, vn, fn, rn, oa, ob, o9, is.length, cb, c9, is, bs, (js ++ [[]]), by first | rfl | simp, (unhide HF).1, (unhide HF).2.1, (unhide HF).2.2.1, (unhide HDN).2.2.2, (unhide HF).2.2.2.1.low (by omega), unhide HRG, (unhide HF).2.2.2.2.1⟩
 ·have e0' : (x == 0) = false := by simpa using e0
  have e1' : (x == 1) = false := by simpa using e1
  have e2' : (x == 2) = false := by simpa using e2
  clear e0 e1 e2
  go_upto_region 11 with fail
  have HSF := hide (SF.of (unhide HST) (by omega))
  clear HST
  generalize u6 = uz at HBX HSF ⊢
  obtain ⟨wz, hwz⟩ : ∃ x, x = uz.drew := ⟨_, rfl⟩
  have HBX := hide (show DsB w u1 rb a len cap u1.heap.size u2.heap.size u2.heap.size gs B a1 a2 a3 c1 c2 c3 vs fs rs (.slice oa is.length is.length) (.slice ob bs.length cb) (.slice oc js.length cc) wz by rw [hwz]; exact (unhide HBX).drew)
  have HSF := hide (show SF wz B oa ob oc is bs js by rw [hwz]; exact unhide HSF)
  refine wp_region_held_drew (S := S6 u2.heap.size gs (.slice a1 vs.length c1) (.slice a2 fs.length c2) (.slice a3 rs.length c3) (.slice oa is.length is.length) (.slice ob bs.length cb) (.slice oc js.length cc)) (by kernel_rfl) (by rw [← hwz]; exact S6.of (unhide HBX).2.1 (unhide HBX).2.2.1) (fun hHeld => ?_)
  rw [← hwz] at hHeld ⊢
  clear hwz
  refine tk 0 (v := ?_) rfl ?_ ?_
  rotate_left
  ·(intro w9 hSw; (try dsimp only at hSw); go_simp; try with_reducible rfl)
  try simp only [Act.put, sa, sb, sc]
  refine tk 1 (v := ?_) rfl ?_ ?_
  rotate_left
  ·(intro w9 hSw; (try dsimp only at hSw); go_simp; try with_reducible rfl)
  try simp only [Act.put, sa, sb, sc]
  refine tk 3 (v := ?_) rfl ?_ ?_
  rotate_left
  ·(intro w9 hSw; (try dsimp only at hSw); go_simp; try with_reducible rfl)
  try simp only [Act.put, sa, sb, sc]
  refine wpAnyH_ready (rs := [2]) (by kernel_rfl) (by simp) ?_
  refine AllReadyH.cons (i := 2) rfl (fun K hK => ?_) AllReadyH.nil
  go_simp
  refine (hurtDecl_c rb a len cap u1.heap.size u2.heap.size a1 a2 a3 c1 c2 c3 vs fs rs _ (unhide HBX).1.1 (unhide HBX).2.2.2.1 hrs (unhide HBX).2.2.2.1.2.2.2.2.2.2 (unhide HZ) ⟨by omega, by omega⟩).mono ?_
  rintro e v1 ⟨o1, o2, o3, d1, d2, d3, vn, fn, rn, rfl, t1, t2, t3, tz, hl⟩
  have HSF := hide ((unhide HSF).at' (v := v1) (fun g q1 q2 => hl.2.block g q2 (by omega)))
  have HBX := hide ((unhide HBX).kp hs12 hl)
  have HDN := hide (And.intro t1 (And.intro t2 (And.intro t3 tz)))
  clear t1 t2 t3 tz hl
  have hr2 := (unhide HR2).kp (unhide HBX).1.2 (by omega)
  have hr3 := (unhide HR3).kp (unhide HBX).1.2 (by omega)
  have HR2' := hide hr2
  have HR3' := hide hr3
  have r0 := hr2.1
  have r1 := hr2.2.1
  have r2 := hr2.2.2.1
  have rf0 := hr2.2.2.2 0
  have rf1 := hr2.2.2.2 1
  have rf2 := hr2.2.2.2 2
  have s0 := hr3.1
  have s1 := hr3.2.1
  have s2 := hr3.2.2.1
  have sf0 := hr3.2.2.2 0
  have sf1 := hr3.2.2.2 1
  have sf2 := hr3.2.2.2 2
  clear hr2 hr3
  have nw1 : w.heap.size ≠ w.heap.size + 1 := by omega
  refine hK.out _ _ (S6.of (unhide HBX).2.1 (unhide HBX).2.2.1) (fun hHeld => ?_)
  clear hK K
  try simp only [Act.put, sa, sb, sc]
  refine wpAnyH_ready (rs := [4]) (by kernel_rfl) (by simp) ?_
  refine AllReadyH.cons (i := 4) rfl (fun K hK => ?_) AllReadyH.nil
  go_simp
  refine hK.out _ _ (S6.set (S6.set (S6.set hHeld (by omega) (by omega) _) (by omega) (by omega) _) (by omega) (by omega) _) (fun hHeld => ?_)
  clear hK K
  try simp only [Act.put, sa, sb, sc]
  refine wpAnyH_ready (rs := [5]) (by kernel_rfl) (by simp) ?_
  refine AllReadyH.cons (i := 5) rfl (fun K hK => ?_) AllReadyH.nil
  go_simp
  refine hK.out _ _ (S6.set (S6.set (S6.set hHeld (by omega) (by omega) _) (by omega) (by omega) _) (by omega) (by omega) _) (fun hHeld => ?_)
  clear hK K
  try simp only [Act.put, sa, sb, sc]
  refine wpAnyH_done (by kernel_rfl) ?_ _
  clear hHeld
  have hF0 := FinP.of (unhide HDN).1 (unhide HDN).2.1 (unhide HDN).2.2.1 ((unhide HSF).low (l2 := w.heap.size + 2) (by omega)) ((unhide HBW).trans ((unhide HBX).1.2.below (by omega) (unhide HBW).size)) (unhide HR2') (unhide HR3')
  have hF := ((((((hF0.put w.heap.size 0 (.inl rfl) (by omega) o1 vn.length d1).put w.heap.size 1 (.inl rfl) (by omega) o2 fn.length d2).put w.heap.size 2 (.inl rfl) (by omega) o3 rn.length d3).put (w.heap.size + 1) 0 (.inr rfl) (by omega) oa is.length is.length).put (w.heap.size + 1) 1 (.inr rfl) (by omega) ob bs.length cb).put (w.heap.size + 1) 2 (.inr rfl) (by omega) oc js.length cc)
  have HF := hide hF
  clear hF hF0
  go_wp2
  refine bodyPost_ret (v := .tuple #[.agg #[.slice o1 vn.length d1, .slice o2 fn.length d2, .slice o3 rn.length d3], .agg #[.slice oa is.length is.length, .slice ob bs.length cb, .slice oc js.length cc]]) (by simp [results, Tryd.results64, go_sem, r0, r1, r2, s0, s1, s2]) rfl ⟨o1, o2, o3, d1, d2, d3, vn, fn, rn, oa, ob, oc, is.length, cb, cc, is, bs, js, by first | rfl | simp, (unhide HF).1, (unhide HF).2.1, (unhide HF).2.2.1, (unhide HDN).2.2.2, (unhide HF).2.2.2.1.low (by omega), unhide HRG, (unhide HF).2.2.2.2.1⟩
set_option maxHeartbeats 4000000 in
theorem DrawStoreText_c (a : Option Addr) (len cap : Nat) (w : World) (h : Code w a len) : Calls Tryd.prog 24 #[.slice a len cap] w (StQ w) := by
 have HC := hide h
 clear h
 go_enter Tryd.func24, Tryd.ntmps24
 go_wp2_with fail
 have b0 := B2.new w (.slice none 0 0) (.slice none 0 0) (.slice none 0 0) (.slice none 0 0) (.slice none 0 0) (.slice none 0 0) 27 35
 have hs0 : w.heap.size + 2 ≤ ((w.alloc (Obj.cells #[.slice none 0 0, .slice none 0 0, .slice none 0 0] 27)).alloc (Obj.cells #[.slice none 0 0, .slice none 0 0, .slice none 0 0] 35)).heap.size := by simp
 generalize (w.alloc (Obj.cells #[.slice none 0 0, .slice none 0 0, .slice none 0 0] 27)).alloc (Obj.cells #[.slice none 0 0, .slice none 0 0, .slice none 0 0] 35) = u0 at b0 hs0 ⊢
 refine (DrawStoreOk_c a len cap u0 ((unhide HC).below b0.2.2)).mono ?_
 rintro e v1 ⟨o1, o2, o3, d1, d2, d3, vn, fn, rn, oa, ob, oc, ca, cb, cc, is, bs, js, rfl, t1, t2, t3, tz, tf, tg, kb⟩
 have hr2 := b0.1.call kb
 have hr3 := b0.2.1.call kb
 have r0 := hr2.1
 have r1 := hr2.2.1
 have r2 := hr2.2.2.1
 have rf0 := hr2.2.2.2 0
 have rf1 := hr2.2.2.2 1
 have rf2 := hr2.2.2.2 2
 have s0 := hr3.1
 have s1 := hr3.2.1
 have s2 := hr3.2.2.1
 have sf0 := hr3.2.2.2 0
 have sf1 := hr3.2.2.2 1
 have sf2 := hr3.2.2.2 2
 have nw1 : w.heap.size ≠ w.heap.size + 1 := by omega
 have hF0 := FinP.of t1 t2 t3 (tf.low (l2 := w.heap.size + 2) hs0) (b0.2.2.trans (kb.mono b0.2.2.size)) hr2 hr3
 have hF := ((((((hF0.put w.heap.size 0 (.inl rfl) (by omega) o1 vn.length d1).put w.heap.size 1 (.inl rfl) (by omega) o2 fn.length d2).put w.heap.size 2 (.inl rfl) (by omega) o3 rn.length d3).put (w.heap.size + 1) 0 (.inr rfl) (by omega) oa is.length ca).put (w.heap.size + 1) 1 (.inr rfl) (by omega) ob bs.length cb).put (w.heap.size + 1) 2 (.inr rfl) (by omega) oc js.length cc)
 have HF := hide hF
 have HZ := hide tz
 have HRG := hide tg
 clear hF hF0 hr2 hr3 t1 t2 t3 tz tf tg kb b0
 go_wp2
 refine bodyPost_ret (v := .tuple #[.agg #[.slice o1 vn.length d1, .slice o2 fn.length d2, .slice o3 rn.length d3], .agg #[.slice oa is.length ca, .slice ob bs.length cb, .slice oc js.length cc]]) (by simp [results, Tryd.results24, go_sem, r0, r1, r2, s0, s1, s2]) rfl ⟨o1, o2, o3, d1, d2, d3, vn, fn, rn, oa, ob, oc, ca, cb, cc, is, bs, js, rfl, (unhide HF).1, (unhide HF).2.1, (unhide HF).2.2.1, unhide HZ, (unhide HF).2.2.2.1.low (by omega), unhide HRG, (unhide HF).2.2.2.2.1⟩
end Go.Proofs.YtpdnnpnclgcpoaaDoor
