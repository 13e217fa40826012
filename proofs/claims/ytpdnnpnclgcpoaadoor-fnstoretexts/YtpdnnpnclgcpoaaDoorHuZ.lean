/- Texts that go together: HudC, StyC. -/
import Derived.Test.YtpdnnpnclgcpoaaDoorRiZ
import Derived.Test.YtpdnnpnclgcpoaaDoorOffC
import Derived.Test.YtpdnnpnclgcpoaaDoorDrwG
import Derived.ArgAppend
/- A declaration, hurt. -/
namespace Go.Proofs.YtpdnnpnclgcpoaaDoor
open Go.RowKit Go.Iv
set_option linter.unusedSimpArgs false
set_option linter.unusedVariables false

def cellsA (l : List (ByteArray × Int)) : List Value := l.flatMap fun p => [.string p.1, .int .i64 p.2]
theorem cellsA_len (l : List (ByteArray × Int)) : (cellsA l).length = l.length * 2 := by
 induction l with
 | nil => rfl
 | cons p l ih => show (cellsA l).length + 2 = _; rw [ih, List.length_cons]; omega
theorem cellsA_one (l : List (ByteArray × Int)) : ∀ u ∈ cellsA l, u.oneCell' = true := by
 intro u hu
 obtain ⟨x, _, hx⟩ := List.mem_flatMap.1 hu
 simp at hx
 rcases hx with rfl | rfl <;> rfl
theorem cellsA_app (l m : List (ByteArray × Int)) : cellsA (l ++ m) = cellsA l ++ cellsA m := by simp [cellsA]
theorem cellsA_at (l : List (ByteArray × Int)) : ∀ i, (h : i < l.length) → (cellsA l)[i * 2]? = some (.string l[i].1) ∧ (cellsA l)[i * 2 + 1]? = some (.int .i64 l[i].2) := by
 induction l with
 | nil => intro i h; cases h
 | cons p l ih =>
  intro i h
  have e : cellsA (p :: l) = .string p.1 :: .int .i64 p.2 :: cellsA l := rfl
  rw [e]
  cases i with
  | zero => exact ⟨rfl, rfl⟩
  | succ i =>
   have k := ih i (by simpa using h)
   rw [show (i + 1) * 2 = i * 2 + 1 + 1 by omega]
   exact k
theorem Arrs.news {w : World} {a : Option Addr} {xs : List (ByteArray × Int)} (h : Arrs w a xs) : NewsO w a (cellsA xs) := by
 rcases h.2 with h0 | ⟨cb, co, rfl, hc⟩
 ·exact .inl (List.eq_nil_of_length_eq_zero (by rw [cellsA_len]; omega))
 refine .inr ⟨_, rfl, fun j u hu => ?_⟩
 have hadd : (⟨cb, co, none⟩ : Addr).add j = ⟨cb, co + j, none⟩ := by unfold Addr.add; split <;> simp_all
 rw [hadd]
 have hj : j < (cellsA xs).length := (List.getElem?_eq_some_iff.1 hu).1
 rw [cellsA_len] at hj
 have hi : j / 2 < xs.length := by omega
 have c := hc (j / 2) hi
 have d := cellsA_at xs (j / 2) hi
 by_cases q : j % 2 = 0
 ·have ej : j / 2 * 2 = j := by omega
  rw [ej] at c d
  rw [c.1]
  rw [d.1] at hu
  exact hu
 ·have ej : j / 2 * 2 + 1 = j := by omega
  have ej2 : co + j / 2 * 2 + 1 = co + j := by omega
  rw [ej2] at c
  rw [ej] at d
  rw [c.2]
  rw [d.2] at hu
  exact hu
theorem Arrs.ofOwn {w : World} {base : Nat} {oa : Option Addr} {n cap : Nat} {xs : List (ByteArray × Int)} (h : w.ownsRow base 95 2 (.slice oa n cap) n (cellsA xs)) (hl : n ≤ 1048576) : n = xs.length ∧ Arrs w oa xs := by
 have hn : n = xs.length := by have := h.1; rw [cellsA_len] at this; omega
 refine ⟨hn, by omega, ?_⟩
 rcases h.2 with ⟨_, h1⟩ | ⟨g, cap', cur, hv, _⟩
 ·exact .inl (by omega)
 ·cases hv
  refine .inr ⟨g, 0, rfl, fun i hi => ?_⟩
  have d := cellsA_at xs i hi
  have hadd : ∀ j, (⟨g, 0, none⟩ : Addr).add j = ⟨g, j, none⟩ := fun j => by unfold Addr.add; split <;> simp_all
  have k1 := h.cells (g := g) rfl (i * 2) _ d.1
  have k2 := h.cells (g := g) rfl (i * 2 + 1) _ d.2
  rw [hadd] at k1 k2
  rw [Nat.zero_add]
  exact ⟨k1, k2⟩
theorem rowA (w : World) (base : Nat) (h : base ≤ w.heap.size) : (w.alloc (Obj.cells #[] 95)).ownsRow base 95 2 (.slice (some ⟨w.heap.size, 0, none⟩) 0 0) 0 [] :=
 ⟨rfl, .inr ⟨w.heap.size, 0, #[], rfl, h, heap_alloc_new _ _, by simp⟩⟩
theorem arrInfoH : (Tryd.prog.info? 95).map (fun i => (i.zero, i.size, i.bytes)) = some (some (.agg #[.string ⟨#[]⟩, .int .i64 0]), 2, 24) := by kernel_rfl
/-- Six words in a block. -/
def Six (u : World) (g : Nat) (ws : List ByteArray) : Prop := ∀ k, (h : k < ws.length) → u.cell? ⟨g, k, none⟩ = some (.string ws[k])
theorem Six.new (u : World) (a b c d e f : ByteArray) : Six (u.alloc (Obj.cells #[.string a, .string b, .string c, .string d, .string e, .string f] 9)) u.heap.size [a, b, c, d, e, f] := by
 intro k h
 unfold World.cell?
 rw [heap_alloc_new]
 have hk : k < 6 := h
 rcases (show k = 0 ∨ k = 1 ∨ k = 2 ∨ k = 3 ∨ k = 4 ∨ k = 5 by omega) with rfl | rfl | rfl | rfl | rfl | rfl <;> rfl
theorem Six.at {u v : World} {g : Nat} {ws : List ByteArray} (h : Six u g ws) (hb : v.heap[g]? = u.heap[g]?) : Six v g ws := fun k hk => (World.cell?_of_block (w := u) hb).trans (h k hk)
/-- A declaration of the call's own, or a part of what was there. -/
def HdR (b : Nat) (a : Option Addr) (len cap : Nat) (w : World) (e : Ending) (w' : World) : Prop := ∃ (o1 o2 o3 : Option Addr) (d1 d2 d3 : Nat) (ws gs : List ByteArray) (ts : List (ByteArray × Int)),
 e = .returned (.agg #[.slice o1 ws.length d1, .slice o2 gs.length d2, .slice o3 ts.length d3]) ∧ Strs w' o1 ws ∧ Strs w' o2 gs ∧ Arrs w' o3 ts ∧ (∀ x ∈ namesOf ws gs ts, x.size ≤ 1048576) ∧ Left b a len cap w w'
/-- The two boxes beside the reader. -/
def HuB (w0 : World) (b : Nat) (a : Option Addr) (len cap lo hi : Nat) (a1 a2 a3 : Option Addr) (x0 y0 z0 : Value) (vs fs : List ByteArray) (rs : List (ByteArray × Int)) (u : World) : Prop :=
 C3 u w0.heap.size x0 y0 z0 ∧ C3 u (w0.heap.size + 1) (.slice none 0 0) (.slice none 0 0) (.slice none 0 0) ∧ DeP u lo hi a1 a2 a3 vs fs rs ∧ Left b a len cap w0 u
theorem HuB.call {w0 u v : World} {b len cap lo hi : Nat} {a a1 a2 a3 : Option Addr} {x0 y0 z0 : Value} {vs fs : List ByteArray} {rs : List (ByteArray × Int)} (h : HuB w0 b a len cap lo hi a1 a2 a3 x0 y0 z0 vs fs rs u) (k : Below u.heap.size u v) : HuB w0 b a len cap lo hi a1 a2 a3 x0 y0 z0 vs fs rs v :=
 ⟨h.1.call k, h.2.1.call k, h.2.2.1.call k, h.2.2.2.callR k⟩
theorem HuB.kp {w0 u v : World} {b len cap lo hi : Nat} {a a1 a2 a3 : Option Addr} {x0 y0 z0 : Value} {vs fs : List ByteArray} {rs : List (ByteArray × Int)} (h : HuB w0 b a len cap lo hi a1 a2 a3 x0 y0 z0 vs fs rs u) (k : Left b a len cap u v) (hb : b < w0.heap.size) (hlo : b < lo) : HuB w0 b a len cap lo hi a1 a2 a3 x0 y0 z0 vs fs rs v :=
 ⟨h.1.kp k.2 (by omega), h.2.1.kp k.2 (by omega), h.2.2.1.kp k.2 hlo, h.2.2.2.trans k⟩
theorem hfar {w : World} {B c : Nat} {e : TypeId} {k : Nat} {v : Value} {n : Nat} {xs : List Value} (h : w.ownsRow B e k v n xs) (hc : c < B) : v.ownBlock ≠ some c := fun q => by have := (h.lt c q).1; omega
theorem names_snoc {vs fs : List ByteArray} {rs : List (ByteArray × Int)} {s z : ByteArray} (h : z ∈ namesOf (vs ++ [s]) fs rs) : z ∈ namesOf vs fs rs ∨ z = s := by
 unfold namesOf at h ⊢
 simp only [List.mem_append, List.mem_singleton] at h ⊢
 rcases h with ((h | h) | h) | h
 ·exact .inl (.inl (.inl h))
 ·exact .inr h
 ·exact .inl (.inl (.inr h))
 ·exact .inl (.inr h)
theorem names_snocR {vs fs : List ByteArray} {rs : List (ByteArray × Int)} {s z : ByteArray} {n : Int} (h : z ∈ namesOf vs fs (rs ++ [(s, n)])) : z ∈ namesOf vs fs rs ∨ z = s := by
 unfold namesOf at h ⊢
 simp only [List.map_append, List.map_cons, List.map_nil, List.mem_append, List.mem_singleton] at h ⊢
 rcases h with (h | h) | (h | h)
 ·exact .inl (.inl (.inl h))
 ·exact .inl (.inl (.inr h))
 ·exact .inl (.inr h)
 ·exact .inr h
theorem names_new {vs us fs : List ByteArray} {rs : List (ByteArray × Int)} {z : ByteArray} (h : z ∈ namesOf us fs rs) : z ∈ us ∨ z ∈ namesOf vs fs rs := by
 unfold namesOf at h ⊢
 simp only [List.mem_append] at h ⊢
 rcases h with (h | h) | h
 ·exact .inl h
 ·exact .inr (.inl (.inr h))
 ·exact .inr (.inr h)
theorem six_small (z : ByteArray) (h : z ∈ [⟨#[112]⟩, ⟨#[113]⟩, ⟨#[114]⟩, ⟨#[115]⟩, ⟨#[116]⟩, ⟨#[117]⟩]) : z.size ≤ 1 := by
 simp only [List.mem_cons, List.not_mem_nil, or_false] at h
 rcases h with rfl | rfl | rfl | rfl | rfl | rfl <;> decide
theorem five_six {z : ByteArray} (h : z ∈ [(⟨#[112]⟩ : ByteArray), ⟨#[113]⟩, ⟨#[114]⟩, ⟨#[115]⟩, ⟨#[116]⟩]) : z ∈ [(⟨#[112]⟩ : ByteArray), ⟨#[113]⟩, ⟨#[114]⟩, ⟨#[115]⟩, ⟨#[116]⟩, ⟨#[117]⟩] := by
 rw [show [(⟨#[112]⟩ : ByteArray), ⟨#[113]⟩, ⟨#[114]⟩, ⟨#[115]⟩, ⟨#[116]⟩, ⟨#[117]⟩] = [⟨#[112]⟩, ⟨#[113]⟩, ⟨#[114]⟩, ⟨#[115]⟩, ⟨#[116]⟩] ++ [⟨#[117]⟩] from rfl]
 exact List.mem_append.2 (.inl h)
theorem Six.set {u : World} {g c o : Nat} {ws : List ByteArray} (h : Six u g ws) (hc : c ≠ g) (x : Value) : Six (u.setCell ⟨c, o, none⟩ x) g ws := fun k hk => (World.cell?_setCell_other _ _ _ _ (fun e => hc (congrArg Addr.block e))).trans (h k hk)
theorem Six.strs {u : World} {g : Nat} {ws us : List ByteArray} (h : Six u g ws) (n : Nat) (hn : us = ws.take n) (hl : ws.length ≤ 1048576) : Strs u (some ⟨g, 0, none⟩) us := by
 subst hn
 refine ⟨by rw [List.length_take]; omega, .inr ⟨g, 0, rfl, fun i hi => ?_⟩⟩
 have hi2 : i < ws.length := by rw [List.length_take] at hi; omega
 rw [Nat.zero_add, List.getElem_take]
 exact h i hi2
theorem C3.to {u v : World} {b B : Nat} {x y z : Value} (h : C3 u b x y z) (hb : Below B u v) (k : b < B) : C3 v b x y z :=
 ⟨(hb.cell (by exact k)).trans h.1, (hb.cell (by exact k)).trans h.2.1, (hb.cell (by exact k)).trans h.2.2.1, fun o => (hb.frozen (by exact k)).trans (h.2.2.2 o)⟩
theorem Code.low {B : Nat} {w w' : World} {a : Option Addr} {len : Nat} (h : Code w a len) (k : Below B w w') (hc : ∀ x, a = some x → 0 < len → x.block < B) : Code w' a len := by
 refine ⟨h.1, ?_⟩
 rcases h.2 with h0 | ⟨cb, co, ha, hcc⟩
 ·exact .inl h0
 ·refine .inr ⟨cb, co, ha, fun i hi => ?_⟩
  obtain ⟨z, hz, h1⟩ := hcc i hi
  exact ⟨z, (k.cell (show cb < B from hc _ ha (by omega))).trans hz, h1⟩
theorem Left.low {u w v : World} {b len cap B : Nat} {a : Option Addr} (h : Left b a len cap u w) (k : Below B w v) (hb : b < B) (hu : u.heap.size ≤ B) (hc : ∀ x, a = some x → 0 < len → x.block < B) : Left b a len cap u v := by
 obtain ⟨⟨⟨p, hp, hh⟩, hcd, hn⟩, q⟩ := h
 exact ⟨⟨⟨p, hp, (k.block b hb).trans hh⟩, hcd.low k hc, hn⟩, ⟨k.os.trans q.os, k.tape.trans q.tape, k.output.trans q.output, Nat.le_trans q.size k.size, fun i hi hne => (k.block i (by omega)).trans (q.block i hi hne)⟩⟩
/-- Behind an append onto a row of the call's own. -/
theorem HuB.ap {w0 u1 u v : World} {b len cap lo hi : Nat} {a a1 a2 a3 : Option Addr} {x0 y0 z0 : Value} {vs fs : List ByteArray} {rs : List (ByteArray × Int)} {e : TypeId} {k n : Nat} {r : Value} {xs : List Value} {ob : Obj} (h : HuB w0 b a len cap lo hi a1 a2 a3 x0 y0 z0 vs fs rs u) (ho : (u.alloc ob).ownsRow u1.heap.size e k r n xs) (hg : (u.alloc ob).grownBy v r.ownBlock) (h1 : w0.heap.size < u1.heap.size) (h2 : hi ≤ u1.heap.size) (h3 : w0.heap.size + 1 < u1.heap.size) (h4 : b < u1.heap.size) (hcode : ∀ x, a = some x → 0 < len → x.block < w0.heap.size) (h5 : u1.heap.size ≤ u.heap.size) : HuB w0 b a len cap lo hi a1 a2 a3 x0 y0 z0 vs fs rs v := by
 have kb : Below u1.heap.size u v := ((Below.refl _ u).alloc h5 ob).grown hg (by simp; omega) (fun j hj => (ho.lt j hj).1)
 exact ⟨h.1.to kb h1, h.2.1.to kb h3, h.2.2.1.at' (fun g _ hg => kb.block g (by omega)) kb.size, h.2.2.2.low kb h4 (by omega) (fun x e l => by have := hcode x e l; omega)⟩
set_option maxRecDepth 20000 in
set_option maxHeartbeats 16000000 in
theorem hurtDecl_c (b : Nat) (a : Option Addr) (len cap lo hi : Nat) (a1 a2 a3 : Option Addr) (c1 c2 c3 : Nat) (vs fs : List ByteArray) (rs : List (ByteArray × Int)) (w : World) (h : Rdr w b a len cap) (hd : DeP w lo hi a1 a2 a3 vs fs rs) (hlo : b < lo) (hhi : hi ≤ w.heap.size)
  (hz : ∀ x ∈ namesOf vs fs rs, x.size ≤ 1048576) (hl5 : vs.length ≤ 1000 ∧ rs.length ≤ 1000) :
  Calls Tryd.prog 105 #[.pointer (some ⟨b, 0, none⟩), .agg #[.slice a1 vs.length c1, .slice a2 fs.length c2, .slice a3 rs.length c3]] w (HdR b a len cap w) := by
 have hbw : b < w.heap.size := h.lt
 have HCO := hide h.2.1.lt
 have HZ := hide hz
 have hl0 := ((Left.refl h).alloc (Obj.cells #[.slice a1 vs.length c1, .slice a2 fs.length c2, .slice a3 rs.length c3] 27)).alloc (Obj.cells #[.slice none 0 0, .slice none 0 0, .slice none 0 0] 27)
 have b0 := B2.new w (.slice a1 vs.length c1) (.slice a2 fs.length c2) (.slice a3 rs.length c3) (.slice none 0 0) (.slice none 0 0) (.slice none 0 0) 27 27
 have HH := hide (show HuB w b a len cap lo hi a1 a2 a3 (.slice a1 vs.length c1) (.slice a2 fs.length c2) (.slice a3 rs.length c3) vs fs rs ((w.alloc (Obj.cells #[.slice a1 vs.length c1, .slice a2 fs.length c2, .slice a3 rs.length c3] 27)).alloc (Obj.cells #[.slice none 0 0, .slice none 0 0, .slice none 0 0] 27)) from ⟨b0.1, b0.2.1, hd.call b0.2.2, hl0⟩)
 clear h hd hz hl0 b0
 obtain ⟨inf, hi', hz0, hz1, hz2⟩ := info_parts strInfo
 obtain ⟨inA, hiA, hzA0, hzA1, hzA2⟩ := info_parts arrInfoH
 go_enter Tryd.func105, Tryd.ntmps105
 go_wp2_with fail
 generalize (w.alloc (Obj.cells #[.slice a1 vs.length c1, .slice a2 fs.length c2, .slice a3 rs.length c3] 27)).alloc (Obj.cells #[.slice none 0 0, .slice none 0 0, .slice none 0 0] 27) = u at HH ⊢
 refine (below_c b a len cap 24 (by decide) _ (unhide HH).2.2.2.1).mono ?_
 rintro e u1 ⟨x, rfl, x0, x1, x2, hl⟩
 have HH := hide ((unhide HH).kp hl hbw hlo)
 clear hl x1 x2 x0
 have hsz1 : w.heap.size < u1.heap.size := (unhide HH).1.lt
 have hsz1' : w.heap.size + 1 < u1.heap.size := (unhide HH).2.1.lt
 have hsz2 : hi ≤ u1.heap.size := (unhide HH).2.2.1.2.2.2.2.2.2
 have hdw : w.heap.size < lo ∨ hi ≤ w.heap.size := .inr hhi
 have hdw' : w.heap.size + 1 < lo ∨ hi ≤ w.heap.size + 1 := .inr (by omega)
 by_cases e0 : x = 0
 ·have e0' : (x == 0) = true := by simpa using e0
  clear e0
  have q0 := (unhide HH).1.1
  go_wp2_with (at_builtin; refine wpList_appO _ rfl _ _ 24 rfl u1.heap.size 9 inf (.string ⟨#[]⟩) 1 16 Tryd.underlying24 hi' hz0 hz1 hz2 rfl (by decide) _ _ _ rfl (row0 _ _ (Nat.le_refl _)) a1 vs.length c1 (cellsS vs) rfl (by simp [cellsS]) (((unhide HH).2.2.1.call ((Below.refl _ u1).alloc (Nat.le_refl _) _)).1.news) (cellsS_one _) (by unfold maxLen; omega) (by omega) (by simp) ?_; intro oa cap2 w2 hown hgrow)
  clear q0
  have k12 : Below u1.heap.size u1 w2 := ((Below.refl _ u1).alloc (Nat.le_refl _) _).grown hgrow (by simp) (fun j hj => by have hj : some u1.heap.size = some j := hj; cases hj; exact Nat.le_refl _)
  have HH := hide ((unhide HH).call k12)
  rw [Nat.zero_add, List.nil_append] at hown
  try simp only [Nat.zero_add]
  have HO := hide (hown.alloc (Obj.cells #[.string ⟨#[120]⟩, .string ⟨#[105, 102]⟩, .string ⟨#[88]⟩, .string ⟨#[]⟩, .string ⟨#[108, 111, 110, 103, 101, 114, 110, 97, 109, 101]⟩, .string ⟨#[111, 107, 110, 97, 109, 101]⟩] 9))
  have HX := hide (Six.new w2 ⟨#[120]⟩ ⟨#[105, 102]⟩ ⟨#[88]⟩ ⟨#[]⟩ ⟨#[108, 111, 110, 103, 101, 114, 110, 97, 109, 101]⟩ ⟨#[111, 107, 110, 97, 109, 101]⟩)
  have HH := hide ((unhide HH).call ((Below.refl _ w2).alloc (Nat.le_refl _) (Obj.cells #[.string ⟨#[120]⟩, .string ⟨#[105, 102]⟩, .string ⟨#[88]⟩, .string ⟨#[]⟩, .string ⟨#[108, 111, 110, 103, 101, 114, 110, 97, 109, 101]⟩, .string ⟨#[111, 107, 110, 97, 109, 101]⟩] 9)))
  have hlb : b < w2.heap.size := by have := k12.size; omega
  have hlw : w2.heap.size < (w2.alloc (Obj.cells #[.string ⟨#[120]⟩, .string ⟨#[105, 102]⟩, .string ⟨#[88]⟩, .string ⟨#[]⟩, .string ⟨#[108, 111, 110, 103, 101, 114, 110, 97, 109, 101]⟩, .string ⟨#[111, 107, 110, 97, 109, 101]⟩] 9)).heap.size := by simp
  generalize w2.alloc (Obj.cells #[.string ⟨#[120]⟩, .string ⟨#[105, 102]⟩, .string ⟨#[88]⟩, .string ⟨#[]⟩, .string ⟨#[108, 111, 110, 103, 101, 114, 110, 97, 109, 101]⟩, .string ⟨#[111, 107, 110, 97, 109, 101]⟩] 9) = w3 at HO HX HH hlw ⊢
  obtain ⟨lb, hlbe⟩ : ∃ g, g = w2.heap.size := ⟨_, rfl⟩
  rw [← hlbe] at HX hlb hlw ⊢
  clear hown hgrow
  go_wp2_with fail
  refine (below_c b a len cap 6 (by decide) _ (unhide HH).2.2.2.1).mono ?_
  rintro e w4 ⟨y, rfl, y0, y1, y2, hl⟩
  have HH := hide ((unhide HH).kp hl hbw hlo)
  have HX := hide ((unhide HX).at (hl.2.block lb hlw (by omega)))
  have HO := hide (own_at (unhide HO) (fun g hg => by have q := (unhide HO).lt g hg; exact hl.2.block g q.2 (by omega)))
  have hs34 := hl.2.size
  have hs14 : u1.heap.size ≤ w4.heap.size := by have := k12.size; omega
  clear hl
  obtain ⟨k, rfl⟩ : ∃ k : Nat, y = (k : Int) := ⟨y.toNat, by omega⟩
  have hk : k < 6 := by omega
  have hkI : (k : Int) < 6 := by omega
  have c := (unhide HX) k hk
  have hsz6 : ([⟨#[120]⟩, ⟨#[105, 102]⟩, ⟨#[88]⟩, ⟨#[]⟩, ⟨#[108, 111, 110, 103, 101, 114, 110, 97, 109, 101]⟩, ⟨#[111, 107, 110, 97, 109, 101]⟩] : List ByteArray)[k].size ≤ 16 := by
   rcases (show k = 0 ∨ k = 1 ∨ k = 2 ∨ k = 3 ∨ k = 4 ∨ k = 5 by omega) with rfl | rfl | rfl | rfl | rfl | rfl <;> exact Nat.le_of_ble_eq_true rfl
  generalize ([⟨#[120]⟩, ⟨#[105, 102]⟩, ⟨#[88]⟩, ⟨#[]⟩, ⟨#[108, 111, 110, 103, 101, 114, 110, 97, 109, 101]⟩, ⟨#[111, 107, 110, 97, 109, 101]⟩] : List ByteArray)[k] = s at c hsz6
  rw [hlbe] at c
  have HS6 := hide hsz6
  clear hsz6 y0 y1 y2 HX
  go_wp2_with (at_builtin; refine wpList_app _ rfl _ _ 24 rfl u1.heap.size 9 inf (.string ⟨#[]⟩) 1 16 Tryd.underlying24 hi' hz0 hz1 hz2 rfl (by decide) _ _ _ rfl ((unhide HO).alloc _) ⟨_, 0, none⟩ 1 1 [.string s] rfl rfl (World.news_of_block (heap_alloc_new _ _)) (by simp [Value.oneCell']) (by unfold maxLen; omega) (by omega) (by simp; omega) ?_; intro ob cap3 w5 hown5 hgrow5; have HH5 := hide (HuB.ap (unhide HH) ((unhide HO).alloc (Obj.cells #[.string s] 9)) hgrow5 hsz1 hsz2 hsz1' (Nat.lt_trans hbw hsz1) (unhide HCO) hs14); have t0 := (unhide HH5).1.1; have t1 := (unhide HH5).1.2.1; have t2 := (unhide HH5).1.2.2.1; have g0 := (unhide HH5).1.2.2.2 0; have r0 : w5.cell? ⟨w.heap.size + 1, 0, none⟩ = _ := (unhide HH5).2.1.1; have r1 : w5.cell? ⟨w.heap.size + 1, 1, none⟩ = _ := (unhide HH5).2.1.2.1; have r2 : w5.cell? ⟨w.heap.size + 1, 2, none⟩ = _ := (unhide HH5).2.1.2.2.1; have f0 : w5.frozen? ⟨w.heap.size + 1, 0, none⟩ = _ := (unhide HH5).2.1.2.2.2 0; have f1 : w5.frozen? ⟨w.heap.size + 1, 1, none⟩ = _ := (unhide HH5).2.1.2.2.2 1; have f2 : w5.frozen? ⟨w.heap.size + 1, 2, none⟩ = _ := (unhide HH5).2.1.2.2.2 2)
  have hown6 : w5.ownsRow u1.heap.size 9 1 (.slice ob (vs.length + 1) cap3) (vs.length + 1) (cellsS (vs ++ [s])) := by rw [show cellsS (vs ++ [s]) = cellsS vs ++ [.string s] by simp [cellsS]]; exact hown5
  have ho7 := own_far_set (own_far_set (own_far_set (own_far_set hown6 (b := w.heap.size) (o := 0) (x := (.slice ob (vs.length + 1) cap3)) (hfar hown6 hsz1)) (b := w.heap.size + 1) (o := 0) (x := (.slice ob (vs.length + 1) cap3)) (hfar hown6 hsz1')) (b := w.heap.size + 1) (o := 1) (x := .slice a2 fs.length c2) (hfar hown6 hsz1')) (b := w.heap.size + 1) (o := 2) (x := .slice a3 rs.length c3) (hfar hown6 hsz1')
  have hst := (Strs.ofOwn ho7 (by omega)).2
  have hde := ((((unhide HH5).2.2.1.set (c := w.heap.size) (o := 0) hdw (.slice ob (vs.length + 1) cap3)).set (c := w.heap.size + 1) (o := 0) hdw' (.slice ob (vs.length + 1) cap3)).set (c := w.heap.size + 1) (o := 1) hdw' (.slice a2 fs.length c2)).set (c := w.heap.size + 1) (o := 2) hdw' (.slice a3 rs.length c3)
  have hlf := ((((unhide HH5).2.2.2.set (c := w.heap.size) (o := 0) (Nat.le_refl _) hbw (unhide HCO) (.slice ob (vs.length + 1) cap3)).set (c := w.heap.size + 1) (o := 0) (by omega) hbw (unhide HCO) (.slice ob (vs.length + 1) cap3)).set (c := w.heap.size + 1) (o := 1) (by omega) hbw (unhide HCO) (.slice a2 fs.length c2)).set (c := w.heap.size + 1) (o := 2) (by omega) hbw (unhide HCO) (.slice a3 rs.length c3)
  refine bodyPost_ret (v := .agg #[.slice ob (vs.length + 1) cap3, .slice a2 fs.length c2, .slice a3 rs.length c3]) (by simp [results, Tryd.results105, go_sem, r0, r1, r2]) rfl ⟨ob, a2, a3, cap3, c2, c3, vs ++ [s], fs, rs, by rw [List.length_append]; rfl, hst, hde.2.1, hde.2.2.1, ?_, hlf⟩
  intro z hzm
  rcases names_snoc hzm with q | q
  ·exact unhide HZ z q
  ·subst q; have := unhide HS6; omega
 have e0' : (x == 0) = false := by simpa using e0
 by_cases e1 : x = 1
 ·have e1' : (x == 1) = true := by simpa using e1
  clear e0 e1
  have q2 := (unhide HH).1.2.2.1
  go_wp2_with (at_builtin; refine wpList_appO _ rfl _ _ 25 rfl u1.heap.size 95 inA (.agg #[.string ⟨#[]⟩, .int .i64 0]) 2 24 Tryd.underlying25 hiA hzA0 hzA1 hzA2 rfl (by decide) _ _ _ rfl (rowA _ _ (Nat.le_refl _)) a3 rs.length c3 (cellsA rs) rfl (cellsA_len _) (((unhide HH).2.2.1.call ((Below.refl _ u1).alloc (Nat.le_refl _) _)).2.2.1.news) (cellsA_one _) (by unfold maxLen; omega) (by omega) (by simp) ?_; intro oa cap2 w2 hown hgrow)
  clear q2
  have k12 : Below u1.heap.size u1 w2 := ((Below.refl _ u1).alloc (Nat.le_refl _) _).grown hgrow (by simp) (fun j hj => by have hj : some u1.heap.size = some j := hj; cases hj; exact Nat.le_refl _)
  have HH := hide ((unhide HH).call k12)
  rw [Nat.zero_add, List.nil_append] at hown
  try simp only [Nat.zero_add]
  have HO := hide hown
  clear hown hgrow
  go_wp2_with fail
  refine (off_c b a len cap 1 16 (by unfold In; omega) (by unfold In; omega) (by omega) _ (unhide HH).2.2.2.1).mono ?_
  rintro e w4 ⟨n, rfl, hn, hl⟩
  have HH := hide ((unhide HH).kp hl hbw hlo)
  have HO := hide (own_at (unhide HO) (fun g hg => by have q := (unhide HO).lt g hg; exact hl.2.block g q.2 (by omega)))
  have hs34 := hl.2.size
  have hs14 : u1.heap.size ≤ w4.heap.size := by have := k12.size; omega
  have hs14 : u1.heap.size ≤ w4.heap.size := by have := k12.size; omega
  clear hl hn
  go_wp2_with (at_builtin; refine wpList_app _ rfl _ _ 25 rfl u1.heap.size 95 inA (.agg #[.string ⟨#[]⟩, .int .i64 0]) 2 24 Tryd.underlying25 hiA hzA0 hzA1 hzA2 rfl (by decide) _ _ _ rfl ((unhide HO).alloc _) ⟨_, 0, none⟩ 1 1 [.string ⟨#[100]⟩, .int .i64 n] rfl rfl (World.news_of_block (heap_alloc_new _ _)) (by simp [Value.oneCell']) (by unfold maxLen; omega) (by omega) (by simp; omega) ?_; intro ob cap3 w5 hown5 hgrow5; have HH5 := hide (HuB.ap (unhide HH) ((unhide HO).alloc (Obj.cells #[.string ⟨#[100]⟩, .int .i64 n] 95)) hgrow5 hsz1 hsz2 hsz1' (Nat.lt_trans hbw hsz1) (unhide HCO) hs14); have t0 := (unhide HH5).1.1; have t1 := (unhide HH5).1.2.1; have t2 := (unhide HH5).1.2.2.1; have g0 := (unhide HH5).1.2.2.2 0; have g2 := (unhide HH5).1.2.2.2 2; have r0 : w5.cell? ⟨w.heap.size + 1, 0, none⟩ = _ := (unhide HH5).2.1.1; have r1 : w5.cell? ⟨w.heap.size + 1, 1, none⟩ = _ := (unhide HH5).2.1.2.1; have r2 : w5.cell? ⟨w.heap.size + 1, 2, none⟩ = _ := (unhide HH5).2.1.2.2.1; have f0 : w5.frozen? ⟨w.heap.size + 1, 0, none⟩ = _ := (unhide HH5).2.1.2.2.2 0; have f1 : w5.frozen? ⟨w.heap.size + 1, 1, none⟩ = _ := (unhide HH5).2.1.2.2.2 1; have f2 : w5.frozen? ⟨w.heap.size + 1, 2, none⟩ = _ := (unhide HH5).2.1.2.2.2 2)
  have hown6 : w5.ownsRow u1.heap.size 95 2 (.slice ob (rs.length + 1) cap3) (rs.length + 1) (cellsA (rs ++ [(⟨#[100]⟩, n)])) := by rw [cellsA_app]; exact hown5
  have ho7 := (own_far_set (own_far_set (own_far_set (own_far_set hown6 (b := w.heap.size) (o := 2) (x := (.slice ob (rs.length + 1) cap3)) (hfar hown6 hsz1)) (b := w.heap.size + 1) (o := 0) (x := (.slice a1 vs.length c1)) (hfar hown6 hsz1')) (b := w.heap.size + 1) (o := 1) (x := (.slice a2 fs.length c2)) (hfar hown6 hsz1')) (b := w.heap.size + 1) (o := 2) (x := (.slice ob (rs.length + 1) cap3)) (hfar hown6 hsz1'))
  have hst := (Arrs.ofOwn ho7 (by omega)).2
  have hde := (((((unhide HH5).2.2.1.set (c := w.heap.size) (o := 2) hdw (.slice ob (rs.length + 1) cap3)).set (c := w.heap.size + 1) (o := 0) hdw' (.slice a1 vs.length c1)).set (c := w.heap.size + 1) (o := 1) hdw' (.slice a2 fs.length c2)).set (c := w.heap.size + 1) (o := 2) hdw' (.slice ob (rs.length + 1) cap3))
  have hlf := (((((unhide HH5).2.2.2.set (c := w.heap.size) (o := 2) (Nat.le_refl _) hbw (unhide HCO) (.slice ob (rs.length + 1) cap3)).set (c := w.heap.size + 1) (o := 0) (by omega) hbw (unhide HCO) (.slice a1 vs.length c1)).set (c := w.heap.size + 1) (o := 1) (by omega) hbw (unhide HCO) (.slice a2 fs.length c2)).set (c := w.heap.size + 1) (o := 2) (by omega) hbw (unhide HCO) (.slice ob (rs.length + 1) cap3))
  refine bodyPost_ret (v := .agg #[.slice a1 vs.length c1, .slice a2 fs.length c2, .slice ob (rs.length + 1) cap3]) (by simp [results, Tryd.results105, go_sem, r0, r1, r2]) rfl ⟨a1, a2, ob, c1, c2, cap3, vs, fs, rs ++ [(⟨#[100]⟩, n)], by rw [List.length_append]; rfl, hde.1, hde.2.1, hst, ?_, hlf⟩
  intro z hzm
  rcases names_snocR hzm with q | q
  ·exact unhide HZ z q
  ·subst q; decide
 have e1' : (x == 1) = false := by simpa using e1
 by_cases e2 : x = 2
 ·have e2' : (x == 2) = true := by simpa using e2
  clear e0 e1 e2
  have HX := hide (Six.new u1 ⟨#[112]⟩ ⟨#[113]⟩ ⟨#[114]⟩ ⟨#[115]⟩ ⟨#[116]⟩ ⟨#[117]⟩)
  have HH := hide ((unhide HH).call ((Below.refl _ u1).alloc (Nat.le_refl _) (Obj.cells #[.string ⟨#[112]⟩, .string ⟨#[113]⟩, .string ⟨#[114]⟩, .string ⟨#[115]⟩, .string ⟨#[116]⟩, .string ⟨#[117]⟩] 9)))
  have hlw : u1.heap.size < (u1.alloc (Obj.cells #[.string ⟨#[112]⟩, .string ⟨#[113]⟩, .string ⟨#[114]⟩, .string ⟨#[115]⟩, .string ⟨#[116]⟩, .string ⟨#[117]⟩] 9)).heap.size := by simp
  go_wp2_with fail
  generalize u1.alloc (Obj.cells #[.string ⟨#[112]⟩, .string ⟨#[113]⟩, .string ⟨#[114]⟩, .string ⟨#[115]⟩, .string ⟨#[116]⟩, .string ⟨#[117]⟩] 9) = w3 at HX HH hlw ⊢
  refine (below_c b a len cap 2 (by decide) _ (unhide HH).2.2.2.1).mono ?_
  rintro e w5 ⟨y, rfl, y0, y1, y2, hl⟩
  have HH5 := hide ((unhide HH).kp hl hbw hlo)
  have HX := hide ((unhide HX).at (hl.2.block u1.heap.size hlw (by omega)))
  clear hl
  have t0 := (unhide HH5).1.1
  have t1 := (unhide HH5).1.2.1
  have t2 := (unhide HH5).1.2.2.1
  have g0 := (unhide HH5).1.2.2.2 0
  have g2 := (unhide HH5).1.2.2.2 2
  have r0 : w5.cell? ⟨w.heap.size + 1, 0, none⟩ = _ := (unhide HH5).2.1.1
  have r1 : w5.cell? ⟨w.heap.size + 1, 1, none⟩ = _ := (unhide HH5).2.1.2.1
  have r2 : w5.cell? ⟨w.heap.size + 1, 2, none⟩ = _ := (unhide HH5).2.1.2.2.1
  have f0 : w5.frozen? ⟨w.heap.size + 1, 0, none⟩ = _ := (unhide HH5).2.1.2.2.2 0
  have f1 : w5.frozen? ⟨w.heap.size + 1, 1, none⟩ = _ := (unhide HH5).2.1.2.2.2 1
  have f2 : w5.frozen? ⟨w.heap.size + 1, 2, none⟩ = _ := (unhide HH5).2.1.2.2.2 2
  have hy : y = 0 ∨ y = 1 := by omega
  clear y0 y1 y2
  rcases hy with rfl | rfl
  ·skip
   have hde := (((((unhide HH5).2.2.1.set (c := w.heap.size) (o := 0) hdw (.slice (some ⟨u1.heap.size, 0, none⟩) 5 6)).set (c := w.heap.size + 1) (o := 0) hdw' (.slice (some ⟨u1.heap.size, 0, none⟩) 5 6)).set (c := w.heap.size + 1) (o := 1) hdw' (.slice a2 fs.length c2)).set (c := w.heap.size + 1) (o := 2) hdw' (.slice a3 rs.length c3))
   have hlf := (((((unhide HH5).2.2.2.set (c := w.heap.size) (o := 0) (Nat.le_refl _) hbw (unhide HCO) (.slice (some ⟨u1.heap.size, 0, none⟩) 5 6)).set (c := w.heap.size + 1) (o := 0) (by omega) hbw (unhide HCO) (.slice (some ⟨u1.heap.size, 0, none⟩) 5 6)).set (c := w.heap.size + 1) (o := 1) (by omega) hbw (unhide HCO) (.slice a2 fs.length c2)).set (c := w.heap.size + 1) (o := 2) (by omega) hbw (unhide HCO) (.slice a3 rs.length c3))
   have hsx := ((((unhide HX).set (o := 0) (Nat.ne_of_lt hsz1) (.slice (some ⟨u1.heap.size, 0, none⟩) 5 6)).set (o := 0) (Nat.ne_of_lt hsz1') (.slice (some ⟨u1.heap.size, 0, none⟩) 5 6)).set (o := 1) (Nat.ne_of_lt hsz1') (.slice a2 fs.length c2)).set (o := 2) (Nat.ne_of_lt hsz1') (.slice a3 rs.length c3)
   have hst : Strs _ (some ⟨u1.heap.size, 0, none⟩) [⟨#[112]⟩, ⟨#[113]⟩, ⟨#[114]⟩, ⟨#[115]⟩, ⟨#[116]⟩] := hsx.strs 5 rfl (by decide)
   have HDE := hide hde
   have HLF := hide hlf
   have HST := hide hst
   clear hde hlf hsx hst
   go_wp2
   refine bodyPost_ret (v := .agg #[.slice (some ⟨u1.heap.size, 0, none⟩) 5 6, .slice a2 fs.length c2, .slice a3 rs.length c3]) (by simp [results, Tryd.results105, go_sem, r0, r1, r2]) rfl ⟨some ⟨u1.heap.size, 0, none⟩, a2, a3, 6, c2, c3, [⟨#[112]⟩, ⟨#[113]⟩, ⟨#[114]⟩, ⟨#[115]⟩, ⟨#[116]⟩], fs, rs, rfl, unhide HST, (unhide HDE).2.1, (unhide HDE).2.2.1, ?_, unhide HLF⟩
   intro z hzm
   rcases names_new (vs := vs) hzm with q | q
   ·first | exact Nat.le_trans (six_small z q) (by omega) | exact Nat.le_trans (six_small z (five_six q)) (by omega)
   ·exact unhide HZ z q
  ·skip
   have hde := (((((unhide HH5).2.2.1.set (c := w.heap.size) (o := 0) hdw (.slice (some ⟨u1.heap.size, 0, none⟩) 6 6)).set (c := w.heap.size + 1) (o := 0) hdw' (.slice (some ⟨u1.heap.size, 0, none⟩) 6 6)).set (c := w.heap.size + 1) (o := 1) hdw' (.slice a2 fs.length c2)).set (c := w.heap.size + 1) (o := 2) hdw' (.slice a3 rs.length c3))
   have hlf := (((((unhide HH5).2.2.2.set (c := w.heap.size) (o := 0) (Nat.le_refl _) hbw (unhide HCO) (.slice (some ⟨u1.heap.size, 0, none⟩) 6 6)).set (c := w.heap.size + 1) (o := 0) (by omega) hbw (unhide HCO) (.slice (some ⟨u1.heap.size, 0, none⟩) 6 6)).set (c := w.heap.size + 1) (o := 1) (by omega) hbw (unhide HCO) (.slice a2 fs.length c2)).set (c := w.heap.size + 1) (o := 2) (by omega) hbw (unhide HCO) (.slice a3 rs.length c3))
   have hsx := ((((unhide HX).set (o := 0) (Nat.ne_of_lt hsz1) (.slice (some ⟨u1.heap.size, 0, none⟩) 6 6)).set (o := 0) (Nat.ne_of_lt hsz1') (.slice (some ⟨u1.heap.size, 0, none⟩) 6 6)).set (o := 1) (Nat.ne_of_lt hsz1') (.slice a2 fs.length c2)).set (o := 2) (Nat.ne_of_lt hsz1') (.slice a3 rs.length c3)
   have hst : Strs _ (some ⟨u1.heap.size, 0, none⟩) [⟨#[112]⟩, ⟨#[113]⟩, ⟨#[114]⟩, ⟨#[115]⟩, ⟨#[116]⟩, ⟨#[117]⟩] := hsx.strs 6 rfl (by decide)
   have HDE := hide hde
   have HLF := hide hlf
   have HST := hide hst
   clear hde hlf hsx hst
   go_wp2
   refine bodyPost_ret (v := .agg #[.slice (some ⟨u1.heap.size, 0, none⟩) 6 6, .slice a2 fs.length c2, .slice a3 rs.length c3]) (by simp [results, Tryd.results105, go_sem, r0, r1, r2]) rfl ⟨some ⟨u1.heap.size, 0, none⟩, a2, a3, 6, c2, c3, [⟨#[112]⟩, ⟨#[113]⟩, ⟨#[114]⟩, ⟨#[115]⟩, ⟨#[116]⟩, ⟨#[117]⟩], fs, rs, rfl, unhide HST, (unhide HDE).2.1, (unhide HDE).2.2.1, ?_, unhide HLF⟩
   intro z hzm
   rcases names_new (vs := vs) hzm with q | q
   ·first | exact Nat.le_trans (six_small z q) (by omega) | exact Nat.le_trans (six_small z (five_six q)) (by omega)
   ·exact unhide HZ z q
 have e2' : (x == 2) = false := by simpa using e2
 clear e0 e1 e2
 have HH5 := HH
 have t0 := (unhide HH5).1.1
 have t1 := (unhide HH5).1.2.1
 have t2 := (unhide HH5).1.2.2.1
 have g0 := (unhide HH5).1.2.2.2 0
 have g2 := (unhide HH5).1.2.2.2 2
 have r0 : u1.cell? ⟨w.heap.size + 1, 0, none⟩ = _ := (unhide HH5).2.1.1
 have r1 : u1.cell? ⟨w.heap.size + 1, 1, none⟩ = _ := (unhide HH5).2.1.2.1
 have r2 : u1.cell? ⟨w.heap.size + 1, 2, none⟩ = _ := (unhide HH5).2.1.2.2.1
 have f0 : u1.frozen? ⟨w.heap.size + 1, 0, none⟩ = _ := (unhide HH5).2.1.2.2.2 0
 have f1 : u1.frozen? ⟨w.heap.size + 1, 1, none⟩ = _ := (unhide HH5).2.1.2.2.2 1
 have f2 : u1.frozen? ⟨w.heap.size + 1, 2, none⟩ = _ := (unhide HH5).2.1.2.2.2 2
 have HDE := hide ((((unhide HH5).2.2.1.set (c := w.heap.size + 1) (o := 0) hdw' (.slice a1 vs.length c1)).set (c := w.heap.size + 1) (o := 1) hdw' (.slice a2 fs.length c2)).set (c := w.heap.size + 1) (o := 2) hdw' (.slice a3 rs.length c3))
 have HLF := hide ((((unhide HH5).2.2.2.set (c := w.heap.size + 1) (o := 0) (by omega) hbw (unhide HCO) (.slice a1 vs.length c1)).set (c := w.heap.size + 1) (o := 1) (by omega) hbw (unhide HCO) (.slice a2 fs.length c2)).set (c := w.heap.size + 1) (o := 2) (by omega) hbw (unhide HCO) (.slice a3 rs.length c3))
 go_wp2
 exact bodyPost_ret (v := .agg #[.slice a1 vs.length c1, .slice a2 fs.length c2, .slice a3 rs.length c3]) (by simp [results, Tryd.results105, go_sem, r0, r1, r2]) rfl ⟨a1, a2, a3, c1, c2, c3, vs, fs, rs, rfl, (unhide HDE).1, (unhide HDE).2.1, (unhide HDE).2.2.1, unhide HZ, unhide HLF⟩
end Go.Proofs.YtpdnnpnclgcpoaaDoor

/- A store's rows, none of them below; appends to them. -/
namespace Go.Proofs.YtpdnnpnclgcpoaaDoor
open Go.RowKit Go.Iv
set_option linter.unusedSimpArgs false
set_option linter.unusedVariables false

theorem Ints.at' {u v : World} {a : Option Addr} {xs : List Int} (h : Ints u a xs) (hb : ∀ x, a = some x → 0 < xs.length → v.heap[x.block]? = u.heap[x.block]?) : Ints v a xs := by
  refine ⟨h.1, ?_⟩
  rcases h.2 with h0 | ⟨cb, co, rfl, hc⟩
  · exact .inl h0
  · exact .inr ⟨cb, co, rfl, fun i hi => (World.cell?_of_block (w := u) (a := ⟨cb, co + i, none⟩) (hb ⟨cb, co, none⟩ rfl (by omega))).trans (hc i hi)⟩
theorem Bools.at' {u v : World} {a : Option Addr} {xs : List Bool} (h : Bools u a xs) (hb : ∀ x, a = some x → 0 < xs.length → v.heap[x.block]? = u.heap[x.block]?) : Bools v a xs := by
  refine ⟨h.1, ?_⟩
  rcases h.2 with h0 | ⟨cb, co, rfl, hc⟩
  · exact .inl h0
  · exact .inr ⟨cb, co, rfl, fun i hi => (World.cell?_of_block (w := u) (a := ⟨cb, co + i, none⟩) (hb ⟨cb, co, none⟩ rfl (by omega))).trans (hc i hi)⟩
theorem Bools.lt' {w : World} {a : Option Addr} {xs : List Bool} (h : Bools w a xs) : ∀ x, a = some x → 0 < xs.length → x.block < w.heap.size := by
  intro x hx h0
  rcases h.2 with h1 | ⟨cb, co, rfl, hc⟩
  · omega
  · cases hx
    exact World.block_lt_of_cell? w _ (hc 0 h0)
def cellsN (xs : List Int) : List Value := xs.map (Value.int .i64)
theorem Ints.newsI {w : World} {a : Option Addr} {xs : List Int} (h : Ints w a xs) : NewsO w a (cellsN xs) := by
  rcases h.2 with h0 | ⟨cb, co, rfl, hc⟩
  · exact .inl (by rw [List.eq_nil_of_length_eq_zero h0]; rfl)
  refine .inr ⟨_, rfl, fun j u hu => ?_⟩
  have hj : j < xs.length := by have := (List.getElem?_eq_some_iff.1 hu).1; simpa [cellsN] using this
  have hadd : (⟨cb, co, none⟩ : Addr).add j = ⟨cb, co + j, none⟩ := by unfold Addr.add; split <;> simp_all
  rw [hadd, hc j hj]
  simp only [cellsN, List.getElem?_map, List.getElem?_eq_getElem hj, Option.map_some] at hu
  exact hu
theorem Ints.ofOwn {w : World} {base : Nat} {e : TypeId} {oa : Option Addr} {n cap : Nat} {xs : List Int} (h : w.ownsRow base e 1 (.slice oa n cap) n (cellsN xs)) (hl : n ≤ 1048576) : n = xs.length ∧ Ints w oa xs ∧ ∀ x, oa = some x → base ≤ x.block := by
  have hn : n = xs.length := by have := h.1; simp [cellsN] at this; omega
  refine ⟨hn, ⟨by omega, ?_⟩, fun x hx => ?_⟩
  · rcases h.2 with ⟨_, h1⟩ | ⟨g, cap', cur, hv, _⟩
    · exact .inl (by omega)
    · cases hv
      refine .inr ⟨g, 0, rfl, fun i hi => ?_⟩
      have k := h.cells (g := g) rfl i (.int .i64 xs[i]) (by simp [cellsN, hi])
      have hadd : (⟨g, 0, none⟩ : Addr).add i = ⟨g, i, none⟩ := by unfold Addr.add; split <;> simp_all
      rw [hadd] at k
      rw [Nat.zero_add]
      exact k
  · subst hx
    exact (h.lt x.block (by simp [Value.ownBlock])).1
/-- A store's rows, none below. -/
def SF (u : World) (lo : Nat) (oa ob oc : Option Addr) (is : List Int) (bs : List Bool) (js : List (List Int)) : Prop :=
  (Ints u oa is ∧ ∀ x, oa = some x → 0 < is.length → lo ≤ x.block) ∧ (Bools u ob bs ∧ ∀ x, ob = some x → 0 < bs.length → lo ≤ x.block) ∧ js.length ≤ 1048576 ∧
  (js.length = 0 ∨ ∃ cb co, oc = some ⟨cb, co, none⟩ ∧ lo ≤ cb ∧ ∀ i, (h : i < js.length) → ∃ b c, u.cell? ⟨cb, co + i, none⟩ = some (.slice b (js[i]).length c) ∧ Ints u b js[i] ∧ ∀ x, b = some x → 0 < (js[i]).length → lo ≤ x.block)
section
variable {u v : World} {lo : Nat} {oa ob oc : Option Addr} {is : List Int} {bs : List Bool} {js : List (List Int)}
theorem SF.mats (h : SF u lo oa ob oc is bs js) : Mats u oc js := by
  refine ⟨h.2.2.1, ?_⟩
  rcases h.2.2.2 with h0 | ⟨cb, co, e, _, hc⟩
  · exact .inl h0
  · exact .inr ⟨cb, co, e, fun i hi => by obtain ⟨b, c, q1, q2, _⟩ := hc i hi; exact ⟨b, c, q1, q2⟩⟩
theorem SF.at' (h : SF u lo oa ob oc is bs js) (hb : ∀ g, lo ≤ g → g < u.heap.size → v.heap[g]? = u.heap[g]?) : SF v lo oa ob oc is bs js := by
  refine ⟨⟨h.1.1.at' fun x e l => hb _ (h.1.2 x e l) (h.1.1.lt x e l), h.1.2⟩, ⟨h.2.1.1.at' fun x e l => hb _ (h.2.1.2 x e l) (h.2.1.1.lt' x e l), h.2.1.2⟩, h.2.2.1, ?_⟩
  rcases h.2.2.2 with h0 | ⟨cb, co, e, hlo, hc⟩
  · exact .inl h0
  · refine .inr ⟨cb, co, e, hlo, fun i hi => ?_⟩
    obtain ⟨b, c, q1, q2, q3⟩ := hc i hi
    have hcb : cb < u.heap.size := World.block_lt_of_cell? u _ q1
    exact ⟨b, c, (World.cell?_of_block (w := u) (a := ⟨cb, co + i, none⟩) (hb cb hlo hcb)).trans q1, q2.at' fun x e l => hb _ (q3 x e l) (q2.lt x e l), q3⟩
theorem SF.setI (h : SF u lo oa ob oc is bs js) {oa' : Option Addr} {is' : List Int} (hi : Ints u oa' is') (hl : ∀ x, oa' = some x → 0 < is'.length → lo ≤ x.block) : SF u lo oa' ob oc is' bs js := ⟨⟨hi, hl⟩, h.2⟩
theorem SF.noB (h : SF u lo oa ob oc is bs js) : SF u lo oa none oc is [] js := ⟨h.1, ⟨⟨by simp, .inl rfl⟩, fun x e => by cases e⟩, h.2.2⟩
theorem SF.low (h : SF u lo oa ob oc is bs js) {l2 : Nat} (hl : l2 ≤ lo) : SF u l2 oa ob oc is bs js := by
  refine ⟨⟨h.1.1, fun x e l => Nat.le_trans hl (h.1.2 x e l)⟩, ⟨h.2.1.1, fun x e l => Nat.le_trans hl (h.2.1.2 x e l)⟩, h.2.2.1, ?_⟩
  rcases h.2.2.2 with h0 | ⟨cb, co, e, hlo, hc⟩
  · exact .inl h0
  · refine .inr ⟨cb, co, e, Nat.le_trans hl hlo, fun i hi => ?_⟩
    obtain ⟨b, c, q1, q2, q3⟩ := hc i hi
    exact ⟨b, c, q1, q2, fun x e l => Nat.le_trans hl (q3 x e l)⟩
variable {B B1 T cc : Nat} {gs : List Nat}
theorem StW.own (h : StW u B B1 T oa ob oc cc gs is bs js) : u.ownsRow B1 31 1 (.slice oc js.length cc) js.length (hdrs gs js) := by
  rcases h.2.2.1 with ⟨h0, rfl, rfl⟩ | h3
  · have e : js = [] := List.eq_nil_of_length_eq_zero h0
    subst e
    have e2 : hdrs gs ([] : List (List Int)) = [] := by unfold hdrs; simp
    rw [e2]
    exact World.ownsRow_nil _ _ _ _
  · exact h3.2.1
theorem StW.bools (h : StW u B B1 T oa ob oc cc gs is bs js) : Bools u ob bs := by
  rcases h.2.1 with h0 | ⟨g, rfl, _, p⟩
  · exact ⟨by omega, .inl h0⟩
  · exact p.1
theorem SF.of (h : StW u B B1 T oa ob oc cc gs is bs js) (hl : js.length ≤ 1048576) : SF u B oa ob oc is bs js := by
  refine ⟨⟨h.ints, fun x e l => ?_⟩, ⟨h.bools, fun x e l => ?_⟩, hl, ?_⟩
  · rcases h.1 with h0 | ⟨g, rfl, p, _⟩
    · omega
    · cases e; exact p.1
  · rcases h.2.1 with h0 | ⟨g, rfl, p, _⟩
    · omega
    · cases e; exact p.1
  · rcases h.2.2.1 with ⟨h0, _⟩ | h3
    · exact .inl h0
    · by_cases hz : js.length = 0
      · exact .inl hz
      · rcases h3.2.1.2 with ⟨hn, h0⟩ | ⟨b, cap, cur, hv, hBb, hbk, r⟩
        · omega
        · have eo : oc = some ⟨b, 0, none⟩ := by cases hv; rfl
          subst eo
          refine .inr ⟨b, 0, rfl, Nat.le_trans h.2.2.2.1 hBb, fun i hi => ?_⟩
          have hgi : i < gs.length := by rw [h3.1]; exact hi
          have q := World.ownsRow.cellAt (w := u) (base := B1) (e := 31) (size := 1) (g := b) (n := js.length) (cap := cc) (xs := hdrs gs js) h3.2.1 i (by omega)
          refine ⟨some ⟨gs[i], 0, none⟩, (js[i]).length, ?_, (h3.2.2.2.1 i hgi hi).2.2.2.1, fun x e _ => ?_⟩
          · rw [Nat.zero_add, q]
            unfold hdrs
            rw [List.getElem?_eq_getElem (by simp; omega)]
            simp [List.getElem_zipWith]
          · cases e
            exact Nat.le_trans h.2.2.2.1 (h3.2.2.2.1 i hgi hi).1
theorem hdrs_len (gs : List Nat) (js : List (List Int)) (h : gs.length = js.length) : (hdrs gs js).length = js.length := by unfold hdrs; simp; omega
/-- One empty row more. -/
theorem SF.snocJ {od : Option Addr} {cap : Nat} (h : StW u B B1 T oa ob oc cc gs is bs js) (hl : js.length ≤ 1000) (ho : v.ownsRow B1 31 1 (.slice od (js.length + 1) cap) (js.length + 1) (hdrs gs js ++ [.slice none 0 0])) (hg : u.grownBy v (Value.ownBlock (.slice oc js.length cc))) : SF v B oa ob od is bs (js ++ [[]]) := by
  have hown : ∀ g, Value.ownBlock (.slice oc js.length cc) = some g → B1 ≤ g := fun g e => (h.own.lt g e).1
  have keep : ∀ g, g < u.heap.size → some g ≠ Value.ownBlock (.slice oc js.length cc) → v.heap[g]? = u.heap[g]? := fun g q hne => by obtain ⟨_, _, _, _, k⟩ := hg; exact k g q hne
  refine ⟨⟨h.ints.at' fun x e l => ?_, fun x e l => ?_⟩, ⟨h.bools.at' fun x e l => ?_, fun x e l => ?_⟩, by simp; omega, ?_⟩
  · rcases h.1 with h0 | ⟨g, rfl, p, _⟩
    · omega
    · cases e
      exact keep _ (h.ints.lt _ rfl l) (fun q => by have := hown _ q.symm; have q2 : g < B1 := p.2; have : B1 ≤ g := this; omega)
  · rcases h.1 with h0 | ⟨g, rfl, p, _⟩
    · omega
    · cases e; exact p.1
  · rcases h.2.1 with h0 | ⟨g, rfl, p, _⟩
    · omega
    · cases e
      exact keep _ (h.bools.lt' _ rfl l) (fun q => by have := hown _ q.symm; have q2 : g < B1 := p.2; have : B1 ≤ g := this; omega)
  · rcases h.2.1 with h0 | ⟨g, rfl, p, _⟩
    · omega
    · cases e; exact p.1
  · rcases ho.2 with ⟨hn, h0⟩ | ⟨b, cap', cur, hv, hBb, hbk, r⟩
    · omega
    · have eo : od = some ⟨b, 0, none⟩ := by cases hv; rfl
      subst eo
      have hlen : (hdrs gs js).length = js.length := by have := ho.1; simp at this; omega
      refine .inr ⟨b, 0, rfl, Nat.le_trans h.2.2.2.1 hBb, fun i hi => ?_⟩
      have hi2 : i < js.length + 1 := by simpa using hi
      have q := World.ownsRow.cellAt (w := v) (base := B1) (e := 31) (size := 1) (g := b) (n := js.length + 1) (cap := cap) (xs := hdrs gs js ++ [.slice none 0 0]) ho i (by omega)
      by_cases e : i < js.length
      · rcases h.2.2.1 with ⟨h0, _⟩ | h3
        · omega
        · have hgi : i < gs.length := by rw [h3.1]; exact e
          have ej : (js ++ [[]])[i] = js[i] := List.getElem_append_left e
          rw [ej]
          refine ⟨some ⟨gs[i], 0, none⟩, (js[i]).length, ?_, (h3.2.2.2.1 i hgi e).2.2.2.1.at' fun x e2 _ => ?_, fun x e2 _ => ?_⟩
          · rw [Nat.zero_add, q, List.getElem?_append_left (by omega)]
            unfold hdrs
            rw [List.getElem?_eq_getElem (by simp; omega)]
            simp [List.getElem_zipWith]
          · cases e2
            exact keep _ (h3.2.2.2.1 i hgi e).2.2.2.2.2 (fun q => (h3.2.2.2.1 i hgi e).2.2.1 q.symm)
          · cases e2
            exact Nat.le_trans h.2.2.2.1 (h3.2.2.2.1 i hgi e).1
      · have ei : i = js.length := by omega
        subst ei
        have ej : (js ++ [[]])[js.length] = ([] : List Int) := by simp
        rw [ej]
        refine ⟨none, 0, ?_, ⟨by simp, .inl rfl⟩, fun x e2 => by cases e2⟩
        rw [Nat.zero_add, q, List.getElem?_append_right (by omega), hlen, Nat.sub_self]
        rfl
end
/-- An append onto a row that is full. -/
theorem run_append_full {P : Program} (w : World) (t ty e : TypeId) (i : TypeInfo) (z : Value) (size bytes : Nat) (ht : P.underlying t = some (.slice e)) (hi : P.info? e = some i) (hz : i.zero = some z)
    (hsize : i.size = size) (hby : i.bytes = bytes) (hzs : z.cells.size = size) (hsz : 0 < size)
    (oa : Option Addr) (n : Nat) (xs : List Value) (hlo : xs.length = n * size) (hold : NewsO w oa xs)
    (ad : Addr) (m c : Nat) (news : List Value) (hl : news.length = m * size) (hnews : ∀ j u, news[j]? = some u → w.cell? (ad.add j) = some u) (h1 : ∀ u ∈ news, u.oneCell' = true)
    (hm : 0 < m) (h63 : n + m ≤ maxLen) (hbytes : (n + m) * bytes ≤ 140737488355328) :
    ∃ v' w', (Builtin.append_ #[t, t] ty #[.slice oa n n, .slice (some ad) m c]).run P w = .ok v' w' ∧ w'.ownsRow w.heap.size e size v' (n + m) (xs ++ news) ∧ w.grownBy w' none := by
  cases oa with
  | some b =>
    refine run_append_arg_grows (P := P) w t ty e i z size bytes ht hi hz hsize hby hzs hsz b n n xs hlo (fun j u hj => ?_) ad m c news hl hnews (by omega) h63 hbytes
    rcases hold with rfl | ⟨a, ha, hh⟩
    · simp at hj
    · cases ha; exact hh j u hj
  | none =>
    have hx : xs = [] := by
      rcases hold with h | ⟨a, ha, _⟩
      · exact h
      · cases ha
    subst hx
    obtain rfl : n = 0 := by
      rcases Nat.eq_zero_or_pos n with h | h
      · exact h
      · have := Nat.mul_pos h hsz; simp at hlo; omega
    obtain ⟨v', w', hr, h2, h3, _⟩ := run_append_own (P := P) w w.heap.size t ty e i z size bytes ht hi hz hsize hby hzs hsz (.slice none 0 0) 0 [] (World.ownsRow_nil w _ e size) ad m c news hl hnews h1 h63 hbytes (Nat.le_refl _)
    exact ⟨v', w', hr, h2, h3⟩
theorem wpList_app_full {P : Program} (w : World) {ops : Array Oper} {rest : List Oper} {o : Oper} {a : Act} {Q : Exit → Act → World → Prop} (hgd : o.guard = none) (s x : Operand) (t : TypeId)
    (ho : o.op = .call { callee := .builtin .append, args := #[s, x], argTypes := #[t, t] })
    (e : TypeId) (i : TypeInfo) (z : Value) (size bytes : Nat) (ht : P.underlying t = some (.slice e)) (hi : P.info? e = some i) (hz : i.zero = some z)
    (hsize : i.size = size) (hby : i.bytes = bytes) (hzs : z.cells.size = size) (hsz : 0 < size)
    (oa : Option Addr) (n : Nat) (xs : List Value) (hs : a.eval s = .slice oa n n) (hlo : xs.length = n * size) (hold : NewsO w oa xs)
    (ad : Addr) (m c : Nat) (news : List Value) (hx : a.eval x = .slice (some ad) m c) (hl : news.length = m * size) (hnews : ∀ j u, news[j]? = some u → w.cell? (ad.add j) = some u) (h1 : ∀ u ∈ news, u.oneCell' = true)
    (hm : 0 < m) (h63 : n + m ≤ maxLen) (hbytes : (n + m) * bytes ≤ 140737488355328)
    (h : ∀ ob cap w', w'.ownsRow w.heap.size e size (.slice ob (n + m) cap) (n + m) (xs ++ news) → w.grownBy w' none → wpList P ops Q rest (a.put o.dst (.slice ob (n + m) cap)) w') : wpList P ops Q (o :: rest) a w := by
  refine wpList_plain hgd fun K hK => ?_
  obtain ⟨v', w', hr, h2, h3⟩ := run_append_full (P := P) w t o.type e i z size bytes ht hi hz hsize hby hzs hsz oa n xs hlo hold ad m c news hl hnews h1 hm h63 hbytes
  obtain ⟨ob, cap, rfl⟩ := app_form h2
  unfold Oper.wp execOp
  simp only [ho, resolve, invoke, builtin, Sem.run_bind, Sem.run_pure, Result.andThen_ok, List.map_toArray, List.map_cons, List.map_nil, hs, hx, hr]
  exact hK _ _ (h ob cap w' h2 h3)
theorem Ints.put {u : World} {a : Option Addr} {xs : List Int} {c o l k : Nat} {s : Option Addr} {x : Value} (h : Ints u a xs) (hc : u.cell? ⟨c, o, none⟩ = some (.slice s l k)) : Ints (u.setCell ⟨c, o, none⟩ x) a xs := by
  refine ⟨h.1, ?_⟩
  rcases h.2 with h0 | ⟨cb, co, rfl, q⟩
  · exact .inl h0
  · refine .inr ⟨cb, co, rfl, fun i hi => (World.cell?_setCell_other _ _ _ _ (fun e => ?_)).trans (q i hi)⟩
    have := q i hi
    rw [← e, hc] at this
    cases this
theorem Bools.put {u : World} {a : Option Addr} {xs : List Bool} {c o l k : Nat} {s : Option Addr} {x : Value} (h : Bools u a xs) (hc : u.cell? ⟨c, o, none⟩ = some (.slice s l k)) : Bools (u.setCell ⟨c, o, none⟩ x) a xs := by
  refine ⟨h.1, ?_⟩
  rcases h.2 with h0 | ⟨cb, co, rfl, q⟩
  · exact .inl h0
  · refine .inr ⟨cb, co, rfl, fun i hi => (World.cell?_setCell_other _ _ _ _ (fun e => ?_)).trans (q i hi)⟩
    have := q i hi
    rw [← e, hc] at this
    cases this
/-- A box elsewhere that holds slices is written. -/
theorem SF.ps {u : World} {lo c o l k : Nat} {s : Option Addr} {x : Value} {oa ob oc : Option Addr} {is : List Int} {bs : List Bool} {js : List (List Int)} (h : SF u lo oa ob oc is bs js) (hc : u.cell? ⟨c, o, none⟩ = some (.slice s l k)) (hne : ∀ x, oc = some x → 0 < js.length → x.block ≠ c) : SF (u.setCell ⟨c, o, none⟩ x) lo oa ob oc is bs js := by
  refine ⟨⟨h.1.1.put hc, h.1.2⟩, ⟨h.2.1.1.put hc, h.2.1.2⟩, h.2.2.1, ?_⟩
  rcases h.2.2.2 with h0 | ⟨cb, co, e, hlo, q⟩
  · exact .inl h0
  · refine .inr ⟨cb, co, e, hlo, fun i hi => ?_⟩
    obtain ⟨b, c2, q1, q2, q3⟩ := q i hi
    exact ⟨b, c2, (World.cell?_setCell_other _ _ _ _ (fun e2 => hne _ e (by omega) (congrArg Addr.block e2).symm)).trans q1, q2.put hc, q3⟩
theorem wpList_app_at {P : Program} (w : World) {ops : Array Oper} {rest : List Oper} {o : Oper} {a : Act} {Q : Exit → Act → World → Prop} (hgd : o.guard = none) (s x : Operand) (t : TypeId)
    (ho : o.op = .call { callee := .builtin .append, args := #[s, x], argTypes := #[t, t] })
    (base : Nat) (e : TypeId) (i : TypeInfo) (z : Value) (size bytes : Nat) (ht : P.underlying t = some (.slice e)) (hi : P.info? e = some i) (hz : i.zero = some z)
    (hsize : i.size = size) (hby : i.bytes = bytes) (hzs : z.cells.size = size) (hsz : 0 < size)
    (v : Value) (n : Nat) (xs : List Value) (hs : a.eval s = v) (hown : w.ownsRow base e size v n xs)
    (ad : Addr) (m c : Nat) (news : List Value) (hx : a.eval x = .slice (some ad) m c) (hl : news.length = m * size) (hnews : ∀ j u, news[j]? = some u → w.cell? (ad.add j) = some u) (h1 : ∀ u ∈ news, u.oneCell' = true)
    (h63 : n + m ≤ maxLen) (hbytes : (n + m) * bytes ≤ 140737488355328) (hbase : base ≤ w.heap.size)
    (h : ∀ ob cap w', w'.ownsRow base e size (.slice ob (n + m) cap) (n + m) (xs ++ news) → w.grownBy w' v.ownBlock → (Value.ownBlock (.slice ob (n + m) cap) = v.ownBlock ∨ Value.ownBlock (.slice ob (n + m) cap) = some w.heap.size) → wpList P ops Q rest (a.put o.dst (.slice ob (n + m) cap)) w') : wpList P ops Q (o :: rest) a w := by
  refine wpList_plain hgd fun K hK => ?_
  obtain ⟨v', w', hr, h2, h3, _, h5⟩ := run_append_own_at (P := P) w base t o.type e i z size bytes ht hi hz hsize hby hzs hsz v n xs hown ad m c news hl hnews h1 h63 hbytes hbase
  obtain ⟨ob, cap, rfl⟩ := app_form h2
  unfold Oper.wp execOp
  simp only [ho, resolve, invoke, builtin, Sem.run_bind, Sem.run_pure, Result.andThen_ok, List.map_toArray, List.map_cons, List.map_nil, hs, hx, hr]
  exact hK _ _ (h ob cap w' h2 h3 h5)
end Go.Proofs.YtpdnnpnclgcpoaaDoor

