/- What stays while bounds are drawn and hurt. -/
import Derived.Test.YtpdnnpnclgcpoaaDoorHurC
import Derived.Test.YtpdnnpnclgcpoaaDoorDecB
import Derived.Test.YtpdnnpnclgcpoaaDoorJpZ
namespace Go.Proofs.YtpdnnpnclgcpoaaDoor
open Go.RowKit Go.Iv
set_option linter.unusedSimpArgs false
set_option linter.unusedVariables false

theorem Strs.at' {u v : World} {a : Option Addr} {xs : List ByteArray} (h : Strs u a xs) (hb : ∀ x, a = some x → 0 < xs.length → v.heap[x.block]? = u.heap[x.block]?) : Strs v a xs := by
  refine ⟨h.1, ?_⟩
  rcases h.2 with h0 | ⟨cb, co, rfl, hc⟩
  · exact .inl h0
  · exact .inr ⟨cb, co, rfl, fun i hi => (World.cell?_of_block (w := u) (a := ⟨cb, co + i, none⟩) (hb ⟨cb, co, none⟩ rfl (by omega))).trans (hc i hi)⟩
theorem Arrs.at' {u v : World} {a : Option Addr} {xs : List (ByteArray × Int)} (h : Arrs u a xs) (hb : ∀ x, a = some x → 0 < xs.length → v.heap[x.block]? = u.heap[x.block]?) : Arrs v a xs := by
  refine ⟨h.1, ?_⟩
  rcases h.2 with h0 | ⟨cb, co, rfl, hc⟩
  · exact .inl h0
  · exact .inr ⟨cb, co, rfl, fun i hi => ⟨(World.cell?_of_block (w := u) (a := ⟨cb, co + i * 2, none⟩) (hb ⟨cb, co, none⟩ rfl (by omega))).trans (hc i hi).1, (World.cell?_of_block (w := u) (a := ⟨cb, co + i * 2 + 1, none⟩) (hb ⟨cb, co, none⟩ rfl (by omega))).trans (hc i hi).2⟩⟩
theorem Strs.lt' {u : World} {a : Option Addr} {xs : List ByteArray} (h : Strs u a xs) : ∀ x, a = some x → 0 < xs.length → x.block < u.heap.size := by
  intro x hx h0
  rcases h.2 with h1 | ⟨cb, co, e, hc⟩
  · omega
  · rw [hx] at e
    cases e
    exact World.block_lt_of_cell? u _ (hc 0 h0)
theorem Arrs.lt' {u : World} {a : Option Addr} {xs : List (ByteArray × Int)} (h : Arrs u a xs) : ∀ x, a = some x → 0 < xs.length → x.block < u.heap.size := by
  intro x hx h0
  rcases h.2 with h1 | ⟨cb, co, e, hc⟩
  · omega
  · rw [hx] at e
    cases e
    exact World.block_lt_of_cell? u _ (hc 0 h0).1
/-- The rows of a declaration, and between which blocks they lie. -/
def DeP (u : World) (lo hi : Nat) (a1 a2 a3 : Option Addr) (vs fs : List ByteArray) (rs : List (ByteArray × Int)) : Prop :=
  Strs u a1 vs ∧ Strs u a2 fs ∧ Arrs u a3 rs ∧ (∀ x, a1 = some x → 0 < vs.length → lo ≤ x.block ∧ x.block < hi) ∧ (∀ x, a2 = some x → 0 < fs.length → lo ≤ x.block ∧ x.block < hi) ∧ (∀ x, a3 = some x → 0 < rs.length → lo ≤ x.block ∧ x.block < hi) ∧ hi ≤ u.heap.size
section
variable {u v : World} {lo hi : Nat} {a1 a2 a3 : Option Addr} {vs fs : List ByteArray} {rs : List (ByteArray × Int)}
theorem DeP.of (h1 : Strs u a1 vs) (h2 : Strs u a2 fs) (h3 : Arrs u a3 rs) (hf : ∀ x, a1 = some x ∨ a2 = some x ∨ a3 = some x → lo ≤ x.block) : DeP u lo u.heap.size a1 a2 a3 vs fs rs :=
  ⟨h1, h2, h3, fun x e h => ⟨hf x (.inl e), h1.lt' x e h⟩, fun x e h => ⟨hf x (.inr (.inl e)), h2.lt' x e h⟩, fun x e h => ⟨hf x (.inr (.inr e)), h3.lt' x e h⟩, Nat.le_refl _⟩
theorem DeP.at' (h : DeP u lo hi a1 a2 a3 vs fs rs) (hb : ∀ g, lo ≤ g → g < hi → v.heap[g]? = u.heap[g]?) (hs : u.heap.size ≤ v.heap.size) : DeP v lo hi a1 a2 a3 vs fs rs :=
  ⟨h.1.at' fun x e h0 => hb _ (h.2.2.2.1 x e h0).1 (h.2.2.2.1 x e h0).2, h.2.1.at' fun x e h0 => hb _ (h.2.2.2.2.1 x e h0).1 (h.2.2.2.2.1 x e h0).2, h.2.2.1.at' fun x e h0 => hb _ (h.2.2.2.2.2.1 x e h0).1 (h.2.2.2.2.2.1 x e h0).2, h.2.2.2.1, h.2.2.2.2.1, h.2.2.2.2.2.1, Nat.le_trans h.2.2.2.2.2.2 hs⟩
theorem DeP.call (h : DeP u lo hi a1 a2 a3 vs fs rs) (k : Below u.heap.size u v) : DeP v lo hi a1 a2 a3 vs fs rs := h.at' (fun g _ h2 => k.block g (Nat.lt_of_lt_of_le h2 h.2.2.2.2.2.2)) k.size
theorem DeP.kp {b : Nat} (h : DeP u lo hi a1 a2 a3 vs fs rs) (k : Kp b u v) (hb : b < lo) : DeP v lo hi a1 a2 a3 vs fs rs := h.at' (fun g h1 h2 => k.block g (Nat.lt_of_lt_of_le h2 h.2.2.2.2.2.2) (by omega)) k.size
theorem DeP.set {c o : Nat} (h : DeP u lo hi a1 a2 a3 vs fs rs) (hc : c < lo ∨ hi ≤ c) (x : Value) : DeP (u.setCell ⟨c, o, none⟩ x) lo hi a1 a2 a3 vs fs rs := h.at' (fun g h1 h2 => Below.heap_setCell _ _ _ _ (by show g ≠ c; omega)) (by simp [World.setCell])
theorem DeP.hu {b len cap : Nat} {a oa : Option Addr} (h : DeP u lo hi a1 a2 a3 vs fs rs) (k : HuQ b a len cap oa u v) (hb : b < lo) (ho : ∀ x, oa = some x → hi ≤ x.block) : DeP v lo hi a1 a2 a3 vs fs rs :=
  h.at' (fun g h1 h2 => k.2.2.2.2.2 g (Nat.lt_of_lt_of_le h2 h.2.2.2.2.2.2) (by omega) (fun x e => by have := ho x e; omega)) k.2.2.2.2.1
end
theorem C3.hu {u v : World} {g b len cap : Nat} {a oa : Option Addr} {x y z : Value} (h : C3 u g x y z) (k : HuQ b a len cap oa u v) (h1 : g ≠ b) (h2 : ∀ x, oa = some x → x.block ≠ g) : C3 v g x y z := by
  have hg := k.2.2.2.2.2 g h.lt h1 h2
  exact ⟨(World.cell?_of_block (w := u) hg).trans h.1, (World.cell?_of_block (w := u) hg).trans h.2.1, (World.cell?_of_block (w := u) hg).trans h.2.2.1, fun o => (World.frozen?_of_block (w := u) hg).trans (h.2.2.2 o)⟩
theorem RowsE.hu {u v : World} {B b len cap ca cb : Nat} {a oa ob oc : Option Addr} {xs ys : List (Int × Int)} (h : RowsE u B oa ca ob cb xs ys) (k : HuQ b a len cap oc u v) (hb : b < B) (h1 : ∀ x y, oa = some x → oc = some y → y.block ≠ x.block) (h2 : ∀ x y, ob = some x → oc = some y → y.block ≠ x.block) : RowsE v B oa ca ob cb xs ys := by
  refine ⟨own_at h.1 fun g hg => ?_, own_at h.2.1 fun g hg => ?_, h.2.2⟩
  · have l := h.1.lt g hg
    refine k.2.2.2.2.2 g l.2 (by omega) fun y hy => ?_
    cases oa with
    | none => cases hg
    | some x =>
      have e : x.block = g := by simpa [Value.ownBlock] using hg
      have := h1 x y rfl hy
      omega
  · have l := h.2.1.lt g hg
    refine k.2.2.2.2.2 g l.2 (by omega) fun y hy => ?_
    cases ob with
    | none => cases hg
    | some x =>
      have e : x.block = g := by simpa [Value.ownBlock] using hg
      have := h2 x y rfl hy
      omega
theorem HuQ.below {b len cap W : Nat} {a oa : Option Addr} {w u : World} (h : HuQ b a len cap oa w u) (hW : W ≤ b) (hs : W ≤ w.heap.size) (ho : ∀ x, oa = some x → W ≤ x.block) : Below W w u :=
  ⟨h.2.1, h.2.2.1, h.2.2.2.1, h.2.2.2.2.1, fun k hk => h.2.2.2.2.2 k (by omega) (by omega) (fun x e => by have := ho x e; omega)⟩
/-- Nine cells of three boxes. -/
@[reducible] def S7 (gd ga gb : Nat) (x0 x1 x2 y0 y1 y2 z0 z1 z2 : Value) (u : World) : Prop :=
  u.cell? ⟨gd, 0, none⟩ = some x0 ∧ u.cell? ⟨gd, 1, none⟩ = some x1 ∧ u.cell? ⟨gd, 2, none⟩ = some x2 ∧ u.cell? ⟨ga, 0, none⟩ = some y0 ∧ u.cell? ⟨ga, 1, none⟩ = some y1 ∧ u.cell? ⟨ga, 2, none⟩ = some y2 ∧ u.cell? ⟨gb, 0, none⟩ = some z0 ∧ u.cell? ⟨gb, 1, none⟩ = some z1 ∧ u.cell? ⟨gb, 2, none⟩ = some z2
theorem S7.of {gd ga gb : Nat} {x0 x1 x2 y0 y1 y2 z0 z1 z2 : Value} {u : World} (h1 : C3 u gd x0 x1 x2) (h2 : C3 u ga y0 y1 y2) (h3 : C3 u gb z0 z1 z2) : S7 gd ga gb x0 x1 x2 y0 y1 y2 z0 z1 z2 u :=
  ⟨h1.1, h1.2.1, h1.2.2.1, h2.1, h2.2.1, h2.2.2.1, h3.1, h3.2.1, h3.2.2.1⟩
theorem S7.set {gd ga gb c o : Nat} {x0 x1 x2 y0 y1 y2 z0 z1 z2 : Value} {u : World} (h : S7 gd ga gb x0 x1 x2 y0 y1 y2 z0 z1 z2 u) (h1 : c ≠ gd) (h2 : c ≠ ga) (h3 : c ≠ gb) (x : Value) : S7 gd ga gb x0 x1 x2 y0 y1 y2 z0 z1 z2 (u.setCell ⟨c, o, none⟩ x) := by
  obtain ⟨q0, q1, q2, q3, q4, q5, q6, q7, q8⟩ := h
  have k : ∀ {g p : Nat} {y : Value}, u.cell? ⟨g, p, none⟩ = some y → c ≠ g → (u.setCell ⟨c, o, none⟩ x).cell? ⟨g, p, none⟩ = some y := fun e hne => (World.cell?_setCell_other _ _ _ _ (fun e2 => hne (congrArg Addr.block e2))).trans e
  exact ⟨k q0 h1, k q1 h1, k q2 h1, k q3 h2, k q4 h2, k q5 h2, k q6 h3, k q7 h3, k q8 h3⟩
end Go.Proofs.YtpdnnpnclgcpoaaDoor
