/- What stands while bounds are drawn. -/
import Derived.Test.YthpnbmdmkmkicaaDoorSmaA
import Derived.Test.YthpnbmdmkmkicaaDoorCopD
import Derived.Test.YthpnbmdmkmkicaaDoorIntR
namespace Go.Proofs.YthpnbmdmkmkicaaDoor
open Go.RowKit Go.Iv
set_option linter.unusedSimpArgs false
set_option linter.unusedVariables false

/-- Ends that are numbers of the program. -/
def InL (zs : List (Int × Int)) : Prop := ∀ p ∈ zs, In p.1 ∧ In p.2
theorem InL.nil : InL [] := fun p h => by cases h
theorem InL.snoc {zs : List (Int × Int)} {l g : Int} (h : InL zs) (hl : In l) (hg : In g) : InL (zs ++ [(l, g)]) := fun p hp => by
  rcases List.mem_append.1 hp with h1 | h1
  · exact h p h1
  · rw [List.mem_singleton.1 h1]; exact ⟨hl, hg⟩
theorem InL.set {zs : List (Int × Int)} {l g : Int} {k : Nat} (h : InL zs) (hl : In l) (hg : In g) : InL (zs.set k (l, g)) := fun p hp => by
  rcases List.mem_or_eq_of_mem_set hp with h1 | h1
  · exact h p h1
  · rw [h1]; exact ⟨hl, hg⟩
theorem C3.kp {u v : World} {g b : Nat} {x y z : Value} (h : C3 u g x y z) (k : Kp b u v) (hne : g ≠ b) : C3 v g x y z := by
  have hg := k.block g h.lt hne
  exact ⟨(World.cell?_of_block (w := u) hg).trans h.1, (World.cell?_of_block (w := u) hg).trans h.2.1, (World.cell?_of_block (w := u) hg).trans h.2.2.1, fun o => (World.frozen?_of_block (w := u) hg).trans (h.2.2.2 o)⟩
theorem own_kp {w w' : World} {base b : Nat} {e : TypeId} {size n : Nat} {v : Value} {xs : List Value} (h : w.ownsRow base e size v n xs) (k : Kp b w w') (hb : b < base) : w'.ownsRow base e size v n xs := by
  refine ⟨h.1, ?_⟩
  rcases h.2 with hn | ⟨g, cap, cur, hv, hbg, hg, r⟩
  · exact .inl hn
  · exact .inr ⟨g, cap, cur, hv, hbg, by rw [k.block g (Array.getElem?_eq_some_iff.1 hg).1 (by omega)]; exact hg, r⟩
theorem own_grown {u v : World} {B : Nat} {e : TypeId} {k n : Nat} {val : Value} {xs : List Value} {row : Option Nat} (h : u.ownsRow B e k val n xs) (hg : u.grownBy v row) (hne : ∀ g, val.ownBlock = some g → some g ≠ row) : v.ownsRow B e k val n xs := by
  have l := h
  refine ⟨h.1, ?_⟩
  rcases h.2 with h0 | ⟨g, cap, cur, hv, hB, hgb, r⟩
  · exact .inl h0
  · refine .inr ⟨g, cap, cur, hv, hB, (hg.block g (l.lt g (by rw [hv]; rfl)).2 (hne g (by rw [hv]; rfl))).trans hgb, r⟩
theorem Left.grown {b len cap : Nat} {a : Option Addr} {u w v : World} {row : Option Nat} (h : Left b a len cap u w) (hg : w.grownBy v row) (hr : ∀ j, row = some j → u.heap.size ≤ j) (hb : b < u.heap.size) (hcode : ∀ x, a = some x → 0 < len → x.block < u.heap.size) : Left b a len cap u v := by
  have hs := h.2.size
  refine ⟨?_, ⟨hg.os.trans h.2.os, hg.tape.trans h.2.tape, hg.output.trans h.2.output, Nat.le_trans h.2.size hg.size, fun k hk hne => (hg.block k (by omega) (fun e => by have := hr k e.symm; omega)).trans (h.2.block k hk hne)⟩⟩
  cases row with
  | none => exact h.1.kept (b' := w.heap.size) ⟨hg.os, hg.tape, hg.output, hg.size, fun k hk _ => hg.block k hk (by simp)⟩ (by omega) (fun x hx hl => by have := hcode x hx hl; omega)
  | some j => exact h.1.kept (b' := j) ⟨hg.os, hg.tape, hg.output, hg.size, fun k hk hne => hg.block k hk (fun e => hne (by injection e))⟩ (by have := hr j rfl; omega) (fun x hx hl => by have := hcode x hx hl; have := hr j rfl; omega)
theorem RowsE.kp {w w' : World} {B ca cb b : Nat} {oa ob : Option Addr} {xs ys : List (Int × Int)} (h : RowsE w B oa ca ob cb xs ys) (k : Kp b w w') (hb : b < B) : RowsE w' B oa ca ob cb xs ys := ⟨own_kp h.1 k hb, own_kp h.2.1 k hb, h.2.2⟩
/-- The reader, the declaration's box, the answer's, that of the bounds, their rows. -/
def EnP (w0 : World) (b : Nat) (a : Option Addr) (len cap gd gr ge B : Nat) (x y z : Value) (oa : Option Addr) (ca : Nat) (ob : Option Addr) (cb : Nat) (xs ys : List (Int × Int)) (u : World) : Prop :=
  Left b a len cap w0 u ∧ C3 u gd x y z ∧ C3 u gr (.bool false) (.slice none 0 0) (.slice none 0 0) ∧ C3 u ge (.bool true) (.slice oa xs.length ca) (.slice ob ys.length cb) ∧ RowsE u B oa ca ob cb xs ys
/-- Their order. -/
def EnN (w0 : World) (b : Nat) (a : Option Addr) (len gd gr ge B : Nat) : Prop := b < w0.heap.size ∧ w0.heap.size ≤ gd ∧ w0.heap.size ≤ gr ∧ gd < ge ∧ gr < ge ∧ ge < B ∧ ∀ x, a = some x → 0 < len → x.block < w0.heap.size
section
variable {w0 : World} {b : Nat} {a : Option Addr} {len cap gd gr ge B : Nat} {x y z : Value} {oa ob : Option Addr} {ca cb : Nat} {xs ys : List (Int × Int)} {u v : World}
theorem EnP.kp (h : EnP w0 b a len cap gd gr ge B x y z oa ca ob cb xs ys u) (n : EnN w0 b a len gd gr ge B) (k : Left b a len cap u v) : EnP w0 b a len cap gd gr ge B x y z oa ca ob cb xs ys v := by
  obtain ⟨n1, n2, n3, n4, n5, n6, _⟩ := n
  exact ⟨h.1.trans k, h.2.1.kp k.2 (by omega), h.2.2.1.kp k.2 (by omega), h.2.2.2.1.kp k.2 (by omega), h.2.2.2.2.kp k.2 (by omega)⟩
theorem EnP.alloc (h : EnP w0 b a len cap gd gr ge B x y z oa ca ob cb xs ys u) (o : Obj) : EnP w0 b a len cap gd gr ge B x y z oa ca ob cb xs ys (u.alloc o) :=
  ⟨h.1.alloc o, h.2.1.alloc o, h.2.2.1.alloc o, h.2.2.2.1.alloc o, h.2.2.2.2.call ((Below.refl _ u).alloc (Nat.le_refl _) o)⟩
theorem EnP.drew (h : EnP w0 b a len cap gd gr ge B x y z oa ca ob cb xs ys u) : EnP w0 b a len cap gd gr ge B x y z oa ca ob cb xs ys u.drew :=
  ⟨h.1.drew, h.2.1, h.2.2.1, h.2.2.2.1, h.2.2.2.2⟩
theorem cellsV_snoc (xs : List (Int × Int)) (l g : Int) : cellsV (xs ++ [(l, g)]) = cellsV xs ++ [.int .i64 l, .int .i64 g] := by rw [cellsV_app]; rfl
/-- What is appended to the first row. -/
theorem EnP.app1 (h : EnP w0 b a len cap gd gr ge B x y z oa ca ob cb xs ys u) (n : EnN w0 b a len gd gr ge B) {oa' : Option Addr} {ca' : Nat} {l g : Int} (hB : B ≤ u.heap.size)
    (hown : v.ownsRow B 47 2 (.slice oa' (xs.length + 1) ca') (xs.length + 1) (cellsV xs ++ [.int .i64 l, .int .i64 g])) (hg : u.grownBy v (Value.slice oa xs.length ca).ownBlock) (hloc : (Value.slice oa' (xs.length + 1) ca').ownBlock = (Value.slice oa xs.length ca).ownBlock ∨ (Value.slice oa' (xs.length + 1) ca').ownBlock = some u.heap.size) :
    EnP w0 b a len cap gd gr ge B x y z oa' ca' ob cb (xs ++ [(l, g)]) ys (v.setCell ⟨ge, 1, none⟩ (.slice oa' (xs.length + 1) ca')) ∧ C3 v ge (.bool true) (.slice oa xs.length ca) (.slice ob ys.length cb) := by
  obtain ⟨n1, n2, n3, n4, n5, n6, n7⟩ := n
  obtain ⟨h1, h2, h3, h4, h5, h6, h7⟩ := h
  have hj : ∀ j, (Value.slice oa xs.length ca).ownBlock = some j → B ≤ j := fun j e => (h5.lt j e).1
  have el : (xs ++ [(l, g)]).length = xs.length + 1 := by simp
  have k4 := h4.grown hg (fun e => by have := hj _ e.symm; omega)
  refine ⟨⟨(h1.grown hg (fun j e => by have := hj j e; omega) n1 n7).set (by omega) n1 n7 _, (h2.grown hg (fun e => by have := hj _ e.symm; omega)).other (by omega), (h3.grown hg (fun e => by have := hj _ e.symm; omega)).other (by omega), by rw [el]; exact k4.set1 _, ?_⟩, k4⟩
  refine RowsE.set ⟨by rw [el, cellsV_snoc]; exact hown, own_grown h6 hg (fun q e1 e2 => ?_), fun p q hp hq e => ?_⟩ (by omega)
  · cases oa with
    | none => simp [Value.ownBlock] at e2
    | some p =>
      cases ob with
      | none => simp [Value.ownBlock] at e1
      | some r =>
        have e3 : r.block = q := by simpa [Value.ownBlock] using e1
        have e4 : q = p.block := by simpa [Value.ownBlock] using e2
        exact h7 p r rfl rfl (by omega)
  · subst hp
    subst hq
    have b1 := (h6.lt q.block (by simp [Value.ownBlock])).2
    rcases hloc with e1 | e1
    · cases oa with
      | none => simp [Value.ownBlock] at e1
      | some r => exact h7 r q rfl rfl (by have : p.block = r.block := by simpa [Value.ownBlock] using e1
                                           omega)
    · have : p.block = u.heap.size := by simpa [Value.ownBlock] using e1
      omega
/-- What is appended to the second row. -/
theorem EnP.app2 (h : EnP w0 b a len cap gd gr ge B x y z oa ca ob cb xs ys u) (n : EnN w0 b a len gd gr ge B) {ob' : Option Addr} {cb' : Nat} {l g : Int} (hB : B ≤ u.heap.size)
    (hown : v.ownsRow B 47 2 (.slice ob' (ys.length + 1) cb') (ys.length + 1) (cellsV ys ++ [.int .i64 l, .int .i64 g])) (hg : u.grownBy v (Value.slice ob ys.length cb).ownBlock) (hloc : (Value.slice ob' (ys.length + 1) cb').ownBlock = (Value.slice ob ys.length cb).ownBlock ∨ (Value.slice ob' (ys.length + 1) cb').ownBlock = some u.heap.size) :
    EnP w0 b a len cap gd gr ge B x y z oa ca ob' cb' xs (ys ++ [(l, g)]) (v.setCell ⟨ge, 2, none⟩ (.slice ob' (ys.length + 1) cb')) ∧ C3 v ge (.bool true) (.slice oa xs.length ca) (.slice ob ys.length cb) := by
  obtain ⟨n1, n2, n3, n4, n5, n6, n7⟩ := n
  obtain ⟨h1, h2, h3, h4, h5, h6, h7⟩ := h
  have hj : ∀ j, (Value.slice ob ys.length cb).ownBlock = some j → B ≤ j := fun j e => (h6.lt j e).1
  have el : (ys ++ [(l, g)]).length = ys.length + 1 := by simp
  have k4 := h4.grown hg (fun e => by have := hj _ e.symm; omega)
  refine ⟨⟨(h1.grown hg (fun j e => by have := hj j e; omega) n1 n7).set (by omega) n1 n7 _, (h2.grown hg (fun e => by have := hj _ e.symm; omega)).other (by omega), (h3.grown hg (fun e => by have := hj _ e.symm; omega)).other (by omega), by rw [el]; exact k4.set2 _, ?_⟩, k4⟩
  refine RowsE.set ⟨own_grown h5 hg (fun q e1 e2 => ?_), by rw [el, cellsV_snoc]; exact hown, fun p q hp hq e => ?_⟩ (by omega)
  · cases ob with
    | none => simp [Value.ownBlock] at e2
    | some p =>
      cases oa with
      | none => simp [Value.ownBlock] at e1
      | some r =>
        have e3 : r.block = q := by simpa [Value.ownBlock] using e1
        have e4 : q = p.block := by simpa [Value.ownBlock] using e2
        exact h7 r p rfl rfl (by omega)
  · subst hp
    subst hq
    have b1 := (h5.lt p.block (by simp [Value.ownBlock])).2
    rcases hloc with e1 | e1
    · cases ob with
      | none => simp [Value.ownBlock] at e1
      | some r => exact h7 p r rfl rfl (by have : q.block = r.block := by simpa [Value.ownBlock] using e1
                                           omega)
    · have : q.block = u.heap.size := by simpa [Value.ownBlock] using e1
      omega
end
end Go.Proofs.YthpnbmdmkmkicaaDoor
