/- Rows of a declaration and of two bounds; boxes. -/
import Derived.Test.YtpdnnpnclgcpoaaDoorSoZ
import Derived.Test.YtpdnnpnclgcpoaaDoorDrwH
namespace Go.Proofs.YtpdnnpnclgcpoaaDoor
open Go.RowKit Go.Iv
set_option linter.unusedSimpArgs false
set_option linter.unusedVariables false

def IsRow (k : IntKind) (w : World) (a : Option Addr) (len cap : Nat) (zs : List Int) : Prop :=
  (a = none ∧ len = 0 ∧ cap = 0 ∧ zs = []) ∨
  ∃ x, a = some x ∧ len ≤ cap ∧ cap ≤ maxLen ∧ zs.length = cap ∧ (∀ i, i < zs.length → w.cell? (x.add i) = some (.int k (zs.getD i 0))) ∧ ∀ n ∈ zs, (Lit.int k n).wf = true
/-- The words, and the rows of a declaration and of two bounds. -/
def OrR (w : World) (a1 a2 a3 : Option Addr) (vs fs : List ByteArray) (rs : List (ByteArray × Int)) (oa ob : Option Addr) (xs ys : List (Int × Int)) (oc od : Option Addr) (xs2 ys2 : List (Int × Int)) : Prop :=
  KW w ∧ Strs w a1 vs ∧ Strs w a2 fs ∧ Arrs w a3 rs ∧ Ivs w oa xs ∧ Ivs w ob ys ∧ Ivs w oc xs2 ∧ Ivs w od ys2
theorem OrR.call {w w1 : World} {a1 a2 a3 : Option Addr} {vs fs : List ByteArray} {rs : List (ByteArray × Int)} {oa ob oc od : Option Addr} {xs ys xs2 ys2 : List (Int × Int)} (h : OrR w a1 a2 a3 vs fs rs oa ob xs ys oc od xs2 ys2) (k : Below w.heap.size w w1) : OrR w1 a1 a2 a3 vs fs rs oa ob xs ys oc od xs2 ys2 :=
  ⟨h.1.call k, h.2.1.call k, h.2.2.1.call k, h.2.2.2.1.call k, h.2.2.2.2.1.call k, h.2.2.2.2.2.1.call k, h.2.2.2.2.2.2.1.call k, h.2.2.2.2.2.2.2.call k⟩
theorem env_few {vs fs : List ByteArray} {rs : List (ByteArray × Int)} {li : Bool} {xs ys : List (Int × Int)} (h : envB vs fs rs li xs ys = true) : xs.length ≤ 5 ∧ ys.length ≤ 2 := by
  have k : declP vs fs rs := of_decide_eq_true (env_decl h)
  have k1 := k.1
  have k2 := k.2.2.1
  rcases env_fit h with ⟨_, h1, h2⟩ | ⟨_, h1, h2, _⟩ <;> omega
theorem same_again {u : World} {jl : Bool} {oj ok oj2 ok2 : Option Addr} {cj ck cj2 ck2 : Nat} {jx jy : List (Int × Int)} (h : Ivs u oj2 jx ∧ Ivs u ok2 jy) (h2 : Ivs u oj jx ∧ Ivs u ok jy) :
    Calls Tryd.prog 30 #[.agg #[.bool jl, .slice oj2 jx.length cj2, .slice ok2 jy.length ck2], .agg #[.bool jl, .slice oj jx.length cj, .slice ok jy.length ck]] u fun e w' => e = .returned (.bool true) ∧ Below u.heap.size u w' := by
  have q := sameEnv_c jl oj2 ok2 cj2 ck2 jx jy jl oj ok cj ck jx jy u h.1 h.2 h2.1 h2.2
  rw [sam_self] at q
  exact q
/-- Fifteen cells of five boxes. -/
@[reducible] def S15 (w0 : World) (b p q : Nat) (x0 x1 x2 y0 y1 y2 z0 z1 z2 s0 s1 s2 t0 t1 t2 : Value) (u : World) : Prop :=
  u.cell? ⟨b, 0, none⟩ = some x0 ∧ u.cell? ⟨b, 1, none⟩ = some x1 ∧ u.cell? ⟨b, 2, none⟩ = some x2 ∧ u.cell? ⟨b + 1, 0, none⟩ = some y0 ∧ u.cell? ⟨b + 1, 1, none⟩ = some y1 ∧ u.cell? ⟨b + 1, 2, none⟩ = some y2 ∧ u.cell? ⟨b + 2, 0, none⟩ = some z0 ∧ u.cell? ⟨b + 2, 1, none⟩ = some z1 ∧ u.cell? ⟨b + 2, 2, none⟩ = some z2 ∧
  u.cell? ⟨p, 0, none⟩ = some s0 ∧ u.cell? ⟨p, 1, none⟩ = some s1 ∧ u.cell? ⟨p, 2, none⟩ = some s2 ∧ u.cell? ⟨q, 0, none⟩ = some t0 ∧ u.cell? ⟨q, 1, none⟩ = some t1 ∧ u.cell? ⟨q, 2, none⟩ = some t2 ∧ Hid ((C3 u b x0 x1 x2 ∧ C3 u (b + 1) y0 y1 y2 ∧ C3 u (b + 2) z0 z1 z2) ∧ C3 u p s0 s1 s2 ∧ C3 u q t0 t1 t2 ∧ Below w0.heap.size w0 u)
theorem S15.of {w0 : World} {b p q : Nat} {x0 x1 x2 y0 y1 y2 z0 z1 z2 s0 s1 s2 t0 t1 t2 : Value} {u : World} (h : C3 u b x0 x1 x2) (h1 : C3 u (b + 1) y0 y1 y2) (h2 : C3 u (b + 2) z0 z1 z2) (h3 : C3 u p s0 s1 s2) (h4 : C3 u q t0 t1 t2) (k : Below w0.heap.size w0 u) : S15 w0 b p q x0 x1 x2 y0 y1 y2 z0 z1 z2 s0 s1 s2 t0 t1 t2 u :=
  ⟨h.1, h.2.1, h.2.2.1, h1.1, h1.2.1, h1.2.2.1, h2.1, h2.2.1, h2.2.2.1, h3.1, h3.2.1, h3.2.2.1, h4.1, h4.2.1, h4.2.2.1, hide ⟨⟨h, h1, h2⟩, h3, h4, k⟩⟩
theorem S15.out {w0 : World} {b p q : Nat} {x0 x1 x2 y0 y1 y2 z0 z1 z2 s0 s1 s2 t0 t1 t2 : Value} {u : World} (h : S15 w0 b p q x0 x1 x2 y0 y1 y2 z0 z1 z2 s0 s1 s2 t0 t1 t2 u) : (C3 u b x0 x1 x2 ∧ C3 u (b + 1) y0 y1 y2 ∧ C3 u (b + 2) z0 z1 z2) ∧ C3 u p s0 s1 s2 ∧ C3 u q t0 t1 t2 ∧ Below w0.heap.size w0 u := unhide h.2.2.2.2.2.2.2.2.2.2.2.2.2.2.2
theorem S15.call {w0 : World} {b p q : Nat} {x0 x1 x2 y0 y1 y2 z0 z1 z2 s0 s1 s2 t0 t1 t2 : Value} {u v : World} (h : S15 w0 b p q x0 x1 x2 y0 y1 y2 z0 z1 z2 s0 s1 s2 t0 t1 t2 u) (k : Below u.heap.size u v) : S15 w0 b p q x0 x1 x2 y0 y1 y2 z0 z1 z2 s0 s1 s2 t0 t1 t2 v :=
  S15.of (h.out.1.1.call k) (h.out.1.2.1.call k) (h.out.1.2.2.call k) (h.out.2.1.call k) (h.out.2.2.1.call k) (h.out.2.2.2.trans (k.mono h.out.2.2.2.size))
theorem S15.drew {w0 : World} {b p q : Nat} {x0 x1 x2 y0 y1 y2 z0 z1 z2 s0 s1 s2 t0 t1 t2 : Value} {u : World} (h : S15 w0 b p q x0 x1 x2 y0 y1 y2 z0 z1 z2 s0 s1 s2 t0 t1 t2 u) : S15 w0 b p q x0 x1 x2 y0 y1 y2 z0 z1 z2 s0 s1 s2 t0 t1 t2 u.drew := h.call (Below.refl _ _).drew
theorem S15.bel {w0 : World} {b p q : Nat} {x0 x1 x2 y0 y1 y2 z0 z1 z2 s0 s1 s2 t0 t1 t2 : Value} {u : World} (h : S15 w0 b p q x0 x1 x2 y0 y1 y2 z0 z1 z2 s0 s1 s2 t0 t1 t2 u) : Below w0.heap.size w0 u := h.out.2.2.2
end Go.Proofs.YtpdnnpnclgcpoaaDoor
