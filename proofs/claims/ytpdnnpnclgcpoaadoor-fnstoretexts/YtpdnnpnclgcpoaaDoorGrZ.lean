/- Texts that go together: GrwC, WthC. -/
import Derived.Test.YtpdnnpnclgcpoaaDoorHurC
import Derived.Test.YtpdnnpnclgcpoaaDoorMeZ
/- A byte of a code; bounds made wider by a code. -/
namespace Go.Proofs.YtpdnnpnclgcpoaaDoor
open Go.RowKit Go.Iv
set_option linter.unusedSimpArgs false
set_option linter.unusedVariables false

set_option maxHeartbeats 1000000 in
theorem byteOf_c (a : Option Addr) (len cap : Nat) (i : Int) (hi : 0 ≤ i ∧ i ≤ 4611686018427387904) (w : World) (h : Code w a len) : Calls Tryd.prog 13 #[.slice a len cap, .int .i64 i] w fun e w' => (∃ n : Int, e = .returned (.int .i64 n) ∧ 0 ≤ n ∧ n ≤ 255) ∧ w' = w := by
  have hl := h.1
  obtain ⟨i0, i1⟩ := hi
  by_cases h0 : len = 0
  · have e0 : ((len : Int) == 0) = true := by simp [h0]
    clear h h0
    go_enter Tryd.func13, Tryd.ntmps13
    go_wp2
    go_ret
    exact ⟨⟨0, rfl, by omega, by omega⟩, rfl⟩
  · have e0 : ((len : Int) == 0) = false := by simp; omega
    rcases h.2 with h1 | ⟨cb, co, rfl, hc⟩
    · omega
    have hpos : (0 : Int) < (len : Int) := by omega
    obtain ⟨m, hm⟩ : ∃ m : Nat, Int.tmod i len = m := ⟨(Int.tmod i len).toNat, by have := Int.tmod_nonneg (len : Int) i0; omega⟩
    have hm2 : m < len := by have := Int.tmod_lt_of_pos i hpos; omega
    obtain ⟨z, hz, z0, z1⟩ := hc m hm2
    clear h hc h0
    go_enter Tryd.func13, Tryd.ntmps13
    go_wp2
    go_ret
    exact ⟨⟨z, rfl, z0, z1⟩, rfl⟩
/-- The box of what is made wider, the answer's, that of the new bounds, their rows. -/
def GrT (w0 : World) (T : Nat) (x y z : Value) (oa : Option Addr) (ca : Nat) (ob : Option Addr) (cb : Nat) (xs ys : List (Int × Int)) (u : World) : Prop :=
  C3 u w0.heap.size x y z ∧ C3 u (w0.heap.size + 1) (.bool false) (.slice none 0 0) (.slice none 0 0) ∧ C3 u (w0.heap.size + 2) (.bool true) (.slice oa xs.length ca) (.slice ob ys.length cb) ∧ RowsT u (w0.heap.size + 3) T oa ca ob cb xs ys ∧ Below w0.heap.size w0 u ∧ w0.heap.size + 3 ≤ T
section
variable {w0 : World} {T : Nat} {x y z : Value} {oa ob : Option Addr} {ca cb : Nat} {xs ys : List (Int × Int)} {u v : World}
theorem GrT.call (h : GrT w0 T x y z oa ca ob cb xs ys u) (k : Below u.heap.size u v) : GrT w0 T x y z oa ca ob cb xs ys v :=
  ⟨h.1.call k, h.2.1.call k, h.2.2.1.call k, h.2.2.2.1.call k, h.2.2.2.2.1.trans (k.mono h.2.2.2.2.1.size), h.2.2.2.2.2⟩
theorem GrT.alloc (h : GrT w0 T x y z oa ca ob cb xs ys u) (o : Obj) : GrT w0 T x y z oa ca ob cb xs ys (u.alloc o) := h.call ((Below.refl _ u).alloc (Nat.le_refl _) o)
theorem GrT.set {c o : Nat} (h : GrT w0 T x y z oa ca ob cb xs ys u) (hc : T ≤ c) (p : Value) : GrT w0 T x y z oa ca ob cb xs ys (u.setCell ⟨c, o, none⟩ p) := by
  have hT := h.2.2.2.2.2
  exact ⟨h.1.other (by omega), h.2.1.other (by omega), h.2.2.1.other (by omega), h.2.2.2.1.set (.inr hc) _, h.2.2.2.2.1.setCell (by show w0.heap.size ≤ c; omega) _, hT⟩
theorem GrT.up (h : GrT w0 T x y z oa ca ob cb xs ys u) : GrT w0 u.heap.size x y z oa ca ob cb xs ys u :=
  ⟨h.1, h.2.1, h.2.2.1, RowsT.of h.2.2.2.1.1, h.2.2.2.2.1, Nat.le_trans h.2.2.2.2.2 h.2.2.2.1.2.2.2⟩
theorem GrT.app1 (h : GrT w0 T x y z oa ca ob cb xs ys u) {oa' : Option Addr} {ca' : Nat} {l g : Int}
    (hown : v.ownsRow (w0.heap.size + 3) 81 2 (.slice oa' (xs.length + 1) ca') (xs.length + 1) (cellsV xs ++ [.int .i64 l, .int .i64 g])) (hg : u.grownBy v (Value.slice oa xs.length ca).ownBlock) (hloc : (Value.slice oa' (xs.length + 1) ca').ownBlock = (Value.slice oa xs.length ca).ownBlock ∨ (Value.slice oa' (xs.length + 1) ca').ownBlock = some u.heap.size) :
    GrT w0 v.heap.size x y z oa' ca' ob cb (xs ++ [(l, g)]) ys (v.setCell ⟨w0.heap.size + 2, 1, none⟩ (.slice oa' (xs.length + 1) ca')) ∧ C3 v (w0.heap.size + 2) (.bool true) (.slice oa xs.length ca) (.slice ob ys.length cb) := by
  obtain ⟨h1, h2, h3, h4, h5, h6⟩ := h
  have hr := (RowsT.app h4 hown hg hloc).1
  have hB : w0.heap.size + 3 ≤ u.heap.size := Nat.le_trans h6 h4.2.2.2
  have hj : ∀ j, (Value.slice oa xs.length ca).ownBlock = some j → w0.heap.size + 3 ≤ j := fun j e => (h4.1.1.lt j e).1
  have el : (xs ++ [(l, g)]).length = xs.length + 1 := by simp
  have k3 := h3.grown hg (fun e => by have := hj _ e.symm; omega)
  have hs := hg.size
  refine ⟨⟨(h1.grown hg (fun e => by have := hj _ e.symm; omega)).other (by omega), (h2.grown hg (fun e => by have := hj _ e.symm; omega)).other (by omega), by rw [el]; exact k3.set1 _, (RowsT.of hr).set (.inl (by omega)) _, (h5.grown hg (by omega) (fun j e => by have := hj j e; omega)).setCell (by show w0.heap.size ≤ w0.heap.size + 2; omega) _, by omega⟩, k3⟩
theorem GrT.app2 (h : GrT w0 T x y z oa ca ob cb xs ys u) {ob' : Option Addr} {cb' : Nat} {l g : Int}
    (hown : v.ownsRow (w0.heap.size + 3) 81 2 (.slice ob' (ys.length + 1) cb') (ys.length + 1) (cellsV ys ++ [.int .i64 l, .int .i64 g])) (hg : u.grownBy v (Value.slice ob ys.length cb).ownBlock) (hloc : (Value.slice ob' (ys.length + 1) cb').ownBlock = (Value.slice ob ys.length cb).ownBlock ∨ (Value.slice ob' (ys.length + 1) cb').ownBlock = some u.heap.size) :
    GrT w0 v.heap.size x y z oa ca ob' cb' xs (ys ++ [(l, g)]) (v.setCell ⟨w0.heap.size + 2, 2, none⟩ (.slice ob' (ys.length + 1) cb')) ∧ C3 v (w0.heap.size + 2) (.bool true) (.slice oa xs.length ca) (.slice ob ys.length cb) := by
  obtain ⟨h1, h2, h3, h4, h5, h6⟩ := h
  have h4s : RowsT u (w0.heap.size + 3) T ob cb oa ca ys xs := ⟨h4.1.swap, h4.2.2.1, h4.2.1, h4.2.2.2⟩
  have hr := (RowsT.app h4s hown hg hloc).1.swap
  have hB : w0.heap.size + 3 ≤ u.heap.size := Nat.le_trans h6 h4.2.2.2
  have hj : ∀ j, (Value.slice ob ys.length cb).ownBlock = some j → w0.heap.size + 3 ≤ j := fun j e => (h4.1.2.1.lt j e).1
  have el : (ys ++ [(l, g)]).length = ys.length + 1 := by simp
  have k3 := h3.grown hg (fun e => by have := hj _ e.symm; omega)
  have hs := hg.size
  refine ⟨⟨(h1.grown hg (fun e => by have := hj _ e.symm; omega)).other (by omega), (h2.grown hg (fun e => by have := hj _ e.symm; omega)).other (by omega), by rw [el]; exact k3.set2 _, (RowsT.of hr).set (.inl (by omega)) _, (h5.grown hg (by omega) (fun j e => by have := hj j e; omega)).setCell (by show w0.heap.size ≤ w0.heap.size + 2; omega) _, by omega⟩, k3⟩
theorem CI.set {c o b : Nat} {l g : Int} (h : CI u b l g) (hc : c ≠ b) (p : Value) : CI (u.setCell ⟨c, o, none⟩ p) b l g :=
  ⟨(World.cell?_setCell_other _ _ _ _ (fun e => hc (congrArg Addr.block e))).trans h.1, (World.cell?_setCell_other _ _ _ _ (fun e => hc (congrArg Addr.block e))).trans h.2.1, fun o => by rw [World.frozen?_setCell]; exact h.2.2.1 o, by simpa [World.setCell] using h.2.2.2⟩
theorem CI.st0 {b : Nat} {l g : Int} (h : CI u b l g) (p : Int) : CI (u.setCell ⟨b, 0, none⟩ (.int .i64 p)) b p g :=
  ⟨by simp [go_sem, h.1], by simp [go_sem, h.2.1], fun o => by simp [World.frozen?_setCell, h.2.2.1 o], by simpa [World.setCell] using h.2.2.2⟩
theorem CI.st1 {b : Nat} {l g : Int} (h : CI u b l g) (p : Int) : CI (u.setCell ⟨b, 1, none⟩ (.int .i64 p)) b l p :=
  ⟨by simp [go_sem, h.1], by simp [go_sem, h.2.1], fun o => by simp [World.frozen?_setCell, h.2.2.1 o], by simpa [World.setCell] using h.2.2.2⟩
end
theorem hg_low {w0 : World} {T : Nat} {x y z : Value} {oa ob : Option Addr} {ca cb : Nat} {xs ys : List (Int × Int)} {u : World} (h : GrT w0 T x y z oa ca ob cb xs ys u) : w0.heap.size + 2 < u.heap.size := h.2.2.1.lt
theorem ivs_snoc {X : List (Int × Int)} {l g : Int} (h : ivsP X) (hlg : l ≤ g) : ivsP (X ++ [(l, g)]) := by
  intro k hk
  by_cases hx : k < X.length
  · rw [List.getElem_append_left hx]; exact h k hx
  · have e : k = X.length := by simp at hk; omega
    subst e
    simpa using hlg
theorem ivs_app {X Y : List (Int × Int)} (h : ivsP X) (k : ivsP Y) : ivsP (X ++ Y) := by
  intro i hi
  by_cases hx : i < X.length
  · rw [List.getElem_append_left hx]; exact h i hx
  · rw [List.getElem_append_right (by omega)]
    exact k _ (by simp at hi; omega)
theorem ivsL {X Y : List (Int × Int)} (h : ivsP (X ++ Y)) : ivsP X := fun k hk => by have := h k (by simp; omega); rw [List.getElem_append_left hk] at this; exact this
theorem ivsR {X Y : List (Int × Int)} (h : ivsP (X ++ Y)) : ivsP Y := fun k hk => by have := h (X.length + k) (by simp; omega); rw [List.getElem_append_right (by omega)] at this; simpa using this
end Go.Proofs.YtpdnnpnclgcpoaaDoor

/- A number within an interval, by a code. -/
namespace Go.Proofs.YtpdnnpnclgcpoaaDoor
open Go.RowKit Go.Iv
set_option linter.unusedSimpArgs false
set_option linter.unusedVariables false

theorem wrap_mid (l N r : Int) (hl : In l) (h0 : 0 ≤ r) (h1 : r ≤ N) (hN : In (l + N)) : wrap64 (IntKind.u64.wrap (IntKind.u64.wrap l + r)) = l + r := by
 unfold In at hl hN
 rw [IntKind.wrap_u64, IntKind.wrap_u64]
 unfold wrap64
 omega
set_option maxRecDepth 20000 in
set_option maxHeartbeats 4000000 in
theorem lwithin_c (l g : Int) (a : Option Addr) (len cap : Nat) (at_ : Int) (hl : In l) (hg : In g) (hlg : l ≤ g) (hat : 0 ≤ at_ ∧ at_ ≤ 1099511627776) (w : World) (h : Code w a len) :
  Calls Tryd.prog 51 #[.agg #[.int .i64 l, .int .i64 g], .slice a len cap, .int .i64 at_] w fun e w' => (∃ n : Int, e = .returned (.int .i64 n) ∧ l ≤ n ∧ n ≤ g) ∧ Below w.heap.size w w' := by
 have HC := hide h
 have HI := hide (And.intro hl (And.intro hg hlg))
 obtain ⟨t0, t1⟩ := hat
 have HB := hide (CI.new w l g 81)
 have HK := hide ((Below.refl _ w).alloc (Nat.le_refl _) (Obj.cells #[.int .i64 l, .int .i64 g] 81))
 unfold In at hl hg
 clear h
 go_enter Tryd.func51, Tryd.ntmps51
 go_upto_region 1 with fail
 generalize w.alloc (Obj.cells #[.int .i64 l, .int .i64 g] 81) = u at HB HK ⊢
 have b0 := (unhide HB).1
 have b1 := (unhide HB).2.1
 go_wp2_with fail
 refine (byteOf_c a len cap _ (by constructor <;> omega) _ ((unhide HC).below (unhide HK))).mono ?_
 rintro e w' ⟨⟨n1, rfl, n1a, n1b⟩, hw⟩
 subst w'
 go_wp2_with fail
 refine (byteOf_c a len cap _ (by constructor <;> omega) _ ((unhide HC).below (unhide HK))).mono ?_
 rintro e w' ⟨⟨n2, rfl, n2a, n2b⟩, hw⟩
 subst w'
 go_wp2_with fail
 refine (byteOf_c a len cap _ (by constructor <;> omega) _ ((unhide HC).below (unhide HK))).mono ?_
 rintro e w' ⟨⟨n3, rfl, n3a, n3b⟩, hw⟩
 subst w'
 obtain ⟨r, hr⟩ : ∃ r, Int.tmod n3 4 = r := ⟨_, rfl⟩
 by_cases r0 : r = 0
 ·have e0 : (r == 0) = true := by simp [r0]
  go_wp2
  go_ret
  exact ⟨⟨l, rfl, by omega, by omega⟩, unhide HK⟩
 have e0 : (r == 0) = false := by simp [r0]
 by_cases r1 : r = 1
 ·have e1 : (r == 1) = true := by simp [r1]
  go_wp2
  go_ret
  exact ⟨⟨g, rfl, by omega, by omega⟩, unhide HK⟩
 have e1 : (r == 1) = false := by simp [r1]
 go_upto_region 8 with fail
 have hN : IntKind.u64.wrap (IntKind.u64.wrap g - IntKind.u64.wrap l) = g - l := by rw [IntKind.wrap_u64, IntKind.wrap_u64, IntKind.wrap_u64]; omega
 rw [hN]
 obtain ⟨N, hNe⟩ : ∃ N, N = g - l := ⟨_, rfl⟩
 rw [← hNe]
 have N0 : 0 ≤ N := by omega
 have HNE := hide hNe
 obtain ⟨k, hk⟩ : ∃ k, k = n1 * 257 + n2 := ⟨_, rfl⟩
 rw [← hk]
 have k0 : 0 ≤ k := by omega
 have k1 : k ≤ 65790 := by omega
 clear hk hN hNe e0 e1 r0 r1 hr n1a n1b n2a n2b n3a n3b
 by_cases hfull : N = 18446744073709551615
 ·have HF := hide hfull
  have hW : IntKind.u64.wrap (N + 1) = 0 := by rw [hfull]; rfl
  clear hfull
  go_wp2
  go_ret
  refine ⟨⟨_, rfl, ?_, ?_⟩, unhide HK⟩
  ·have q := unhide HNE
   have q2 := unhide HF
   refine Int.le_trans (show l ≤ -9223372036854775808 by omega) ?_
   first | exact (wrap_in _).1 | (unfold wrap64; omega) | skip
  ·have q := unhide HNE
   have q2 := unhide HF
   refine Int.le_trans ?_ (show 9223372036854775807 ≤ g by omega)
   first | exact (wrap_in _).2 | (unfold wrap64; omega) | skip
 have N1 : N ≤ 18446744073709551614 := by have := unhide HNE; omega
 have hz : ((N + 1 : Int) == 0) = false := by simp; omega
 have hz2 : ¬ (N + 1 : Int) = 0 := by omega
 clear hfull
 have hW2 : IntKind.u64.wrap (N + 1) = N + 1 := by rw [IntKind.wrap_u64]; omega
 obtain ⟨R, hR⟩ : ∃ R, Int.tmod (IntKind.u64.wrap (k * 281474976710597)) (N + 1) = R := ⟨_, rfl⟩
 have R0 : 0 ≤ R := by rw [← hR]; exact Int.tmod_nonneg _ (by rw [IntKind.wrap_u64]; omega)
 have R1 : R ≤ N := by have := Int.tmod_lt_of_pos (IntKind.u64.wrap (k * 281474976710597)) (show (0 : Int) < N + 1 by omega); omega
 have hS : wrap64 (IntKind.u64.wrap (IntKind.u64.wrap l + R)) = l + R := wrap_mid l N R ⟨hl.1, hl.2⟩ R0 R1 (by have := unhide HNE; unfold In; omega)
 have hS2 : IntKind.i64.wrap (IntKind.u64.wrap (IntKind.u64.wrap l + R)) = l + R := by rw [IntKind.wrap_i64]; have q := hS; unfold wrap64 at q; omega
 go_upto_region 10 with fail
 clear b1
 refine wp_region_held_drew (S := fun u9 => u9.cell? ⟨w.heap.size, 0, none⟩ = some (.int .i64 l) ∧ Hid (Below w.heap.size w u9)) (by kernel_rfl) ⟨b0, hide (unhide HK).drew⟩ (fun hHeld => ?_)
 refine wpAnyH_take (i := 0) (oi := ⟨some 45, Op.fieldAddr 81 (Operand.tmp 3) 0, 0, _, _, none⟩) (v := ?_) rfl (by kernel_rfl) (by kernel_rfl) (by kernel_rfl) (fun _ _ _ h => h) (Or.inl ⟨by rfl, ?_⟩) (by assumption) ?_
 rotate_left
 ·(intro w9 hSw; (try dsimp only at hSw); go_simp; try with_reducible rfl)
 try simp only [Act.put, List.setIfInBounds_toArray, List.set_cons_zero, List.set_cons_succ]
 refine wpAnyH_take (i := 1) (oi := ⟨some 46, Op.load 2 (Operand.tmp 45), 2, _, _, none⟩) (v := ?_) rfl (by kernel_rfl) (by kernel_rfl) (by kernel_rfl) (fun _ _ _ h => h) (Or.inl ⟨by rfl, ?_⟩) (by assumption) ?_
 rotate_left
 ·(intro w9 hSw; (try dsimp only at hSw); go_simp; try with_reducible rfl)
 try simp only [Act.put, List.setIfInBounds_toArray, List.set_cons_zero, List.set_cons_succ]
 refine wpAnyH_take (i := 2) (oi := ⟨some 47, Op.convert 2 120 (Operand.tmp 46), 120, _, _, none⟩) (v := ?_) rfl (by kernel_rfl) (by kernel_rfl) (by kernel_rfl) (fun _ _ _ h => h) (Or.inl ⟨by rfl, ?_⟩) (by assumption) ?_
 rotate_left
 ·(intro w9 hSw; (try dsimp only at hSw); go_simp; try with_reducible rfl)
 try simp only [Act.put, List.setIfInBounds_toArray, List.set_cons_zero, List.set_cons_succ]
 refine wpAnyH_take (i := 3) (oi := ⟨some 48, Op.move (Operand.tmp 8), 120, _, _, none⟩) (v := ?_) rfl (by kernel_rfl) (by kernel_rfl) (by kernel_rfl) (fun _ _ _ h => h) (Or.inl ⟨by rfl, ?_⟩) (by assumption) ?_
 rotate_left
 ·(intro w9 hSw; (try dsimp only at hSw); go_simp; try with_reducible rfl)
 try simp only [Act.put, List.setIfInBounds_toArray, List.set_cons_zero, List.set_cons_succ]
 refine wpAnyH_take (i := 4) (oi := ⟨some 49, Op.binOp BinOp.mul 120 (Operand.tmp 48) (Operand.const (Value.int IntKind.u64 281474976710597)) 120, 120, _, _, none⟩) (v := ?_) rfl (by kernel_rfl) (by kernel_rfl) (by kernel_rfl) (fun _ _ _ h => h) (Or.inl ⟨by rfl, ?_⟩) (by assumption) ?_
 rotate_left
 ·(intro w9 hSw; (try dsimp only at hSw); go_simp; try with_reducible rfl)
 try simp only [Act.put, List.setIfInBounds_toArray, List.set_cons_zero, List.set_cons_succ]
 refine wpAnyH_take (i := 5) (oi := ⟨some 50, Op.move (Operand.tmp 7), 120, _, _, none⟩) (v := ?_) rfl (by kernel_rfl) (by kernel_rfl) (by kernel_rfl) (fun _ _ _ h => h) (Or.inl ⟨by rfl, ?_⟩) (by assumption) ?_
 rotate_left
 ·(intro w9 hSw; (try dsimp only at hSw); go_simp; try with_reducible rfl)
 try simp only [Act.put, List.setIfInBounds_toArray, List.set_cons_zero, List.set_cons_succ]
 refine wpAnyH_take (i := 6) (oi := ⟨some 51, Op.binOp BinOp.add 120 (Operand.tmp 50) (Operand.const (Value.int IntKind.u64 1)) 120, 120, _, _, none⟩) (v := ?_) rfl (by kernel_rfl) (by kernel_rfl) (by kernel_rfl) (fun _ _ _ h => h) (Or.inl ⟨by rfl, ?_⟩) (by assumption) ?_
 rotate_left
 ·(intro w9 hSw; (try dsimp only at hSw); go_simp; try with_reducible rfl)
 try simp only [Act.put, List.setIfInBounds_toArray, List.set_cons_zero, List.set_cons_succ]
 refine wpAnyH_take (i := 7) (oi := ⟨some 52, Op.binOp BinOp.rem 120 (Operand.tmp 49) (Operand.tmp 51) 120, 120, _, _, none⟩) (v := ?_) rfl (by kernel_rfl) (by kernel_rfl) (by kernel_rfl) (fun _ _ _ h => h) (Or.inl ⟨by rfl, ?_⟩) (by assumption) ?_
 rotate_left
 ·(intro w9 hSw; (try dsimp only at hSw); go_simp; try with_reducible rfl)
 try simp only [Act.put, List.setIfInBounds_toArray, List.set_cons_zero, List.set_cons_succ]
 refine wpAnyH_take (i := 8) (oi := ⟨some 53, Op.binOp BinOp.add 120 (Operand.tmp 47) (Operand.tmp 52) 120, 120, _, _, none⟩) (v := ?_) rfl (by kernel_rfl) (by kernel_rfl) (by kernel_rfl) (fun _ _ _ h => h) (Or.inl ⟨by rfl, ?_⟩) (by assumption) ?_
 rotate_left
 ·(intro w9 hSw; (try dsimp only at hSw); go_simp; try with_reducible rfl)
 try simp only [Act.put, List.setIfInBounds_toArray, List.set_cons_zero, List.set_cons_succ]
 refine wpAnyH_take (i := 9) (oi := ⟨some 54, Op.convert 120 2 (Operand.tmp 53), 2, _, _, none⟩) (v := ?_) rfl (by kernel_rfl) (by kernel_rfl) (by kernel_rfl) (fun _ _ _ h => h) (Or.inl ⟨by rfl, ?_⟩) (by assumption) ?_
 rotate_left
 ·(intro w9 hSw; (try dsimp only at hSw); go_simp; try with_reducible rfl)
 try simp only [Act.put, List.setIfInBounds_toArray, List.set_cons_zero, List.set_cons_succ]
 refine wpAnyH_take (i := 10) (oi := ⟨some 6, Op.assign (Operand.tmp 54), 2, _, _, none⟩) (v := ?_) rfl (by kernel_rfl) (by kernel_rfl) (by kernel_rfl) (fun _ _ _ h => h) (Or.inl ⟨by rfl, ?_⟩) (by assumption) ?_
 rotate_left
 ·(intro w9 hSw; (try dsimp only at hSw); go_simp; try with_reducible rfl)
 try simp only [Act.put, List.setIfInBounds_toArray, List.set_cons_zero, List.set_cons_succ]
 refine wpAnyH_done (by kernel_rfl) ?_ _
 go_wp2
 go_ret
 refine ⟨⟨l + R, rfl, ?_, ?_⟩, (unhide HK).drew⟩
 omega
 have := unhide HNE
 omega
end Go.Proofs.YtpdnnpnclgcpoaaDoor

