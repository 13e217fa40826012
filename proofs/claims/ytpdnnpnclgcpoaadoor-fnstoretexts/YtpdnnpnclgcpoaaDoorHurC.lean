/- Bounds that are hurt, from a code. -/
import Derived.Test.YtpdnnpnclgcpoaaDoorDrZ
import Derived.Test.YtpdnnpnclgcpoaaDoorLaZ
namespace Go.Proofs.YtpdnnpnclgcpoaaDoor
open Go.RowKit Go.Iv
set_option linter.unusedSimpArgs false
set_option linter.unusedVariables false

section
variable {P : Program} (w : World)
theorem wpList_app2 {ops : Array Oper} {rest : List Oper} {o : Oper} {a : Act} {Q : Exit → Act → World → Prop} (hgd : o.guard = none) (s x : Operand) (t : TypeId)
    (ho : o.op = .call { callee := .builtin .append, args := #[s, x], argTypes := #[t, t] })
    (base : Nat) (e : TypeId) (i : TypeInfo) (z : Value) (size bytes : Nat) (ht : P.underlying t = some (.slice e)) (hi : P.info? e = some i) (hz : i.zero = some z)
    (hsize : i.size = size) (hby : i.bytes = bytes) (hzs : z.cells.size = size) (hsz : 0 < size)
    (v : Value) (n : Nat) (xs : List Value) (hs : a.eval s = v) (hown : w.ownsRow base e size v n xs)
    (ad : Addr) (m c : Nat) (news : List Value) (hx : a.eval x = .slice (some ad) m c) (hl : news.length = m * size) (hnews : ∀ j u, news[j]? = some u → w.cell? (ad.add j) = some u) (h1 : ∀ u ∈ news, u.oneCell' = true)
    (h63 : n + m ≤ maxLen) (hbytes : (n + m) * bytes ≤ 140737488355328) (hbase : base ≤ w.heap.size)
    (h : ∀ oa cap w', w'.ownsRow base e size (.slice oa (n + m) cap) (n + m) (xs ++ news) → w.grownBy w' v.ownBlock → ((Value.slice oa (n + m) cap).ownBlock = v.ownBlock ∨ (Value.slice oa (n + m) cap).ownBlock = some w.heap.size) → wpList P ops Q rest (a.put o.dst (.slice oa (n + m) cap)) w') : wpList P ops Q (o :: rest) a w :=
  wpList_plain hgd fun _ hK => wp_app2 w s x t ho base e i z size bytes ht hi hz hsize hby hzs hsz v n xs hs hown ad m c news hx hl hnews h1 h63 hbytes hbase fun oa cap w' h2 h3 h4 => hK _ _ (h oa cap w' h2 h3 h4)
end
/-- All blocks stay but the reader's, and that of one row. -/
def HuQ (b : Nat) (a : Option Addr) (len cap : Nat) (oa : Option Addr) (w u : World) : Prop :=
  Rdr u b a len cap ∧ u.os = w.os ∧ u.tape = w.tape ∧ u.output = w.output ∧ w.heap.size ≤ u.heap.size ∧ ∀ k, k < w.heap.size → k ≠ b → (∀ x, oa = some x → x.block ≠ k) → u.heap[k]? = w.heap[k]?
section
variable {b len cap : Nat} {a oa : Option Addr} {w u v : World}
theorem HuQ.refl (h : Rdr w b a len cap) : HuQ b a len cap oa w w := ⟨h, rfl, rfl, rfl, Nat.le_refl _, fun _ _ _ _ => rfl⟩
theorem HuQ.kp (h : HuQ b a len cap oa w u) (k : Left b a len cap u v) : HuQ b a len cap oa w v :=
  ⟨k.1, k.2.os.trans h.2.1, k.2.tape.trans h.2.2.1, k.2.output.trans h.2.2.2.1, Nat.le_trans h.2.2.2.2.1 k.2.size, fun i hi h1 h2 => (k.2.block i (Nat.lt_of_lt_of_le hi h.2.2.2.2.1) h1).trans (h.2.2.2.2.2 i hi h1 h2)⟩
theorem HuQ.alloc (h : HuQ b a len cap oa w u) (o : Obj) : HuQ b a len cap oa w (u.alloc o) := h.kp ((Left.refl h.1).alloc o)
theorem HuQ.kept {c : Nat} (h : HuQ b a len cap oa w u) (k : Kp c u v) (hc : c ≠ b) (hcode : ∀ x, a = some x → 0 < len → x.block ≠ c) (hw : w.heap.size ≤ c ∨ ∃ x, oa = some x ∧ x.block = c) : HuQ b a len cap oa w v := by
  refine ⟨h.1.kept k hc hcode, k.os.trans h.2.1, k.tape.trans h.2.2.1, k.output.trans h.2.2.2.1, Nat.le_trans h.2.2.2.2.1 k.size, fun i hi h1 h2 => (k.block i (Nat.lt_of_lt_of_le hi h.2.2.2.2.1) ?_).trans (h.2.2.2.2.2 i hi h1 h2)⟩
  rintro rfl
  rcases hw with hw | ⟨x, hx, e⟩
  · omega
  · exact h2 x hx e
theorem kp_set (u : World) (c o : Nat) (x : Value) : Kp c u (u.setCell ⟨c, o, none⟩ x) := ⟨rfl, rfl, rfl, by simp [World.setCell], fun k _ hk => Below.heap_setCell _ _ _ _ (by exact hk)⟩
theorem HuQ.set {c o : Nat} {x : Value} (h : HuQ b a len cap oa w u) (hc : c ≠ b) (hcode : ∀ x, a = some x → 0 < len → x.block ≠ c) (hw : w.heap.size ≤ c ∨ ∃ x, oa = some x ∧ x.block = c) : HuQ b a len cap oa w (u.setCell ⟨c, o, none⟩ x) := h.kept (kp_set _ _ _ _) hc hcode hw
theorem HuQ.grown {B n c : Nat} (h : HuQ b a len cap oa w u) (hg : u.grownBy v (Value.slice oa n c).ownBlock) (hB : ∀ j, (Value.slice oa n c).ownBlock = some j → B ≤ j) (hb : b < B) (hcode : ∀ x, a = some x → 0 < len → x.block < B) (hw : B ≤ w.heap.size) : HuQ b a len cap oa w v := by
  cases oa with
  | none => exact h.kept (c := u.heap.size) ⟨hg.os, hg.tape, hg.output, hg.size, fun k hk _ => hg.block k hk (by simp [Value.ownBlock])⟩ (by have := h.1.lt; omega) (fun x hx hl => by have := hcode x hx hl; have := h.2.2.2.2.1; omega) (.inl h.2.2.2.2.1)
  | some y =>
    have hj := hB y.block (by simp [Value.ownBlock])
    exact h.kept (c := y.block) ⟨hg.os, hg.tape, hg.output, hg.size, fun k hk hne => hg.block k hk (fun e => hne (by simpa [Value.ownBlock] using e))⟩ (by omega) (fun x hx hl => by have := hcode x hx hl; omega) (.inr ⟨y, rfl, rfl⟩)
end
theorem RowsT.kp {u v : World} {B T ca cb b : Nat} {oa ob : Option Addr} {xs ys : List (Int × Int)} (h : RowsT u B T oa ca ob cb xs ys) (k : Kp b u v) (hb : b < B) : RowsT v B T oa ca ob cb xs ys :=
  h.at' (fun g h1 h2 => k.block g (Nat.lt_of_lt_of_le h2 h.2.2.2) (by omega)) k.size
theorem RowsE.far {u : World} {B ca cb c o : Nat} {oa ob : Option Addr} {xs ys : List (Int × Int)} (h : RowsE u B oa ca ob cb xs ys) (h1 : ∀ x, oa = some x → x.block ≠ c) (h2 : ∀ x, ob = some x → x.block ≠ c) (x : Value) : RowsE (u.setCell ⟨c, o, none⟩ x) B oa ca ob cb xs ys := by
  refine ⟨own_far_set h.1 (fun e => ?_), own_far_set h.2.1 (fun e => ?_), h.2.2⟩
  · cases oa with
    | none => cases e
    | some y => exact h1 y rfl (by simpa [Value.ownBlock] using e)
  · cases ob with
    | none => cases e
    | some y => exact h2 y rfl (by simpa [Value.ownBlock] using e)
/-- One interval more in the first row. -/
theorem RowsT.app {u v : World} {B T ca cb : Nat} {oa ob : Option Addr} {xs ys : List (Int × Int)} (h : RowsT u B T oa ca ob cb xs ys) {oa' : Option Addr} {ca' : Nat} {l g : Int}
    (hown : v.ownsRow B 81 2 (.slice oa' (xs.length + 1) ca') (xs.length + 1) (cellsV xs ++ [.int .i64 l, .int .i64 g])) (hg : u.grownBy v (Value.slice oa xs.length ca).ownBlock) (hloc : (Value.slice oa' (xs.length + 1) ca').ownBlock = (Value.slice oa xs.length ca).ownBlock ∨ (Value.slice oa' (xs.length + 1) ca').ownBlock = some u.heap.size) :
    RowsE v B oa' ca' ob cb (xs ++ [(l, g)]) ys ∧ ∀ x, oa' = some x → (∃ y, oa = some y ∧ y.block = x.block) ∨ x.block = u.heap.size := by
  obtain ⟨⟨h5, h6, h7⟩, hb1, hb2, hs⟩ := h
  have el : (xs ++ [(l, g)]).length = xs.length + 1 := by simp
  have hm : ∀ x, oa' = some x → (∃ y, oa = some y ∧ y.block = x.block) ∨ x.block = u.heap.size := by
    intro x hx
    subst hx
    rcases hloc with e1 | e1
    · cases oa with
      | none => simp [Value.ownBlock] at e1
      | some r => exact .inl ⟨r, rfl, by have : x.block = r.block := by simpa [Value.ownBlock] using e1
                                         omega⟩
    · exact .inr (by simpa [Value.ownBlock] using e1)
  refine ⟨⟨by rw [el, cellsV_snoc]; exact hown, own_grown h6 hg (fun q e1 e2 => ?_), fun p q hp hq e => ?_⟩, hm⟩
  · cases oa with
    | none => simp [Value.ownBlock] at e2
    | some p =>
      cases ob with
      | none => simp [Value.ownBlock] at e1
      | some r =>
        have e3 : r.block = q := by simpa [Value.ownBlock] using e1
        have e4 : q = p.block := by simpa [Value.ownBlock] using e2
        exact h7 p r rfl rfl (by omega)
  · rcases hm p hp with ⟨y, hy, e2⟩ | e2
    · exact h7 y q hy hq (by omega)
    · have := (hb2 q hq).2
      omega
/-- Where a row lies: where it lay, or behind all. -/
def Moved (oa oa' : Option Addr) (n : Nat) : Prop := ∀ x, oa' = some x → (∃ y, oa = some y ∧ y.block = x.block) ∨ n ≤ x.block
theorem Moved.refl (oa : Option Addr) (n : Nat) : Moved oa oa n := fun x hx => .inl ⟨x, hx, rfl⟩
/-- Hurt bounds. -/
def HuR (b : Nat) (a : Option Addr) (len cap B : Nat) (oa ob : Option Addr) (cb : Nat) (xs ys : List (Int × Int)) (w : World) (e : Ending) (w' : World) : Prop :=
  ∃ (li' : Bool) (oa' : Option Addr) (ca' : Nat) (xs' : List (Int × Int)), e = .returned (.agg #[.bool li', .slice oa' xs'.length ca', .slice ob ys.length cb]) ∧ RowsE w' B oa' ca' ob cb xs' ys ∧ xs'.length ≤ 1001 ∧ HuQ b a len cap oa w w' ∧ Moved oa oa' w.heap.size ∧ (InL xs → InL xs')
set_option maxRecDepth 20000 in
set_option maxHeartbeats 16000000 in
theorem hurtEnv_c (b : Nat) (a : Option Addr) (len cap : Nat) (li : Bool) (oa : Option Addr) (ca : Nat) (ob : Option Addr) (cb : Nat) (xs ys : List (Int × Int)) (B : Nat) (w : World) (h : Rdr w b a len cap) (hr : RowsE w B oa ca ob cb xs ys) (hbB : b < B) (hBw : B ≤ w.heap.size) (hcode : ∀ x, a = some x → 0 < len → x.block < B) (hl : xs.length ≤ 1000 ∧ ys.length ≤ 1000) :
    Calls Tryd.prog 63 #[.pointer (some ⟨b, 0, none⟩), .agg #[.bool li, .slice oa xs.length ca, .slice ob ys.length cb]] w (HuR b a len cap B oa ob cb xs ys w) := by
  have R := hide h
  have HR := hide hr
  have HC := hide hcode
  have HL := hide hl
  have hx3 : (xs.length : Int) ≤ 1000 := by omega
  have hbw : b < w.heap.size := h.lt
  obtain ⟨inf, hi, hz0, hz1, hz2⟩ := info_parts ivInfo
  clear h hr hcode
  go_enter Tryd.func63, Tryd.ntmps63
  go_wp2_with fail
  have q0 := ((HuQ.refl (oa := oa) (unhide R)).alloc (Obj.cells #[.bool li, .slice oa xs.length ca, .slice ob ys.length cb] 43)).alloc (Obj.cells #[.bool false, .slice none 0 0, .slice none 0 0] 43)
  have t0 := (C3.new w (.bool li) (.slice oa xs.length ca) (.slice ob ys.length cb) 43).alloc (Obj.cells #[.bool false, .slice none 0 0, .slice none 0 0] 43)
  have t1 := C3.new (w.alloc (Obj.cells #[.bool li, .slice oa xs.length ca, .slice ob ys.length cb] 43)) (.bool false) (.slice none 0 0) (.slice none 0 0) 43
  have rr := ((RowsT.of (unhide HR)).call ((Below.refl _ w).alloc (Nat.le_refl _) (Obj.cells #[.bool li, .slice oa xs.length ca, .slice ob ys.length cb] 43)))
  have rr := rr.call ((Below.refl _ _).alloc (Nat.le_refl _) (Obj.cells #[.bool false, .slice none 0 0, .slice none 0 0] 43))
  rw [show (w.alloc (Obj.cells #[.bool li, .slice oa xs.length ca, .slice ob ys.length cb] 43)).heap.size = w.heap.size + 1 by simp] at t1
  generalize (w.alloc (Obj.cells #[.bool li, .slice oa xs.length ca, .slice ob ys.length cb] 43)).alloc (Obj.cells #[.bool false, .slice none 0 0, .slice none 0 0] 43) = u at q0 t0 t1 rr ⊢
  refine (below_c _ _ _ _ _ (by decide) _ q0.1).mono ?_
  rintro e u1 ⟨x, rfl, x0, x1, x2, hl1⟩
  have HQ := hide (q0.kp hl1)
  have HT0 := hide (t0.kp hl1.2 (by omega))
  have HT1 := hide (t1.kp hl1.2 (by omega))
  have HR := hide (rr.kp hl1.2 hbB)
  clear hl1 q0 t0 t1 rr R x1 x2
  have hc0 : ∀ x, a = some x → 0 < len → x.block ≠ w.heap.size := fun x e1 e2 => by have := (unhide HC) x e1 e2; omega
  have hc1 : ∀ x, a = some x → 0 < len → x.block ≠ w.heap.size + 1 := fun x e1 e2 => by have := (unhide HC) x e1 e2; omega
  have HC0 := hide (And.intro hc0 hc1)
  clear hc0 hc1
  have hneW : w.heap.size ≠ w.heap.size + 1 := by omega
  have t0 := (unhide HT0).1
  have t1 := (unhide HT0).2.1
  have t2 := (unhide HT0).2.2.1
  have f0 := (unhide HT0).2.2.2 0
  have f1 := (unhide HT0).2.2.2 1
  have f2 := (unhide HT0).2.2.2 2
  have r0 := (unhide HT1).1
  have r1 := (unhide HT1).2.1
  have r2 := (unhide HT1).2.2.1
  have p0 := (unhide HT1).2.2.2 0
  have p1 := (unhide HT1).2.2.2 1
  have p2 := (unhide HT1).2.2.2 2
  by_cases e0 : x = 0
  · have e0' : (x == 0) = true := by simpa using e0
    clear e0
    go_wp2
    exact bodyPost_ret (v := .agg #[.bool (!li), .slice oa xs.length ca, .slice ob ys.length cb]) (by simp [results, Tryd.results63, go_sem, r0, r1, r2]) rfl ⟨!li, oa, ca, xs, rfl, (((((unhide HR).set (.inr (by omega)) _).set (.inr (by omega)) _).set (.inr (by omega)) _).set (.inr (by omega)) _).1, by have := (unhide HL).1; omega, ((((unhide HQ).set (by omega) (unhide HC0).1 (.inl (Nat.le_refl _))).set (by omega) (unhide HC0).2 (.inl (by omega))).set (by omega) (unhide HC0).2 (.inl (by omega))).set (by omega) (unhide HC0).2 (.inl (by omega)), Moved.refl _ _, id⟩
  have e0' : (x == 0) = false := by simpa using e0
  by_cases e1 : x = 1
  · have e1' : (x == 1) = true := by simpa using e1
    clear e0 e1
    have hown0 := (unhide HR).1.1
    have hbo : ∀ j, (Value.slice oa xs.length ca).ownBlock = some j → B ≤ j ∧ j < w.heap.size := fun j e => by
      have := (unhide HR).2.1
      cases oa with
      | none => cases e
      | some y => have e2 : y.block = j := by simpa [Value.ownBlock] using e
                  have := this y rfl
                  omega
    have HBO := hide hbo
    have hsu := (unhide HQ).2.2.2.2.1
    go_upto_region 5 with fail
    clear t0 t2 f0 f1 f2 r0 r1 r2 p0 p1 p2 hbo
    go_wp2_with (at_builtin; refine wpList_app2 _ rfl _ _ 41 rfl B 81 inf (.agg #[.int .i64 0, .int .i64 0]) 2 16 Tryd.underlying41 hi hz0 hz1 hz2 rfl (by decide) _ _ _ rfl (World.ownsRow.alloc hown0 _) ⟨_, 0, none⟩ 1 1 [.int .i64 0, .int .i64 0] rfl rfl (World.news_of_block (heap_alloc_new _ _)) (one2' _ _) (by unfold maxLen; omega) (by omega) (by simp; omega) ?_; intro o' c' w5 hown hgrow hloc; clear t1; have k3 := ((unhide HT0).alloc (Obj.cells #[.int .i64 0, .int .i64 0] 81)).grown hgrow (fun e => by have := (unhide HBO) _ e.symm; omega); have k4 := ((unhide HT1).alloc (Obj.cells #[.int .i64 0, .int .i64 0] 81)).grown hgrow (fun e => by have := (unhide HBO) _ e.symm; omega); have t0 := k3.1; have t1 := k3.2.1; have t2 := k3.2.2.1; have f0 := k3.2.2.2 0; have f1 := k3.2.2.2 1; have f2 := k3.2.2.2 2; have r0 := k4.1; have r1 := k4.2.1; have r2 := k4.2.2.1; have p0 := k4.2.2.2 0; have p1 := k4.2.2.2 1; have p2 := k4.2.2.2 2)
    obtain ⟨hre, hmv⟩ := RowsT.app ((unhide HR).call ((Below.refl _ u1).alloc (Nat.le_refl _) (Obj.cells #[.int .i64 0, .int .i64 0] 81))) hown hgrow hloc
    have hq5 := ((unhide HQ).alloc (Obj.cells #[.int .i64 0, .int .i64 0] 81)).grown hgrow (fun j e => ((unhide HBO) j e).1) hbB (unhide HC) hBw
    have el : (xs ++ [((0 : Int), (0 : Int))]).length = xs.length + 1 := by simp
    have hn1 : ∀ x, o' = some x → x.block ≠ w.heap.size ∧ x.block ≠ w.heap.size + 1 := by
      intro x hx
      rcases hmv x hx with ⟨y, hy, e⟩ | e
      · have := (unhide HR).2.1 y hy
        omega
      · have := (unhide HT1).lt
        simp at e
        omega
    have hn2 : ∀ x, ob = some x → x.block ≠ w.heap.size ∧ x.block ≠ w.heap.size + 1 := by
      intro x hx
      have := (unhide HR).2.2.1 x hx
      omega
    exact bodyPost_ret (v := .agg #[.bool li, .slice o' (xs.length + 1) c', .slice ob ys.length cb]) (by simp [results, Tryd.results63, go_sem, r0, r1, r2]) rfl ⟨li, o', c', xs ++ [(0, 0)], by rw [el], (((hre.far (fun x h => (hn1 x h).1) (fun x h => (hn2 x h).1) _).far (fun x h => (hn1 x h).2) (fun x h => (hn2 x h).2) _).far (fun x h => (hn1 x h).2) (fun x h => (hn2 x h).2) _).far (fun x h => (hn1 x h).2) (fun x h => (hn2 x h).2) _, by rw [el]; have := (unhide HL).1; omega, (((hq5.set (by omega) (unhide HC0).1 (.inl (Nat.le_refl _))).set (by omega) (unhide HC0).2 (.inl (by omega))).set (by omega) (unhide HC0).2 (.inl (by omega))).set (by omega) (unhide HC0).2 (.inl (by omega)), fun x hx => (hmv x hx).imp id (fun e => by simp at e; omega), fun k => k.snoc (by unfold In; decide) (by unfold In; decide)⟩
  have e1' : (x == 1) = false := by simpa using e1
  clear e0 e1
  by_cases e2 : x = 2
  · have e2' : (x == 2) = true := by simpa using e2
    clear e2
    by_cases hlt : 0 < xs.length
    · obtain ⟨g, hg, hBg, hgs, ⟨v0, v1, k0, k1⟩, hfr, hrow⟩ := (unhide HR).1.write hlt (1, 0)
      subst hg
      have hlt' : (0 : Int) < (xs.length : Int) := by omega
      have k0' : u1.cell? ⟨g, 0, none⟩ = some v0 := by simpa using k0
      have k1' : u1.cell? ⟨g, 1, none⟩ = some v1 := by simpa using k1
      have g0 := hfr 0
      have g1 := hfr 1
      have hgne : g < w.heap.size := ((unhide HR).2.1 _ rfl).2
      have hrt : RowsT ((u1.setCell ⟨g, 0 * 2, none⟩ (.int .i64 1)).setCell ⟨g, 0 * 2 + 1, none⟩ (.int .i64 0)) B w.heap.size (some ⟨g, 0, none⟩) ca ob cb (xs.set 0 (1, 0)) ys := ⟨hrow, (unhide HR).2.1, (unhide HR).2.2.1, by rw [size_setCell, size_setCell]; exact (unhide HR).2.2.2⟩
      have hgb : g ≠ b := by omega
      have hgc : ∀ x, a = some x → 0 < len → x.block ≠ g := fun x e1 e2 => by have := (unhide HC) x e1 e2; omega
      have hg1 : g ≠ w.heap.size + 1 := by omega
      have hg0 : g ≠ w.heap.size := by omega
      have HRT := hide hrt
      have el : (xs.set 0 ((1 : Int), (0 : Int))).length = xs.length := by simp
      clear hrow hrt k0 k1
      go_wp2
      exact bodyPost_ret (v := .agg #[.bool li, .slice (some ⟨g, 0, none⟩) xs.length ca, .slice ob ys.length cb]) (by simp [results, Tryd.results63, go_sem, r0, r1, r2, hg1]) rfl ⟨li, some ⟨g, 0, none⟩, ca, xs.set 0 (1, 0), by rw [el], ((((unhide HRT).set (.inr (by omega)) _).set (.inr (by omega)) _).set (.inr (by omega)) _).1, by rw [el]; have := (unhide HL).1; omega, (((((unhide HQ).set hgb hgc (.inr ⟨_, rfl, rfl⟩)).set hgb hgc (.inr ⟨_, rfl, rfl⟩)).set (by omega) (unhide HC0).2 (.inl (by omega))).set (by omega) (unhide HC0).2 (.inl (by omega))).set (by omega) (unhide HC0).2 (.inl (by omega)), Moved.refl _ _, fun k => k.set (by unfold In; decide) (by unfold In; decide)⟩
    · have hlt' : ¬ (0 : Int) < (xs.length : Int) := by omega
      go_wp2
      exact bodyPost_ret (v := .agg #[.bool li, .slice oa xs.length ca, .slice ob ys.length cb]) (by simp [results, Tryd.results63, go_sem, r0, r1, r2]) rfl ⟨li, oa, ca, xs, rfl, ((((unhide HR).set (.inr (by omega)) _).set (.inr (by omega)) _).set (.inr (by omega)) _).1, by have := (unhide HL).1; omega, (((unhide HQ).set (by omega) (unhide HC0).2 (.inl (by omega))).set (by omega) (unhide HC0).2 (.inl (by omega))).set (by omega) (unhide HC0).2 (.inl (by omega)), Moved.refl _ _, id⟩
  have e2' : (x == 2) = false := by simpa using e2
  clear e2
  go_wp2
  exact bodyPost_ret (v := .agg #[.bool li, .slice oa xs.length ca, .slice ob ys.length cb]) (by simp [results, Tryd.results63, go_sem, r0, r1, r2]) rfl ⟨li, oa, ca, xs, rfl, ((((unhide HR).set (.inr (by omega)) _).set (.inr (by omega)) _).set (.inr (by omega)) _).1, by have := (unhide HL).1; omega, (((unhide HQ).set (by omega) (unhide HC0).2 (.inl (by omega))).set (by omega) (unhide HC0).2 (.inl (by omega))).set (by omega) (unhide HC0).2 (.inl (by omega)), Moved.refl _ _, id⟩
end Go.Proofs.YtpdnnpnclgcpoaaDoor
