/- A store of numbers of bounds, by a code. -/
import Derived.Test.YtpdnnpnclgcpoaaDoorNaZ
import Derived.Test.YtpdnnpnclgcpoaaDoorRiZ
import Derived.Test.YtpdnnpnclgcpoaaDoorOrdK
namespace Go.Proofs.YtpdnnpnclgcpoaaDoor
open Go.RowKit Go.Iv
set_option linter.unusedSimpArgs false
set_option linter.unusedVariables false

/-- The boxes ahead of the store: the declaration's, that of the bounds, the answer's; the store's. -/
def InPw (w0 : World) (q : Nat) (x0 y0 z0 x1 y1 z1 x2 y2 z2 : Value) (u : World) : Prop :=
 C3 u w0.heap.size x0 y0 z0 ∧ C3 u (w0.heap.size + 1) x1 y1 z1 ∧ C3 u (w0.heap.size + 2) (.slice none 0 0) (.slice none 0 0) (.slice none 0 0) ∧ C3 u q x2 y2 z2 ∧ Below w0.heap.size w0 u
theorem InPw.call {w0 u v : World} {q : Nat} {x0 y0 z0 x1 y1 z1 x2 y2 z2 : Value} (h : InPw w0 q x0 y0 z0 x1 y1 z1 x2 y2 z2 u) (k : Below u.heap.size u v) : InPw w0 q x0 y0 z0 x1 y1 z1 x2 y2 z2 v :=
 ⟨h.1.call k, h.2.1.call k, h.2.2.1.call k, h.2.2.2.1.call k, h.2.2.2.2.trans (k.mono h.2.2.2.2.size)⟩
theorem InPw.far {w0 u : World} {q c o : Nat} {x0 y0 z0 x1 y1 z1 x2 y2 z2 x : Value} (h : InPw w0 q x0 y0 z0 x1 y1 z1 x2 y2 z2 u) (h1 : w0.heap.size + 2 < c) (h2 : c ≠ q) : InPw w0 q x0 y0 z0 x1 y1 z1 x2 y2 z2 (u.setCell ⟨c, o, none⟩ x) :=
 ⟨h.1.other (by omega), h.2.1.other (by omega), h.2.2.1.other (by omega), h.2.2.2.1.other h2, h.2.2.2.2.setCell (by show w0.heap.size ≤ c; omega) _⟩
/-- What such a store is. -/
def InF (xs ys : List (Int × Int)) (fs : List ByteArray) (rs : List (ByteArray × Int)) (is : List Int) (bs : List Bool) (js : List (List Int)) : Prop :=
 is.length = xs.length ∧ bs.length = fs.length ∧ js.length = rs.length ∧ (∀ k, (h : k < js.length) → (h2 : k < rs.length) → ((js[k]).length : Int) = rs[k].2)
def In1 (xs : List (Int × Int)) (is : List Int) (n : Nat) : Prop := ∀ k, (h : k < xs.length) → (h2 : k < is.length) → k < n → xs[k].1 ≤ is[k] ∧ is[k] ≤ xs[k].2
def In2 (ys : List (Int × Int)) (js : List (List Int)) (n : Nat) : Prop := ∀ k, (h : k < ys.length) → (h2 : k < js.length) → k < n → ∀ t, (h3 : t < (js[k]).length) → ys[k].1 ≤ (js[k])[t] ∧ (js[k])[t] ≤ ys[k].2
theorem In1.step {xs : List (Int × Int)} {is : List Int} {n : Nat} (h : In1 xs is n) (hn : n < xs.length) {v : Int} (hv : xs[n].1 ≤ v ∧ v ≤ xs[n].2) : In1 xs (is.set n v) (n + 1) := by
 intro k h1 h2 h3
 by_cases e : k = n
 ·subst e; rw [List.getElem_set_self]; exact hv
 ·rw [List.getElem_set_ne (by omega)]
  exact h k h1 (by simpa using h2) (by omega)
theorem rowsZ_at {rs : List (ByteArray × Int)} (k : Nat) (h : k < (rowsZ rs).length) : (rowsZ rs)[k] = zI (rs[k]'(by rw [rowsZ_len] at h; exact h)).2.toNat := by simp [rowsZ]
/-- The elements of one row so far. -/
def In3 (p : Int × Int) (l : List Int) (n : Nat) : Prop := ∀ t, (h : t < l.length) → t < n → p.1 ≤ l[t] ∧ l[t] ≤ p.2
theorem In3.step {p : Int × Int} {l : List Int} {n : Nat} (h : In3 p l n) {v : Int} (hv : p.1 ≤ v ∧ v ≤ p.2) : In3 p (l.set n v) (n + 1) := by
 intro k h1 h2
 by_cases e : k = n
 ·subst e; rw [List.getElem_set_self]; exact hv
 ·rw [List.getElem_set_ne (by omega)]
  exact h k (by simpa using h1) (by omega)
theorem InF.set1 {xs ys : List (Int × Int)} {fs : List ByteArray} {rs : List (ByteArray × Int)} {is : List Int} {bs : List Bool} {js : List (List Int)} (h : InF xs ys fs rs is bs js) (k : Nat) (v : Int) : InF xs ys fs rs (is.set k v) bs js := ⟨by rw [List.length_set]; exact h.1, h.2⟩
theorem InF.set2 {xs ys : List (Int × Int)} {fs : List ByteArray} {rs : List (ByteArray × Int)} {is : List Int} {bs : List Bool} {js : List (List Int)} (h : InF xs ys fs rs is bs js) (k : Nat) (v : Bool) : InF xs ys fs rs is (bs.set k v) js := ⟨h.1, by rw [List.length_set]; exact h.2.1, h.2.2⟩
theorem InF.set3 {xs ys : List (Int × Int)} {fs : List ByteArray} {rs : List (ByteArray × Int)} {is : List Int} {bs : List Bool} {js : List (List Int)} (h : InF xs ys fs rs is bs js) (k t : Nat) (hk : k < js.length) (v : Int) : InF xs ys fs rs is bs (js.set k ((js[k]).set t v)) := by
 refine ⟨h.1, h.2.1, by rw [List.length_set]; exact h.2.2.1, fun i h1 h2 => ?_⟩
 have h1' := h1
 rw [List.length_set] at h1'
 by_cases e : i = k
 ·subst e; rw [List.getElem_set_self, List.length_set]; exact h.2.2.2 i h1' h2
 ·rw [List.getElem_set_ne (by omega)]; exact h.2.2.2 i h1' h2
theorem In2.set {ys : List (Int × Int)} {js : List (List Int)} {n : Nat} (h : In2 ys js n) (l : List Int) : In2 ys (js.set n l) n := by
 intro k h1 h2 h3 t h4
 rw [List.length_set] at h2
 have e : (js.set n l)[k]'(by rw [List.length_set]; exact h2) = js[k] := by rw [List.getElem_set_ne (by omega)]
 have q := h k h1 h2 h3 t (by rw [e] at h4; exact h4)
 simp only [e]
 exact q
theorem In2.next {ys : List (Int × Int)} {js : List (List Int)} {n : Nat} (h : In2 ys js n) (h1 : n < ys.length) (h2 : n < js.length) (k : In3 ys[n] js[n] (js[n]).length) : In2 ys js (n + 1) := by
 intro m q1 q2 q3 t q4
 by_cases e : m = n
 ·subst e; exact k t q4 q4
 ·exact h m q1 q2 (by omega) t q4
set_option maxRecDepth 20000 in
set_option maxHeartbeats 32000000 in
theorem inside_c (a1 a2 a3 : Option Addr) (c1 c2 c3 : Nat) (vs fs : List ByteArray) (rs : List (ByteArray × Int)) (e1 e2 : Option Addr) (d1 d2 : Nat) (xs ys : List (Int × Int)) (a : Option Addr) (len cap : Nat) (w : World) (hv : Strs w a1 vs) (hf : Strs w a2 fs) (hr : Arrs w a3 rs)
  (hz : ∀ x ∈ namesOf vs fs rs, x.size ≤ 1048576) (hx : Ivs w e1 xs) (hy : Ivs w e2 ys) (hc : Code w a len) (he : envB vs fs rs true xs ys = true) (hi : InL xs ∧ InL ys) :
  Calls Tryd.prog 14 #[.agg #[.slice a1 vs.length c1, .slice a2 fs.length c2, .slice a3 rs.length c3], .agg #[.bool true, .slice e1 xs.length d1, .slice e2 ys.length d2], .int .i64 0, .slice a len cap] w fun e w' => ∃ (oa ob oc : Option Addr) (ca cb cc B1 T : Nat) (gs : List Nat) (is : List Int) (bs : List Bool) (js : List (List Int)),
   e = .returned (.agg #[.slice oa is.length ca, .slice ob bs.length cb, .slice oc js.length cc]) ∧ StW w' w.heap.size B1 T oa ob oc cc gs is bs js ∧ InF xs ys fs rs is bs js ∧ In1 xs is xs.length ∧ In2 ys js ys.length ∧ Below w.heap.size w w' := by
 have HY := hide hy
 have HX := hide hx
 have HC := hide hc
 have HIN := hide hi
 have hlv := env_live he
 have hde := env_decl he
 have hfew := env_few he
 have HO := hide hlv
 have HDE := hide hde
 have HS := hide (And.intro hv (And.intro hf (And.intro hr hz)))
 have n1 : xs.length ≤ 5 := hfew.1
 have n2 : ys.length ≤ 2 := hfew.2
 have m1 : xs.length = vs.length := hlv.1
 have m2 : ys.length = rs.length := hlv.2.1
 have m3 : fs.length ≤ 1000 := by have := (of_decide_eq_true hde : declP vs fs rs).2.1; omega
 clear hv hf hr hz hx hy hc hi hlv hde hfew he
 have HM1 := hide m1
 have HM2 := hide m2
 clear m1 m2
 have b0 := B3.new w (.slice a1 vs.length c1) (.slice a2 fs.length c2) (.slice a3 rs.length c3) (.bool true) (.slice e1 xs.length d1) (.slice e2 ys.length d2) (.slice none 0 0) (.slice none 0 0) (.slice none 0 0) 27 43 35
 have hs3 : w.heap.size + 3 ≤ (((w.alloc (Obj.cells #[.slice a1 vs.length c1, .slice a2 fs.length c2, .slice a3 rs.length c3] 27)).alloc (Obj.cells #[.bool true, .slice e1 xs.length d1, .slice e2 ys.length d2] 43)).alloc (Obj.cells #[.slice none 0 0, .slice none 0 0, .slice none 0 0] 35)).heap.size := by simp
 go_enter Tryd.func14, Tryd.ntmps14
 go_upto_region 1 with fail
 generalize ((w.alloc (Obj.cells #[.slice a1 vs.length c1, .slice a2 fs.length c2, .slice a3 rs.length c3] 27)).alloc (Obj.cells #[.bool true, .slice e1 xs.length d1, .slice e2 ys.length d2] 43)).alloc (Obj.cells #[.slice none 0 0, .slice none 0 0, .slice none 0 0] 35) = u at b0 hs3 ⊢
 have HBX := hide b0
 clear b0
 have q0 := (unhide HBX).1.1
 have q1 := (unhide HBX).1.2.1
 have q2 := (unhide HBX).1.2.2.1
 go_wp2_with fail
 refine (sStoreNew_c a1 a2 a3 c1 c2 c3 vs fs rs _ ((unhide HS).1.call (unhide HBX).2.2.2) ((unhide HS).2.1.call (unhide HBX).2.2.2) ((unhide HS).2.2.1.call (unhide HBX).2.2.2) (unhide HS).2.2.2).mono ?_
 rw [(sn_yes (unhide HDE)).1, (sn_yes (unhide HDE)).2.1, (sn_yes (unhide HDE)).2.2]
 rintro e u1 ⟨oa, ca, ob, cb, oc, cc, rfl, hst, kb⟩
 have hl1 : (zI vs.length).length = vs.length := zI_len _
 have hl2 : (zB fs.length).length = fs.length := by simp [zB]
 have hl3 : (rowsZ rs).length = rs.length := rowsZ_len rs
 rw [hl1, hl2, hl3]
 obtain ⟨B1, gs, hst⟩ := StW.ofR hst kb.size
 have hst2 : StW u1 (w.heap.size + 3) B1 u1.heap.size oa ob oc cc gs (zI vs.length) (zB fs.length) (rowsZ rs) := by
  obtain ⟨g1, g2, g3, g4, g5, g6⟩ := hst
  refine ⟨?_, ?_, g3, by omega, g5, g6⟩
  ·rcases g1 with q | ⟨g, e, p1, p2, p3⟩
   ·exact .inl q
   ·exact .inr ⟨g, e, ⟨by omega, p1.2⟩, p2, p3⟩
  ·rcases g2 with q | ⟨g, e, p1, p2⟩
   ·exact .inl q
   ·exact .inr ⟨g, e, ⟨by omega, p1.2⟩, p2⟩
 have bq := C3.new u1 (.slice oa vs.length ca) (.slice ob fs.length cb) (.slice oc rs.length cc) 35
 have ka := (Below.refl _ u1).alloc (Nat.le_refl _) (Obj.cells #[.slice oa vs.length ca, .slice ob fs.length cb, .slice oc rs.length cc] 35)
 have hb2 := ((unhide HBX).call kb).call ka
 have hst3 := hst2.call ka
 have hq3 : w.heap.size + 2 < u1.heap.size := ((unhide HBX).call kb).2.2.1.lt
 clear hst hst2 kb hl1 hl2 hl3 ka q0 q1 q2 hs3 HS
 go_upto_region 2 with fail
 generalize u1.alloc (Obj.cells #[.slice oa vs.length ca, .slice ob fs.length cb, .slice oc rs.length cc] 35) = u2 at bq hb2 hst3 ⊢
 obtain ⟨q, hq⟩ : ∃ q, q = u1.heap.size := ⟨_, rfl⟩
 rw [← hq] at bq hst3 hq3 ⊢
 clear hq HBX
 have HP := hide (show InPw w q (.slice a1 vs.length c1) (.slice a2 fs.length c2) (.slice a3 rs.length c3) (.bool true) (.slice e1 xs.length d1) (.slice e2 ys.length d2) (.slice oa vs.length ca) (.slice ob fs.length cb) (.slice oc rs.length cc) u2 from ⟨hb2.1, hb2.2.1, hb2.2.2.1, bq, hb2.2.2.2⟩)
 clear bq hb2
 have HF0 := hide (show InF xs ys fs rs (zI vs.length) (zB fs.length) (rowsZ rs) from ⟨by rw [zI_len]; exact (unhide HM1).symm, by simp [zB], rowsZ_len rs, fun k h1 h2 => by
  rw [rowsZ_at, zI_len]
  obtain ⟨s, e1, _, e3⟩ := decl_size (unhide HDE) k h2
  rw [e3, e1]⟩)
 have HST := hide hst3
 clear hst3
 have hT : q ≤ q := Nat.le_refl _
 have s0 := (unhide HP).2.2.2.1.1
 go_wp2
 clear s0
 go_loopw [10] (fun i wr => ∃ (j : Nat) (is : List Int), i = .int .i64 j ∧ j ≤ vs.length ∧ InF xs ys fs rs is (zB fs.length) (rowsZ rs) ∧ In1 xs is j ∧ StW wr (w.heap.size + 3) B1 q oa ob oc cc gs is (zB fs.length) (rowsZ rs) ∧ InPw w q (.slice a1 vs.length c1) (.slice a2 fs.length c2) (.slice a3 rs.length c3) (.bool true) (.slice e1 xs.length d1) (.slice e2 ys.length d2) (.slice oa vs.length ca) (.slice ob fs.length cb) (.slice oc rs.length cc) wr) (fun i _ => vs.length - (intOf i).toNat)
 case atStart => exact ⟨0, _, rfl, Nat.zero_le _, unhide HF0, fun _ _ _ h => absurd h (Nat.not_lt_zero _), unhide HST, unhide HP⟩
 case round =>
  clear HP HST HF0
  obtain ⟨j, is, rfl, hj, hF, h1, hst, hp⟩ := hrel
  have HF := hide hF
  have H1 := hide h1
  have HST := hide hst
  have HP := hide hp
  clear hF h1 hst hp
  have s0 := (unhide HP).2.2.2.1.1
  have hv5 : vs.length ≤ 5 := by have := unhide HM1; omega
  by_cases hlt : j < vs.length
  ·have hltI : (j : Int) < (vs.length : Int) := by omega
   go_upto_region 5 with fail
   have E1 := (unhide HP).2.1.2.1
   have hjx : j < xs.length := by have := unhide HM1; omega
   have hji : j < is.length := by have := (unhide HF).1; omega
   rcases ((unhide HX).call (unhide HP).2.2.2.2).2 with h0 | ⟨rb, ro, rfl, hcc⟩
   ·omega
   have hlgx := (unhide HO).2.2 j (by simp; omega)
   rw [List.getElem_append_left hjx] at hlgx
   obtain ⟨il, ig⟩ := (unhide HIN).1 _ (List.getElem_mem hjx)
   have c0 := hcc j hjx
   obtain ⟨g1, rfl, hg1, _⟩ := (unhide HST).w1 hji 0
   have hw3 : IntKind.i64.wrap (3 * (j : Int)) = 3 * (j : Int) := by rw [IntKind.wrap_i64]; omega
   clear hcc
   have HST1 := hide (fun v : Int => In1.step (unhide H1) hjx (v := v))
   generalize hxp : xs[j] = p at c0 il ig hlgx HST1
   clear hxp
   obtain ⟨l, g⟩ := p
   simp only at c0 il ig hlgx
   obtain ⟨c0, c1'⟩ := c0
   have hrb : rb < wr.heap.size := World.block_lt_of_cell? wr _ c0
   have hrbw : rb < w.heap.size := by
    rcases (unhide HX).2 with h0 | ⟨b2, o2, eb, hc2⟩
    ·omega
    ·cases eb; exact World.block_lt_of_cell? w _ (hc2 j hjx).1
   obtain ⟨wz, hwz⟩ : ∃ x, x = wr.drew := ⟨_, rfl⟩
   have HP := hide (show InPw w q _ _ _ _ _ _ _ _ _ wz by rw [hwz]; exact (unhide HP).call (Below.refl _ _).drew)
   have HST := hide (show StW wz (w.heap.size + 3) B1 q (some ⟨g1, 0, none⟩) ob oc cc gs is (zB fs.length) (rowsZ rs) by rw [hwz]; exact (unhide HST).call (Below.refl _ _).drew)
   refine wp_region_held_drew (S := (fun u9 => u9.cell? ⟨q, 0, none⟩ = some (.slice (some ⟨g1, 0, none⟩) vs.length ca) ∧ u9.cell? ⟨w.heap.size + 1, 1, none⟩ = some (.slice (some ⟨rb, ro, none⟩) xs.length d1) ∧ u9.cell? ⟨rb, ro + j * 2, none⟩ = some (.int .i64 l) ∧ u9.cell? ⟨rb, ro + j * 2 + 1, none⟩ = some (.int .i64 g))) (by kernel_rfl) (by exact ⟨s0, E1, c0, c1'⟩) (fun hHeld => ?_)
   rw [← hwz] at hHeld ⊢
   clear hwz
   refine tk 0 (v := ?_) rfl ?_ ?_
   rotate_left
   ·(intro w9 hSw; (try dsimp only at hSw); go_simp; try with_reducible rfl)
   try simp only [Act.put, sa, sb, sc]
   refine tk 1 (v := ?_) rfl ?_ ?_
   rotate_left
   ·(intro w9 hSw; (try dsimp only at hSw); go_simp; try with_reducible rfl)
   try simp only [Act.put, sa, sb, sc]
   refine tk 2 (v := ?_) rfl ?_ ?_
   rotate_left
   ·(intro w9 hSw; (try dsimp only at hSw); go_simp; try with_reducible rfl)
   try simp only [Act.put, sa, sb, sc]
   refine tk 3 (v := ?_) rfl ?_ ?_
   rotate_left
   ·(intro w9 hSw; (try dsimp only at hSw); go_simp; try with_reducible rfl)
   try simp only [Act.put, sa, sb, sc]
   refine tk 4 (v := ?_) rfl ?_ ?_
   rotate_left
   ·(intro w9 hSw; (try dsimp only at hSw); go_simp; try with_reducible rfl)
   try simp only [Act.put, sa, sb, sc]
   refine tk 5 (v := ?_) rfl ?_ ?_
   rotate_left
   ·(intro w9 hSw; (try dsimp only at hSw); go_simp; try with_reducible rfl)
   try simp only [Act.put, sa, sb, sc]
   refine tk 6 (v := ?_) rfl ?_ ?_
   rotate_left
   ·(intro w9 hSw; (try dsimp only at hSw); go_simp; try with_reducible rfl)
   try simp only [Act.put, sa, sb, sc]
   refine tk 7 (v := ?_) rfl ?_ ?_
   rotate_left
   ·(intro w9 hSw; (try dsimp only at hSw); go_simp; try with_reducible rfl)
   try simp only [Act.put, sa, sb, sc]
   refine tk 8 (v := ?_) rfl ?_ ?_
   rotate_left
   ·(intro w9 hSw; (try dsimp only at hSw); go_simp; try with_reducible rfl)
   try simp only [Act.put, sa, sb, sc]
   refine tk 9 (v := ?_) rfl ?_ ?_
   rotate_left
   ·(intro w9 hSw; (try dsimp only at hSw); go_simp; try with_reducible rfl)
   try simp only [Act.put, sa, sb, sc]
   refine tk 10 (v := ?_) rfl ?_ ?_
   rotate_left
   ·(intro w9 hSw; (try dsimp only at hSw); go_simp; try with_reducible rfl)
   try simp only [Act.put, sa, sb, sc]
   refine wpAnyH_ready (rs := [11]) (by kernel_rfl) (by simp) ?_
   refine AllReadyH.cons (i := 11) rfl (fun K hK => ?_) AllReadyH.nil
   go_simp
   refine (lwithin_c l g a len cap _ il ig hlgx (by constructor <;> omega) _ ((unhide HC).below (unhide HP).2.2.2.2)).mono ?_
   rintro e v1 ⟨⟨n, rfl, na, nb⟩, kb⟩
   have HP := hide ((unhide HP).call kb)
   have HST := hide ((unhide HST).call kb)
   have hq := (show (fun u9 => u9.cell? ⟨q, 0, none⟩ = some (.slice (some ⟨g1, 0, none⟩) vs.length ca) ∧ u9.cell? ⟨w.heap.size + 1, 1, none⟩ = some (.slice (some ⟨rb, ro, none⟩) xs.length d1) ∧ u9.cell? ⟨rb, ro + j * 2, none⟩ = some (.int .i64 l) ∧ u9.cell? ⟨rb, ro + j * 2 + 1, none⟩ = some (.int .i64 g)) v1 from ⟨(kb.cell (World.block_lt_of_cell? _ _ hHeld.1)).trans hHeld.1, (kb.cell (World.block_lt_of_cell? _ _ hHeld.2.1)).trans hHeld.2.1, (kb.cell (World.block_lt_of_cell? _ _ hHeld.2.2.1)).trans hHeld.2.2.1, (kb.cell (World.block_lt_of_cell? _ _ hHeld.2.2.2)).trans hHeld.2.2.2⟩)
   clear kb hHeld
   refine hK.out _ _ hq (fun hHeld => ?_)
   clear hK K hq
   try simp only [Act.put, sa, sb, sc]
   refine tk 12 (v := ?_) rfl ?_ ?_
   rotate_left
   ·(intro w9 hSw; (try dsimp only at hSw); go_simp; try with_reducible rfl)
   try simp only [Act.put, sa, sb, sc]
   refine wpAnyH_ready (rs := [13]) (by kernel_rfl) (by simp) ?_
   refine AllReadyH.cons (i := 13) rfl (fun K hK => ?_) AllReadyH.nil
   obtain ⟨g9, eg, hg9, ⟨y, hy9⟩, hf9, hst9⟩ := (unhide HST).w1 hji n
   cases eg
   have HST := hide hst9
   have HP := hide ((unhide HP).far (c := g1) (o := j) (x := .int .i64 n) (by omega) (by omega))
   clear hst9
   go_simp
   refine hK.out _ _ ⟨(unhide HP).2.2.2.1.1, (unhide HP).2.1.2.1, (World.cell?_setCell_other _ _ _ _ (fun e => by have := congrArg Addr.block e; simp at this; omega)).trans hHeld.2.2.1, (World.cell?_setCell_other _ _ _ _ (fun e => by have := congrArg Addr.block e; simp at this; omega)).trans hHeld.2.2.2⟩ (fun hHeld => ?_)
   clear hK K hHeld
   try simp only [Act.put, sa, sb, sc]
   refine wpAnyH_done (by kernel_rfl) ?_ _
   have HF := hide ((unhide HF).set1 j n)
   have H1 := hide ((unhide HST1) n ⟨na, nb⟩)
   clear s0 E1 c0 c1' hy9 hf9
   go_wp2
   go_roundw
   case rel => exact ⟨j + 1, is.set j n, by go_num, by omega, unhide HF, unhide H1, unhide HST, unhide HP⟩
   case measure => simp [intOf]; omega
  ·have hltI : ¬ (j : Int) < (vs.length : Int) := by omega
   have H1 := hide (show In1 xs is xs.length from fun k h h2 h3 => (unhide H1) k h h2 (by have := unhide HM1; omega))
   go_upto_region 6 with fail
   clear s0 hltI hlt hj
   generalize wr = wo at HST HP ⊢
   have s1 := (unhide HP).2.2.2.1.2.1
   go_wp2
   clear s1
   go_loopw [11] (fun i wr => ∃ (j : Nat) (bs : List Bool), i = .int .i64 j ∧ j ≤ fs.length ∧ InF xs ys fs rs is bs (rowsZ rs) ∧ StW wr (w.heap.size + 3) B1 q oa ob oc cc gs is bs (rowsZ rs) ∧ InPw w q (.slice a1 vs.length c1) (.slice a2 fs.length c2) (.slice a3 rs.length c3) (.bool true) (.slice e1 xs.length d1) (.slice e2 ys.length d2) (.slice oa vs.length ca) (.slice ob fs.length cb) (.slice oc rs.length cc) wr) (fun i _ => fs.length - (intOf i).toNat)
   case atStart => exact ⟨0, _, rfl, Nat.zero_le _, unhide HF, unhide HST, unhide HP⟩
   case round =>
    clear HP HST HF
    obtain ⟨j, bs, rfl, hj, hF, hst, hp⟩ := hrel
    have HF := hide hF
    have HST := hide hst
    have HP := hide hp
    clear hF hst hp
    have s1 := (unhide HP).2.2.2.1.2.1
    by_cases hlt : j < fs.length
    ·have hltI : (j : Int) < (fs.length : Int) := by omega
     have hjb : j < bs.length := by have := (unhide HF).2.1; omega
     have hjI : (j : Int) ≤ 1000 := by omega
     obtain ⟨g2, rfl, hg2, ⟨y, hy2⟩, hf2, hst9⟩ := (unhide HST).w2 hjb (bits .and .i64 0 1 == 1)
     have HST2 := hide hst9
     clear hst9
     go_wp2
     go_roundw
     case rel => exact ⟨j + 1, bs.set j _, by go_num, by omega, (unhide HF).set2 j _, unhide HST2, (unhide HP).far (by omega) (by omega)⟩
     case measure => simp [intOf]; omega
    ·have hltI : ¬ (j : Int) < (fs.length : Int) := by omega
     go_upto_region 10 with fail
     clear s1 hltI hlt hj
     generalize wr = wo2 at HST HP ⊢
     have s2 := (unhide HP).2.2.2.1.2.2.1
     have n3 : rs.length ≤ 2 := by have := unhide HM2; omega
     go_wp2
     clear s2
     go_loopw [12] (fun i wr => ∃ (j : Nat) (js : List (List Int)), i = .int .i64 j ∧ j ≤ rs.length ∧ InF xs ys fs rs is bs js ∧ In2 ys js j ∧ StW wr (w.heap.size + 3) B1 q oa ob oc cc gs is bs js ∧ InPw w q (.slice a1 vs.length c1) (.slice a2 fs.length c2) (.slice a3 rs.length c3) (.bool true) (.slice e1 xs.length d1) (.slice e2 ys.length d2) (.slice oa vs.length ca) (.slice ob fs.length cb) (.slice oc rs.length cc) wr) (fun i _ => rs.length - (intOf i).toNat)
     case atStart => exact ⟨0, _, rfl, Nat.zero_le _, unhide HF, fun _ _ _ h => absurd h (Nat.not_lt_zero _), unhide HST, unhide HP⟩
     case round =>
      clear HP HST HF
      obtain ⟨j, js, rfl, hj, hF, h2, hst, hp⟩ := hrel
      have HF := hide hF
      have H2 := hide h2
      have HST := hide hst
      have HP := hide hp
      clear hF h2 hst hp
      have s2 := (unhide HP).2.2.2.1.2.2.1
      by_cases hlt : j < rs.length
      ·have hltI : (j : Int) < (rs.length : Int) := by omega
       have hjy : j < ys.length := by have := unhide HM2; omega
       obtain ⟨s, hs1, hs16, _⟩ := decl_size (unhide HDE) j hlt
       rcases (unhide HY).2 with h0 | ⟨rb, ro, rfl, hcc⟩
       ·omega
       have hlgx := (unhide HO).2.2 (xs.length + j) (by simp; omega)
       rw [List.getElem_append_right (by omega)] at hlgx
       simp only [Nat.add_sub_cancel_left] at hlgx
       obtain ⟨il, ig⟩ := (unhide HIN).2 _ (List.getElem_mem hjy)
       have c0 := hcc j hjy
       clear hcc
       have HNX := hide (fun (js : List (List Int)) (h : In2 ys js j) (h2 : j < js.length) (k : In3 ys[j] js[j] (js[j]).length) => In2.next h hjy h2 k)
       generalize hyp : ys[j] = p at c0 il ig hlgx HNX
       clear hyp
       obtain ⟨l, g⟩ := p
       simp only at c0 il ig hlgx
       have HC0 := hide c0
       have HSZ := hide hs1
       have hrbw : rb < w.heap.size := World.block_lt_of_cell? w _ c0.1
       clear c0 hs1
       have hL : ∀ js2, InF xs ys fs rs is bs js2 → (h : j < js2.length) → (js2[j]).length = s := fun js2 hF2 h => by have := hF2.2.2.2 j h hlt; have := unhide HSZ; omega
       have HL := hide hL
       clear hL
       go_upto_region 13 with fail
       clear s2
       generalize wr = wi at HST HP ⊢
       have h00 : In3 (l, g) (js.getD j []) 0 := fun _ _ h => absurd h (Nat.not_lt_zero _)
       have HF2 := HF
       have H22 := H2
       have H3 := hide h00
       clear h00 H2
       generalize js = js0 at HST HF2 H22 H3
       go_wp2
       go_loopw [13] (fun i wr => ∃ (t : Nat) (js : List (List Int)), i = .int .i64 t ∧ t ≤ s ∧ InF xs ys fs rs is bs js ∧ In2 ys js j ∧ In3 (l, g) (js.getD j []) t ∧ StW wr (w.heap.size + 3) B1 q oa ob oc cc gs is bs js ∧ InPw w q (.slice a1 vs.length c1) (.slice a2 fs.length c2) (.slice a3 rs.length c3) (.bool true) (.slice e1 xs.length d1) (.slice (some ⟨rb, ro, none⟩) ys.length d2) (.slice oa vs.length ca) (.slice ob fs.length cb) (.slice oc rs.length cc) wr) (fun i _ => s - (intOf i).toNat)
       case atStart => exact ⟨0, _, rfl, Nat.zero_le _, unhide HF2, unhide H22, unhide H3, unhide HST, unhide HP⟩
       case round =>
        clear HP HST HF2 H22 H3 HF
        obtain ⟨t, js, rfl, ht, hF, h2, h3, hst, hp⟩ := hrel
        have HF := hide hF
        have H2 := hide h2
        have H3 := hide h3
        have HST := hide hst
        have HP := hide hp
        clear hF h2 h3 hst hp
        have s2 := (unhide HP).2.2.2.1.2.2.1
        have hj2 : j < js.length := by have := (unhide HF).2.2.1; omega
        have hls := (unhide HL) js (unhide HF) hj2
        obtain ⟨b, oo, c, rfl, hh⟩ := (unhide HST).hdr hj2
        rw [hls] at hh
        have HLS := hide hls
        clear hls
        have ht16 : (t : Int) ≤ 16 := by omega
        by_cases hts : t < s
        ·have htI : (t : Int) < (s : Int) := by omega
         go_upto_region 16 with fail
         have hgd : js.getD j [] = js[j] := by simp [List.getD, List.getElem?_eq_getElem hj2]
         have htl : t < (js[j]).length := by rw [unhide HLS]; exact hts
         obtain ⟨g3, b3, c3', hg3, eb, hb3, hbg, hh3, _, _, _⟩ := (unhide HST).w3 hj2 htl 0
         cases eb
         rw [unhide HLS] at hh3
         have hoo : some (Value.slice oo s c) = some (Value.slice (some ⟨g3, 0, none⟩) s c3') := hh.symm.trans hh3
         cases hoo
         clear hh3
         have E2 := (unhide HP).2.1.2.2.1
         have c0 := ((unhide HP).2.2.2.2.cell (by exact hrbw)).trans (unhide HC0).1
         have c1' := ((unhide HP).2.2.2.2.cell (by exact hrbw)).trans (unhide HC0).2
         have hw5 : IntKind.i64.wrap (5 * (t : Int)) = 5 * (t : Int) := by rw [IntKind.wrap_i64]; omega
         have hjI2 : (j : Int) ≤ 2 := by omega
         have hw6 : IntKind.i64.wrap (5 * (t : Int) + (j : Int)) = 5 * (t : Int) + (j : Int) := by rw [IntKind.wrap_i64]; omega
         have HGD := hide hgd
         clear hgd
         obtain ⟨wz, hwz⟩ : ∃ x, x = wr.drew := ⟨_, rfl⟩
         have HP := hide (show InPw w q _ _ _ _ _ _ _ _ _ wz by rw [hwz]; exact (unhide HP).call (Below.refl _ _).drew)
         have HST := hide (show StW wz (w.heap.size + 3) B1 q oa ob (some ⟨b, 0, none⟩) cc gs is bs js by rw [hwz]; exact (unhide HST).call (Below.refl _ _).drew)
         refine wp_region_held_drew (S := (fun u9 => u9.cell? ⟨q, 2, none⟩ = some (.slice (some ⟨b, 0, none⟩) rs.length cc) ∧ u9.cell? ⟨b, j, none⟩ = some (.slice (some ⟨g3, 0, none⟩) s c) ∧ u9.cell? ⟨w.heap.size + 1, 2, none⟩ = some (.slice (some ⟨rb, ro, none⟩) ys.length d2) ∧ u9.cell? ⟨rb, ro + j * 2, none⟩ = some (.int .i64 l) ∧ u9.cell? ⟨rb, ro + j * 2 + 1, none⟩ = some (.int .i64 g))) (by kernel_rfl) (by exact ⟨s2, hh, E2, c0, c1'⟩) (fun hHeld => ?_)
         rw [← hwz] at hHeld ⊢
         clear hwz
         refine tk 0 (v := ?_) rfl ?_ ?_
         rotate_left
         ·(intro w9 hSw; (try dsimp only at hSw); go_simp; try with_reducible rfl)
         try simp only [Act.put, sa, sb, sc]
         refine tk 1 (v := ?_) rfl ?_ ?_
         rotate_left
         ·(intro w9 hSw; (try dsimp only at hSw); go_simp; try with_reducible rfl)
         try simp only [Act.put, sa, sb, sc]
         refine tk 2 (v := ?_) rfl ?_ ?_
         rotate_left
         ·(intro w9 hSw; (try dsimp only at hSw); go_simp; try with_reducible rfl)
         try simp only [Act.put, sa, sb, sc]
         refine tk 3 (v := ?_) rfl ?_ ?_
         rotate_left
         ·(intro w9 hSw; (try dsimp only at hSw); go_simp; try with_reducible rfl)
         try simp only [Act.put, sa, sb, sc]
         refine tk 4 (v := ?_) rfl ?_ ?_
         rotate_left
         ·(intro w9 hSw; (try dsimp only at hSw); go_simp; try with_reducible rfl)
         try simp only [Act.put, sa, sb, sc]
         refine tk 5 (v := ?_) rfl ?_ ?_
         rotate_left
         ·(intro w9 hSw; (try dsimp only at hSw); go_simp; try with_reducible rfl)
         try simp only [Act.put, sa, sb, sc]
         refine tk 6 (v := ?_) rfl ?_ ?_
         rotate_left
         ·(intro w9 hSw; (try dsimp only at hSw); go_simp; try with_reducible rfl)
         try simp only [Act.put, sa, sb, sc]
         refine tk 7 (v := ?_) rfl ?_ ?_
         rotate_left
         ·(intro w9 hSw; (try dsimp only at hSw); go_simp; try with_reducible rfl)
         try simp only [Act.put, sa, sb, sc]
         refine tk 8 (v := ?_) rfl ?_ ?_
         rotate_left
         ·(intro w9 hSw; (try dsimp only at hSw); go_simp; try with_reducible rfl)
         try simp only [Act.put, sa, sb, sc]
         refine tk 9 (v := ?_) rfl ?_ ?_
         rotate_left
         ·(intro w9 hSw; (try dsimp only at hSw); go_simp; try with_reducible rfl)
         try simp only [Act.put, sa, sb, sc]
         refine tk 10 (v := ?_) rfl ?_ ?_
         rotate_left
         ·(intro w9 hSw; (try dsimp only at hSw); go_simp; try with_reducible rfl)
         try simp only [Act.put, sa, sb, sc]
         refine tk 11 (v := ?_) rfl ?_ ?_
         rotate_left
         ·(intro w9 hSw; (try dsimp only at hSw); go_simp; try with_reducible rfl)
         try simp only [Act.put, sa, sb, sc]
         refine tk 12 (v := ?_) rfl ?_ ?_
         rotate_left
         ·(intro w9 hSw; (try dsimp only at hSw); go_simp; try with_reducible rfl)
         try simp only [Act.put, sa, sb, sc]
         refine tk 13 (v := ?_) rfl ?_ ?_
         rotate_left
         ·(intro w9 hSw; (try dsimp only at hSw); go_simp; try with_reducible rfl)
         try simp only [Act.put, sa, sb, sc]
         refine tk 14 (v := ?_) rfl ?_ ?_
         rotate_left
         ·(intro w9 hSw; (try dsimp only at hSw); go_simp; try with_reducible rfl)
         try simp only [Act.put, sa, sb, sc]
         refine tk 15 (v := ?_) rfl ?_ ?_
         rotate_left
         ·(intro w9 hSw; (try dsimp only at hSw); go_simp; try with_reducible rfl)
         try simp only [Act.put, sa, sb, sc]
         refine wpAnyH_ready (rs := [16]) (by kernel_rfl) (by simp) ?_
         refine AllReadyH.cons (i := 16) rfl (fun K hK => ?_) AllReadyH.nil
         go_simp
         refine (lwithin_c l g a len cap _ il ig hlgx (by constructor <;> omega) _ ((unhide HC).below (unhide HP).2.2.2.2)).mono ?_
         rintro e v1 ⟨⟨n, rfl, na, nb⟩, kb⟩
         have HP := hide ((unhide HP).call kb)
         have HST := hide ((unhide HST).call kb)
         have hq := (show (fun u9 => u9.cell? ⟨q, 2, none⟩ = some (.slice (some ⟨b, 0, none⟩) rs.length cc) ∧ u9.cell? ⟨b, j, none⟩ = some (.slice (some ⟨g3, 0, none⟩) s c) ∧ u9.cell? ⟨w.heap.size + 1, 2, none⟩ = some (.slice (some ⟨rb, ro, none⟩) ys.length d2) ∧ u9.cell? ⟨rb, ro + j * 2, none⟩ = some (.int .i64 l) ∧ u9.cell? ⟨rb, ro + j * 2 + 1, none⟩ = some (.int .i64 g)) v1 from ⟨(kb.cell (World.block_lt_of_cell? _ _ hHeld.1)).trans hHeld.1, (kb.cell (World.block_lt_of_cell? _ _ hHeld.2.1)).trans hHeld.2.1, (kb.cell (World.block_lt_of_cell? _ _ hHeld.2.2.1)).trans hHeld.2.2.1, (kb.cell (World.block_lt_of_cell? _ _ hHeld.2.2.2.1)).trans hHeld.2.2.2.1, (kb.cell (World.block_lt_of_cell? _ _ hHeld.2.2.2.2)).trans hHeld.2.2.2.2⟩)
         clear kb hHeld
         refine hK.out _ _ hq (fun hHeld => ?_)
         clear hK K hq
         try simp only [Act.put, sa, sb, sc]
         refine tk 17 (v := ?_) rfl ?_ ?_
         rotate_left
         ·(intro w9 hSw; (try dsimp only at hSw); go_simp; try with_reducible rfl)
         try simp only [Act.put, sa, sb, sc]
         refine wpAnyH_ready (rs := [18]) (by kernel_rfl) (by simp) ?_
         refine AllReadyH.cons (i := 18) rfl (fun K hK => ?_) AllReadyH.nil
         obtain ⟨g9, b9, c9, hg9, eb9, hb9, hbg9, hh9, ⟨y, hy9⟩, hf9, hst9⟩ := (unhide HST).w3 hj2 htl n
         cases eb9
         rw [unhide HLS] at hh9
         have hoo : some (Value.slice (some ⟨g3, 0, none⟩) s c) = some (Value.slice (some ⟨g9, 0, none⟩) s c9) := hHeld.2.1.symm.trans hh9
         cases hoo
         have HST := hide hst9
         have HP := hide ((unhide HP).far (c := g3) (o := t) (x := .int .i64 n) (by omega) (by omega))
         clear hst9 hh9
         go_simp
         refine hK.out _ _ ⟨(unhide HP).2.2.2.1.2.2.1, (World.cell?_setCell_other _ _ _ _ (fun e => by have := congrArg Addr.block e; simp at this; omega)).trans hHeld.2.1, (unhide HP).2.1.2.2.1, (World.cell?_setCell_other _ _ _ _ (fun e => by have := congrArg Addr.block e; simp at this; omega)).trans hHeld.2.2.2.1, (World.cell?_setCell_other _ _ _ _ (fun e => by have := congrArg Addr.block e; simp at this; omega)).trans hHeld.2.2.2.2⟩ (fun hHeld => ?_)
         clear hK K hHeld
         try simp only [Act.put, sa, sb, sc]
         refine wpAnyH_done (by kernel_rfl) ?_ _
         have HF := hide ((unhide HF).set3 j t hj2 n)
         have H2 := hide ((unhide H2).set ((js[j]).set t n))
         have H3 := hide (show In3 (l, g) ((js.set j ((js[j]).set t n)).getD j []) (t + 1) from by
          have e : (js.set j ((js[j]).set t n)).getD j [] = (js[j]).set t n := by simp [List.getD, hj2]
          rw [e]
          have q := unhide H3
          rw [unhide HGD] at q
          exact q.step ⟨na, nb⟩)
         clear s2 hh E2 c0 c1' hy9 hf9
         go_wp2
         go_roundw
         case rel => exact ⟨t + 1, js.set j ((js[j]).set t n), by go_num, by omega, unhide HF, unhide H2, unhide H3, unhide HST, unhide HP⟩
         case measure => simp [intOf]; omega
        ·have htI : ¬ (t : Int) < (s : Int) := by omega
         have hnx := (unhide HNX) js (unhide H2) hj2 (fun x h1 _ => by
          have q := unhide H3
          have e : js.getD j [] = js[j] := by simp [List.getD, List.getElem?_eq_getElem hj2]
          rw [e] at q
          exact q x h1 (by have := unhide HLS; omega))
         have HN2 := hide hnx
         clear hnx
         go_wp2
         go_roundw
         case rel => exact ⟨j + 1, js, by go_num, by omega, unhide HF, unhide HN2, unhide HST, unhide HP⟩
         case measure => simp [intOf]; omega
      ·have hltI : ¬ (j : Int) < (rs.length : Int) := by omega
       have t0 := (unhide HP).2.2.2.1.1
       have t1 := (unhide HP).2.2.2.1.2.1
       have r0 : wr.cell? ⟨w.heap.size + 1 + 1, 0, none⟩ = _ := (unhide HP).2.2.1.1
       have r1 : wr.cell? ⟨w.heap.size + 1 + 1, 1, none⟩ = _ := (unhide HP).2.2.1.2.1
       have r2 : wr.cell? ⟨w.heap.size + 1 + 1, 2, none⟩ = _ := (unhide HP).2.2.1.2.2.1
       have f0 : wr.frozen? ⟨w.heap.size + 1 + 1, 0, none⟩ = _ := (unhide HP).2.2.1.2.2.2 0
       have f1 : wr.frozen? ⟨w.heap.size + 1 + 1, 1, none⟩ = _ := (unhide HP).2.2.1.2.2.2 1
       have f2 : wr.frozen? ⟨w.heap.size + 1 + 1, 2, none⟩ = _ := (unhide HP).2.2.1.2.2.2 2
       have hF := unhide HF
       have hsw := (((unhide HST).far (c := w.heap.size + 1 + 1) (o := 0) (x := .slice oa vs.length ca) (.inl (by omega))).far (c := w.heap.size + 1 + 1) (o := 1) (x := .slice ob fs.length cb) (.inl (by omega))).far (c := w.heap.size + 1 + 1) (o := 2) (x := .slice oc rs.length cc) (.inl (by omega))
       have hbel := (((unhide HP).2.2.2.2.setCell (p := ⟨w.heap.size + 1 + 1, 0, none⟩) (by show w.heap.size ≤ w.heap.size + 1 + 1; omega) (.slice oa vs.length ca)).setCell (p := ⟨w.heap.size + 1 + 1, 1, none⟩) (by show w.heap.size ≤ w.heap.size + 1 + 1; omega) (.slice ob fs.length cb)).setCell (p := ⟨w.heap.size + 1 + 1, 2, none⟩) (by show w.heap.size ≤ w.heap.size + 1 + 1; omega) (.slice oc rs.length cc)
       have HSW := hide hsw
       have HBL := hide hbel
       clear hsw hbel
       go_wp2
       have l1 : is.length = vs.length := by have := unhide HM1; have := hF.1; omega
       have l2 : bs.length = fs.length := hF.2.1
       have l3 : js.length = rs.length := hF.2.2.1
       refine bodyPost_ret (v := .agg #[.slice oa vs.length ca, .slice ob fs.length cb, .slice oc rs.length cc]) (by simp [results, Tryd.results14, go_sem, r0, r1, r2]) rfl ⟨oa, ob, oc, ca, cb, cc, B1, q, gs, is, bs, js, by rw [l1, l2, l3], ?_, hF, unhide H1, fun k h h2 h3 => (unhide H2) k h h2 (by have := unhide HM2; omega), unhide HBL⟩
       obtain ⟨p1, p2, p3, p4, p5, p6⟩ := unhide HSW
       refine ⟨?_, ?_, p3, by omega, p5, p6⟩
       ·rcases p1 with x | ⟨g, e, k1, k2, k3⟩
        ·exact .inl x
        ·exact .inr ⟨g, e, ⟨by omega, k1.2⟩, k2, k3⟩
       ·rcases p2 with x | ⟨g, e, k1, k2⟩
        ·exact .inl x
        ·exact .inr ⟨g, e, ⟨by omega, k1.2⟩, k2⟩
end Go.Proofs.YtpdnnpnclgcpoaaDoor
