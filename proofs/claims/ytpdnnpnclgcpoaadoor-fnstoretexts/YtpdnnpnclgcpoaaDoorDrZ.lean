/- Texts that go together: DrwE, DrwF. -/
import Derived.Test.YtpdnnpnclgcpoaaDoorIrZ
import Derived.Test.YtpdnnpnclgcpoaaDoorCoZ
import Derived.Test.YtpdnnpnclgcpoaaDoorSiZ
import Derived.Test.YtpdnnpnclgcpoaaDoorNaZ
/- What stands while bounds are drawn. -/
namespace Go.Proofs.YtpdnnpnclgcpoaaDoor
open Go.RowKit Go.Iv
set_option linter.unusedSimpArgs false
set_option linter.unusedVariables false

/-- Ends that are numbers of the program. -/
def InL (zs : List (Int × Int)) : Prop := ∀ p ∈ zs, In p.1 ∧ In p.2
theorem InL.nil : InL [] := fun p h => by cases h
theorem InL.snoc {zs : List (Int × Int)} {l g : Int} (h : InL zs) (hl : In l) (hg : In g) : InL (zs ++ [(l, g)]) := fun p hp => by
  rcases List.mem_append.1 hp with h1 | h1
  · exact h p h1
  · rw [List.mem_singleton.1 h1]; exact ⟨hl, hg⟩
theorem InL.set {zs : List (Int × Int)} {l g : Int} {k : Nat} (h : InL zs) (hl : In l) (hg : In g) : InL (zs.set k (l, g)) := fun p hp => by
  rcases List.mem_or_eq_of_mem_set hp with h1 | h1
  · exact h p h1
  · rw [h1]; exact ⟨hl, hg⟩
theorem C3.kp {u v : World} {g b : Nat} {x y z : Value} (h : C3 u g x y z) (k : Kp b u v) (hne : g ≠ b) : C3 v g x y z := by
  have hg := k.block g h.lt hne
  exact ⟨(World.cell?_of_block (w := u) hg).trans h.1, (World.cell?_of_block (w := u) hg).trans h.2.1, (World.cell?_of_block (w := u) hg).trans h.2.2.1, fun o => (World.frozen?_of_block (w := u) hg).trans (h.2.2.2 o)⟩
theorem own_kp {w w' : World} {base b : Nat} {e : TypeId} {size n : Nat} {v : Value} {xs : List Value} (h : w.ownsRow base e size v n xs) (k : Kp b w w') (hb : b < base) : w'.ownsRow base e size v n xs := by
  refine ⟨h.1, ?_⟩
  rcases h.2 with hn | ⟨g, cap, cur, hv, hbg, hg, r⟩
  · exact .inl hn
  · exact .inr ⟨g, cap, cur, hv, hbg, by rw [k.block g (Array.getElem?_eq_some_iff.1 hg).1 (by omega)]; exact hg, r⟩
theorem own_grown {u v : World} {B : Nat} {e : TypeId} {k n : Nat} {val : Value} {xs : List Value} {row : Option Nat} (h : u.ownsRow B e k val n xs) (hg : u.grownBy v row) (hne : ∀ g, val.ownBlock = some g → some g ≠ row) : v.ownsRow B e k val n xs := by
  have l := h
  refine ⟨h.1, ?_⟩
  rcases h.2 with h0 | ⟨g, cap, cur, hv, hB, hgb, r⟩
  · exact .inl h0
  · refine .inr ⟨g, cap, cur, hv, hB, (hg.block g (l.lt g (by rw [hv]; rfl)).2 (hne g (by rw [hv]; rfl))).trans hgb, r⟩
theorem Left.grown {b len cap : Nat} {a : Option Addr} {u w v : World} {row : Option Nat} (h : Left b a len cap u w) (hg : w.grownBy v row) (hr : ∀ j, row = some j → u.heap.size ≤ j) (hb : b < u.heap.size) (hcode : ∀ x, a = some x → 0 < len → x.block < u.heap.size) : Left b a len cap u v := by
  have hs := h.2.size
  refine ⟨?_, ⟨hg.os.trans h.2.os, hg.tape.trans h.2.tape, hg.output.trans h.2.output, Nat.le_trans h.2.size hg.size, fun k hk hne => (hg.block k (by omega) (fun e => by have := hr k e.symm; omega)).trans (h.2.block k hk hne)⟩⟩
  cases row with
  | none => exact h.1.kept (b' := w.heap.size) ⟨hg.os, hg.tape, hg.output, hg.size, fun k hk _ => hg.block k hk (by simp)⟩ (by omega) (fun x hx hl => by have := hcode x hx hl; omega)
  | some j => exact h.1.kept (b' := j) ⟨hg.os, hg.tape, hg.output, hg.size, fun k hk hne => hg.block k hk (fun e => hne (by injection e))⟩ (by have := hr j rfl; omega) (fun x hx hl => by have := hcode x hx hl; have := hr j rfl; omega)
theorem RowsE.kp {w w' : World} {B ca cb b : Nat} {oa ob : Option Addr} {xs ys : List (Int × Int)} (h : RowsE w B oa ca ob cb xs ys) (k : Kp b w w') (hb : b < B) : RowsE w' B oa ca ob cb xs ys := ⟨own_kp h.1 k hb, own_kp h.2.1 k hb, h.2.2⟩
/-- The reader, the declaration's box, the answer's, that of the bounds, their rows. -/
def EnP (w0 : World) (b : Nat) (a : Option Addr) (len cap gd gr ge B : Nat) (x y z : Value) (oa : Option Addr) (ca : Nat) (ob : Option Addr) (cb : Nat) (xs ys : List (Int × Int)) (u : World) : Prop :=
  Left b a len cap w0 u ∧ C3 u gd x y z ∧ C3 u gr (.bool false) (.slice none 0 0) (.slice none 0 0) ∧ C3 u ge (.bool true) (.slice oa xs.length ca) (.slice ob ys.length cb) ∧ RowsE u B oa ca ob cb xs ys
/-- Their order. -/
def EnN (w0 : World) (b : Nat) (a : Option Addr) (len gd gr ge B : Nat) : Prop := b < w0.heap.size ∧ w0.heap.size ≤ gd ∧ w0.heap.size ≤ gr ∧ gd < ge ∧ gr < ge ∧ ge < B ∧ ∀ x, a = some x → 0 < len → x.block < w0.heap.size
section
variable {w0 : World} {b : Nat} {a : Option Addr} {len cap gd gr ge B : Nat} {x y z : Value} {oa ob : Option Addr} {ca cb : Nat} {xs ys : List (Int × Int)} {u v : World}
theorem EnP.kp (h : EnP w0 b a len cap gd gr ge B x y z oa ca ob cb xs ys u) (n : EnN w0 b a len gd gr ge B) (k : Left b a len cap u v) : EnP w0 b a len cap gd gr ge B x y z oa ca ob cb xs ys v := by
  obtain ⟨n1, n2, n3, n4, n5, n6, _⟩ := n
  exact ⟨h.1.trans k, h.2.1.kp k.2 (by omega), h.2.2.1.kp k.2 (by omega), h.2.2.2.1.kp k.2 (by omega), h.2.2.2.2.kp k.2 (by omega)⟩
theorem EnP.alloc (h : EnP w0 b a len cap gd gr ge B x y z oa ca ob cb xs ys u) (o : Obj) : EnP w0 b a len cap gd gr ge B x y z oa ca ob cb xs ys (u.alloc o) :=
  ⟨h.1.alloc o, h.2.1.alloc o, h.2.2.1.alloc o, h.2.2.2.1.alloc o, h.2.2.2.2.call ((Below.refl _ u).alloc (Nat.le_refl _) o)⟩
theorem EnP.drew (h : EnP w0 b a len cap gd gr ge B x y z oa ca ob cb xs ys u) : EnP w0 b a len cap gd gr ge B x y z oa ca ob cb xs ys u.drew :=
  ⟨h.1.drew, h.2.1, h.2.2.1, h.2.2.2.1, h.2.2.2.2⟩
theorem cellsV_snoc (xs : List (Int × Int)) (l g : Int) : cellsV (xs ++ [(l, g)]) = cellsV xs ++ [.int .i64 l, .int .i64 g] := by rw [cellsV_app]; rfl
/-- What is appended to the first row. -/
theorem EnP.app1 (h : EnP w0 b a len cap gd gr ge B x y z oa ca ob cb xs ys u) (n : EnN w0 b a len gd gr ge B) {oa' : Option Addr} {ca' : Nat} {l g : Int} (hB : B ≤ u.heap.size)
    (hown : v.ownsRow B 81 2 (.slice oa' (xs.length + 1) ca') (xs.length + 1) (cellsV xs ++ [.int .i64 l, .int .i64 g])) (hg : u.grownBy v (Value.slice oa xs.length ca).ownBlock) (hloc : (Value.slice oa' (xs.length + 1) ca').ownBlock = (Value.slice oa xs.length ca).ownBlock ∨ (Value.slice oa' (xs.length + 1) ca').ownBlock = some u.heap.size) :
    EnP w0 b a len cap gd gr ge B x y z oa' ca' ob cb (xs ++ [(l, g)]) ys (v.setCell ⟨ge, 1, none⟩ (.slice oa' (xs.length + 1) ca')) ∧ C3 v ge (.bool true) (.slice oa xs.length ca) (.slice ob ys.length cb) := by
  obtain ⟨n1, n2, n3, n4, n5, n6, n7⟩ := n
  obtain ⟨h1, h2, h3, h4, h5, h6, h7⟩ := h
  have hj : ∀ j, (Value.slice oa xs.length ca).ownBlock = some j → B ≤ j := fun j e => (h5.lt j e).1
  have el : (xs ++ [(l, g)]).length = xs.length + 1 := by simp
  have k4 := h4.grown hg (fun e => by have := hj _ e.symm; omega)
  refine ⟨⟨(h1.grown hg (fun j e => by have := hj j e; omega) n1 n7).set (by omega) n1 n7 _, (h2.grown hg (fun e => by have := hj _ e.symm; omega)).other (by omega), (h3.grown hg (fun e => by have := hj _ e.symm; omega)).other (by omega), by rw [el]; exact k4.set1 _, ?_⟩, k4⟩
  refine RowsE.set ⟨by rw [el, cellsV_snoc]; exact hown, own_grown h6 hg (fun q e1 e2 => ?_), fun p q hp hq e => ?_⟩ (by omega)
  · cases oa with
    | none => simp [Value.ownBlock] at e2
    | some p =>
      cases ob with
      | none => simp [Value.ownBlock] at e1
      | some r =>
        have e3 : r.block = q := by simpa [Value.ownBlock] using e1
        have e4 : q = p.block := by simpa [Value.ownBlock] using e2
        exact h7 p r rfl rfl (by omega)
  · subst hp
    subst hq
    have b1 := (h6.lt q.block (by simp [Value.ownBlock])).2
    rcases hloc with e1 | e1
    · cases oa with
      | none => simp [Value.ownBlock] at e1
      | some r => exact h7 r q rfl rfl (by have : p.block = r.block := by simpa [Value.ownBlock] using e1
                                           omega)
    · have : p.block = u.heap.size := by simpa [Value.ownBlock] using e1
      omega
/-- What is appended to the second row. -/
theorem EnP.app2 (h : EnP w0 b a len cap gd gr ge B x y z oa ca ob cb xs ys u) (n : EnN w0 b a len gd gr ge B) {ob' : Option Addr} {cb' : Nat} {l g : Int} (hB : B ≤ u.heap.size)
    (hown : v.ownsRow B 81 2 (.slice ob' (ys.length + 1) cb') (ys.length + 1) (cellsV ys ++ [.int .i64 l, .int .i64 g])) (hg : u.grownBy v (Value.slice ob ys.length cb).ownBlock) (hloc : (Value.slice ob' (ys.length + 1) cb').ownBlock = (Value.slice ob ys.length cb).ownBlock ∨ (Value.slice ob' (ys.length + 1) cb').ownBlock = some u.heap.size) :
    EnP w0 b a len cap gd gr ge B x y z oa ca ob' cb' xs (ys ++ [(l, g)]) (v.setCell ⟨ge, 2, none⟩ (.slice ob' (ys.length + 1) cb')) ∧ C3 v ge (.bool true) (.slice oa xs.length ca) (.slice ob ys.length cb) := by
  obtain ⟨n1, n2, n3, n4, n5, n6, n7⟩ := n
  obtain ⟨h1, h2, h3, h4, h5, h6, h7⟩ := h
  have hj : ∀ j, (Value.slice ob ys.length cb).ownBlock = some j → B ≤ j := fun j e => (h6.lt j e).1
  have el : (ys ++ [(l, g)]).length = ys.length + 1 := by simp
  have k4 := h4.grown hg (fun e => by have := hj _ e.symm; omega)
  refine ⟨⟨(h1.grown hg (fun j e => by have := hj j e; omega) n1 n7).set (by omega) n1 n7 _, (h2.grown hg (fun e => by have := hj _ e.symm; omega)).other (by omega), (h3.grown hg (fun e => by have := hj _ e.symm; omega)).other (by omega), by rw [el]; exact k4.set2 _, ?_⟩, k4⟩
  refine RowsE.set ⟨own_grown h5 hg (fun q e1 e2 => ?_), by rw [el, cellsV_snoc]; exact hown, fun p q hp hq e => ?_⟩ (by omega)
  · cases ob with
    | none => simp [Value.ownBlock] at e2
    | some p =>
      cases oa with
      | none => simp [Value.ownBlock] at e1
      | some r =>
        have e3 : r.block = q := by simpa [Value.ownBlock] using e1
        have e4 : q = p.block := by simpa [Value.ownBlock] using e2
        exact h7 r p rfl rfl (by omega)
  · subst hp
    subst hq
    have b1 := (h5.lt p.block (by simp [Value.ownBlock])).2
    rcases hloc with e1 | e1
    · cases ob with
      | none => simp [Value.ownBlock] at e1
      | some r => exact h7 p r rfl rfl (by have : q.block = r.block := by simpa [Value.ownBlock] using e1
                                           omega)
    · have : q.block = u.heap.size := by simpa [Value.ownBlock] using e1
      omega
end
end Go.Proofs.YtpdnnpnclgcpoaaDoor

/- Bounds that are drawn, from a code. -/
namespace Go.Proofs.YtpdnnpnclgcpoaaDoor
open Go.RowKit Go.Iv
set_option linter.unusedSimpArgs false
set_option linter.unusedVariables false

/-- Bounds of the call's own. -/
def EnR (w : World) (b : Nat) (a : Option Addr) (len cap n1 n3 : Nat) (e : Ending) (w' : World) : Prop := ∃ (li : Bool) (oa : Option Addr) (ca : Nat) (ob : Option Addr) (cb : Nat) (xs ys : List (Int × Int)), e = .returned (.agg #[.bool li, .slice oa xs.length ca, .slice ob ys.length cb]) ∧ RowsE w' w.heap.size oa ca ob cb xs ys ∧ (xs.length ≤ 1000 ∧ InL xs) ∧ (ys.length ≤ 1000 ∧ InL ys) ∧ (li = true → xs.length = n1 ∧ ys.length = n3) ∧ Left b a len cap w w'
theorem one2' (x y : Int) : (∀ u ∈ [Value.int .i64 x, .int .i64 y], u.oneCell' = true) := by
 intro u hu
 simp at hu
 rcases hu with rfl | rfl <;> rfl
set_option maxRecDepth 20000 in
set_option maxHeartbeats 16000000 in
theorem env_c (b : Nat) (a : Option Addr) (len cap : Nat) (a1 a2 a3 : Option Addr) (n1 n2 n3 c1 c2 c3 : Nat) (h1 : n1 ≤ 999) (h3 : n3 ≤ 999) (w : World) (h : Rdr w b a len cap) : Calls Tryd.prog 61 #[.pointer (some ⟨b, 0, none⟩), .agg #[.slice a1 n1 c1, .slice a2 n2 c2, .slice a3 n3 c3]] w (EnR w b a len cap n1 n3) := by
 have R := hide h
 have hb := h.lt
 have HC := hide h.2.1.lt
 obtain ⟨inf, hi, hz0, hz1, hz2⟩ := info_parts ivInfo
 have h1' : (n1 : Int) ≤ 999 := by omega
 have h3' : (n3 : Int) ≤ 999 := by omega
 clear h
 go_enter Tryd.func61, Tryd.ntmps61
 go_wp2_with fail
 have hl0 := ((Left.refl (unhide R)).alloc (Obj.cells #[.slice a1 n1 c1, .slice a2 n2 c2, .slice a3 n3 c3] 27)).alloc (Obj.cells #[.bool false, .slice none 0 0, .slice none 0 0] 43)
 have t0 := (C3.new w (.slice a1 n1 c1) (.slice a2 n2 c2) (.slice a3 n3 c3) 27).alloc (Obj.cells #[.bool false, .slice none 0 0, .slice none 0 0] 43)
 have t1 := C3.new (w.alloc (Obj.cells #[.slice a1 n1 c1, .slice a2 n2 c2, .slice a3 n3 c3] 27)) (.bool false) (.slice none 0 0) (.slice none 0 0) 43
 rw [show (w.alloc (Obj.cells #[.slice a1 n1 c1, .slice a2 n2 c2, .slice a3 n3 c3] 27)).heap.size = w.heap.size + 1 by simp] at t1
 generalize (w.alloc (Obj.cells #[.slice a1 n1 c1, .slice a2 n2 c2, .slice a3 n3 c3] 27)).alloc (Obj.cells #[.bool false, .slice none 0 0, .slice none 0 0] 43) = u at hl0 t0 t1 ⊢
 have HL0 := hide hl0
 have HT0 := hide t0
 have HT1 := hide t1
 clear hl0 t0 t1 R
 refine (once_c _ _ _ _ _ (by decide) (by decide) _ (unhide HL0).1).mono ?_
 rintro e u1 ⟨q, rfl, hl⟩
 have HT0 := hide ((unhide HT0).kp hl.2 (by omega))
 have HT1 := hide ((unhide HT1).kp hl.2 (by omega))
 have HL0 := hide ((unhide HL0).trans hl)
 clear hl
 cases q
 ·have h0 := C3.new u1 (.bool true) (.slice none 0 0) (.slice none 0 0) 43
  have hge : w.heap.size + 1 < u1.heap.size := (unhide HT1).lt
  have hp : EnP w b a len cap w.heap.size (w.heap.size + 1) u1.heap.size (u1.heap.size + 1) (.slice a1 n1 c1) (.slice a2 n2 c2) (.slice a3 n3 c3) none 0 none 0 [] [] (u1.alloc (Obj.cells #[.bool true, .slice none 0 0, .slice none 0 0] 43)) :=
   ⟨(unhide HL0).alloc _, (unhide HT0).alloc _, (unhide HT1).alloc _, h0, World.ownsRow_nil _ _ _ _, World.ownsRow_nil _ _ _ _, fun p q hp => by cases hp⟩
  have hn : EnN w b a len w.heap.size (w.heap.size + 1) u1.heap.size (u1.heap.size + 1) := ⟨hb, Nat.le_refl _, by omega, by omega, hge, by omega, unhide HC⟩
  have hbw : u1.heap.size + 1 ≤ (u1.alloc (Obj.cells #[.bool true, .slice none 0 0, .slice none 0 0] 43)).heap.size := by simp
  go_upto_region 4 with fail
  generalize u1.alloc (Obj.cells #[.bool true, .slice none 0 0, .slice none 0 0] 43) = u2 at hp hbw ⊢
  generalize u1.heap.size = ge at hp hn hbw ⊢
  have HP := hide hp
  have HN := hide hn
  have HBW := hide hbw
  clear hp hn hbw h0 hge HT0 HT1 HL0
  have d0 := (unhide HP).2.1.1
  go_wp2
  clear d0
  go_loopw [6] (fun i wr => ∃ (xs : List (Int × Int)) (oa : Option Addr) (ca : Nat), xs.length ≤ n1 ∧ i = .int .i64 xs.length ∧ EnP w b a len cap w.heap.size (w.heap.size + 1) ge (ge + 1) (.slice a1 n1 c1) (.slice a2 n2 c2) (.slice a3 n3 c3) oa ca none 0 xs [] wr ∧ ge + 1 ≤ wr.heap.size ∧ InL xs) (fun i _ => n1 - (intOf i).toNat)
  case atStart => exact ⟨[], none, 0, Nat.zero_le _, rfl, unhide HP, unhide HBW, InL.nil⟩
  case round =>
   clear HP HBW
   obtain ⟨xs, oa, ca, hk, rfl, hp, hbw, hin⟩ := hrel
   have HP := hide hp
   have HBW := hide hbw
   have d0 := hp.2.1.1
   have HIX := hide hin
   clear hp hbw hin
   by_cases hlt : xs.length < n1
   ·go_upto_region 7 with fail
    clear d0
    have HP := hide (EnP.drew (unhide HP))
    obtain ⟨wz, hwz⟩ : ∃ x, x = wr.drew := ⟨_, rfl⟩
    refine wp_region_held_drew (S := fun _ => True) (by kernel_rfl) trivial (fun hHeld => ?_)
    rw [← hwz] at HP ⊢
    have hBz : ge + 1 ≤ wz.heap.size := by rw [hwz]; exact unhide HBW
    clear hwz
    refine tk 0 (v := ?_) rfl ?_ ?_
    rotate_left
    ·(intro w9 hSw; (try dsimp only at hSw); go_simp; try with_reducible rfl)
    try simp only [Act.put, sa, sb, sc]
    refine tk 2 (v := ?_) rfl ?_ ?_
    rotate_left
    ·(intro w9 hSw; (try dsimp only at hSw); go_simp; try with_reducible rfl)
    try simp only [Act.put, sa, sb, sc]
    refine wpAnyH_ready (rs := [1, 3]) (by kernel_rfl) (by simp) ?_
    refine AllReadyH.cons (i := 1) rfl (fun K hK => ?_) (AllReadyH.cons (i := 3) rfl (fun K hK => ?_) AllReadyH.nil)
    ·have q1 := (unhide HP).2.2.2.1.2.1
     go_simp
     refine hK.out _ _ trivial (fun hHeld => ?_)
     clear hK K q1
     try simp only [Act.put, sa, sb, sc]
     refine wpAnyH_ready (rs := [3]) (by kernel_rfl) (by simp) ?_
     refine AllReadyH.cons (i := 3) rfl (fun K hK => ?_) AllReadyH.nil
     go_simp
     refine (small_c _ _ _ _ _ (unhide HP).1.1).mono ?_
     rintro e u9 ⟨l, g, rfl, lin, gin, hl⟩
     have hBu : ge + 1 ≤ u9.heap.size := Nat.le_trans hBz hl.2.size
     have HP := hide ((unhide HP).kp (unhide HN) hl)
     have HLG := hide (And.intro lin gin)
     clear hl lin gin hBz
     refine hK.out _ _ trivial (fun hHeld => ?_)
     clear hK K
     try simp only [Act.put, sa, sb, sc]
     refine wpAnyH_ready (rs := [4]) (by kernel_rfl) (by simp) ?_
     refine AllReadyH.cons (i := 4) rfl (fun K hK => ?_) AllReadyH.nil
     go_simp
     refine hK.out _ _ trivial (fun hHeld => ?_)
     clear hK K
     try simp only [Act.put, sa, sb, sc]
     refine wpAnyH_ready (rs := [5]) (by kernel_rfl) (by simp) ?_
     refine AllReadyH.cons (i := 5) rfl (fun K hK => ?_) AllReadyH.nil
     refine step_app2 _ (by rfl) _ _ _ (by rfl) (ge + 1) 81 inf (.agg #[.int .i64 0, .int .i64 0]) 2 16 Tryd.underlying41 hi hz0 hz1 hz2 rfl (by decide) (.slice oa xs.length ca) xs.length (cellsV xs) (by rfl) (World.ownsRow.alloc ((unhide HP).2.2.2.2.1) _) ⟨_, 0, none⟩ 1 1 [.int .i64 l, .int .i64 g] (by rfl) rfl (World.news_of_block (heap_alloc_new _ _)) (one2' _ _) (by unfold maxLen; omega) (by omega) (by simp; omega) ?_
     intro o' c' w5 hown hgrow hloc
     refine hK.out _ _ trivial (fun hHeld => ?_)
     clear hK K
     obtain ⟨hp2, hc2⟩ := EnP.app1 ((unhide HP).alloc (Obj.cells #[.int .i64 l, .int .i64 g] 81)) (unhide HN) (by simp; omega) hown hgrow hloc
     have HP2 := hide hp2
     have HC2 := hide hc2
     have hB5 : ge + 1 ≤ w5.heap.size := by have := hgrow.size; simp at this; omega
     clear hp2 hc2 hown hgrow hloc HP hBu
     try simp only [Act.put, sa, sb, sc]
     refine tk 6 (v := ?_) rfl ?_ ?_
     rotate_left
     ·(intro w9 hSw; (try dsimp only at hSw); go_simp; try with_reducible rfl)
     try simp only [Act.put, sa, sb, sc]
     refine wpAnyH_ready (rs := [7]) (by kernel_rfl) (by simp) ?_
     refine AllReadyH.cons (i := 7) rfl (fun K hK => ?_) AllReadyH.nil
     have q0 := (unhide HC2).1
     have q1 := (unhide HC2).2.1
     have q2 := (unhide HC2).2.2.1
     have f0 := (unhide HC2).2.2.2 0
     have f1 := (unhide HC2).2.2.2 1
     have f2 := (unhide HC2).2.2.2 2
     go_simp
     refine hK.out _ _ trivial (fun hHeld => ?_)
     clear hK K q0 q1 q2 f0 f1 f2
     try simp only [Act.put, sa, sb, sc]
     refine wpAnyH_done (by kernel_rfl) ?_ _
     have hB6 : ge + 1 ≤ (w5.setCell ⟨ge, 1, none⟩ (.slice o' (xs.length + 1) c')).heap.size := by rw [size_setCell]; exact hB5
     go_wp2
     go_roundw
     case rel => exact ⟨xs ++ [(l, g)], o', c', by simp; omega, by simp only [List.length_append, List.length_cons, List.length_nil]; go_num, unhide HP2, hB6, (unhide HIX).snoc (unhide HLG).1 (unhide HLG).2⟩
     case measure => simp [intOf]; omega
    ·go_simp
     refine (small_c _ _ _ _ _ (unhide HP).1.1).mono ?_
     rintro e u9 ⟨l, g, rfl, lin, gin, hl⟩
     have hBu : ge + 1 ≤ u9.heap.size := Nat.le_trans hBz hl.2.size
     have HP := hide ((unhide HP).kp (unhide HN) hl)
     have HLG := hide (And.intro lin gin)
     clear hl lin gin hBz
     refine hK.out _ _ trivial (fun hHeld => ?_)
     clear hK K
     try simp only [Act.put, sa, sb, sc]
     refine wpAnyH_ready (rs := [1, 4]) (by kernel_rfl) (by simp) ?_
     refine AllReadyH.cons (i := 1) rfl (fun K hK => ?_) (AllReadyH.cons (i := 4) rfl (fun K hK => ?_) AllReadyH.nil)
     ·have q1 := (unhide HP).2.2.2.1.2.1
      go_simp
      refine hK.out _ _ trivial (fun hHeld => ?_)
      clear hK K q1
      try simp only [Act.put, sa, sb, sc]
      refine wpAnyH_ready (rs := [4]) (by kernel_rfl) (by simp) ?_
      refine AllReadyH.cons (i := 4) rfl (fun K hK => ?_) AllReadyH.nil
      go_simp
      refine hK.out _ _ trivial (fun hHeld => ?_)
      clear hK K
      try simp only [Act.put, sa, sb, sc]
      refine wpAnyH_ready (rs := [5]) (by kernel_rfl) (by simp) ?_
      refine AllReadyH.cons (i := 5) rfl (fun K hK => ?_) AllReadyH.nil
      refine step_app2 _ (by rfl) _ _ _ (by rfl) (ge + 1) 81 inf (.agg #[.int .i64 0, .int .i64 0]) 2 16 Tryd.underlying41 hi hz0 hz1 hz2 rfl (by decide) (.slice oa xs.length ca) xs.length (cellsV xs) (by rfl) (World.ownsRow.alloc ((unhide HP).2.2.2.2.1) _) ⟨_, 0, none⟩ 1 1 [.int .i64 l, .int .i64 g] (by rfl) rfl (World.news_of_block (heap_alloc_new _ _)) (one2' _ _) (by unfold maxLen; omega) (by omega) (by simp; omega) ?_
      intro o' c' w5 hown hgrow hloc
      refine hK.out _ _ trivial (fun hHeld => ?_)
      clear hK K
      obtain ⟨hp2, hc2⟩ := EnP.app1 ((unhide HP).alloc (Obj.cells #[.int .i64 l, .int .i64 g] 81)) (unhide HN) (by simp; omega) hown hgrow hloc
      have HP2 := hide hp2
      have HC2 := hide hc2
      have hB5 : ge + 1 ≤ w5.heap.size := by have := hgrow.size; simp at this; omega
      clear hp2 hc2 hown hgrow hloc HP hBu
      try simp only [Act.put, sa, sb, sc]
      refine tk 6 (v := ?_) rfl ?_ ?_
      rotate_left
      ·(intro w9 hSw; (try dsimp only at hSw); go_simp; try with_reducible rfl)
      try simp only [Act.put, sa, sb, sc]
      refine wpAnyH_ready (rs := [7]) (by kernel_rfl) (by simp) ?_
      refine AllReadyH.cons (i := 7) rfl (fun K hK => ?_) AllReadyH.nil
      have q0 := (unhide HC2).1
      have q1 := (unhide HC2).2.1
      have q2 := (unhide HC2).2.2.1
      have f0 := (unhide HC2).2.2.2 0
      have f1 := (unhide HC2).2.2.2 1
      have f2 := (unhide HC2).2.2.2 2
      go_simp
      refine hK.out _ _ trivial (fun hHeld => ?_)
      clear hK K q0 q1 q2 f0 f1 f2
      try simp only [Act.put, sa, sb, sc]
      refine wpAnyH_done (by kernel_rfl) ?_ _
      have hB6 : ge + 1 ≤ (w5.setCell ⟨ge, 1, none⟩ (.slice o' (xs.length + 1) c')).heap.size := by rw [size_setCell]; exact hB5
      go_wp2
      go_roundw
      case rel => exact ⟨xs ++ [(l, g)], o', c', by simp; omega, by simp only [List.length_append, List.length_cons, List.length_nil]; go_num, unhide HP2, hB6, (unhide HIX).snoc (unhide HLG).1 (unhide HLG).2⟩
      case measure => simp [intOf]; omega
     ·go_simp
      refine hK.out _ _ trivial (fun hHeld => ?_)
      clear hK K
      try simp only [Act.put, sa, sb, sc]
      refine wpAnyH_ready (rs := [1]) (by kernel_rfl) (by simp) ?_
      refine AllReadyH.cons (i := 1) rfl (fun K hK => ?_) AllReadyH.nil
      have q1 := (unhide HP).2.2.2.1.2.1
      have q2 := ((unhide HP).alloc (Obj.cells #[.int .i64 l, .int .i64 g] 81)).2.2.2.1.2.1
      go_simp
      refine hK.out _ _ trivial (fun hHeld => ?_)
      clear hK K q1 q2
      try simp only [Act.put, sa, sb, sc]
      refine wpAnyH_ready (rs := [5]) (by kernel_rfl) (by simp) ?_
      refine AllReadyH.cons (i := 5) rfl (fun K hK => ?_) AllReadyH.nil
      refine step_app2 _ (by rfl) _ _ _ (by rfl) (ge + 1) 81 inf (.agg #[.int .i64 0, .int .i64 0]) 2 16 Tryd.underlying41 hi hz0 hz1 hz2 rfl (by decide) (.slice oa xs.length ca) xs.length (cellsV xs) (by rfl) (World.ownsRow.alloc ((unhide HP).2.2.2.2.1) _) ⟨_, 0, none⟩ 1 1 [.int .i64 l, .int .i64 g] (by rfl) rfl (World.news_of_block (heap_alloc_new _ _)) (one2' _ _) (by unfold maxLen; omega) (by omega) (by simp; omega) ?_
      intro o' c' w5 hown hgrow hloc
      refine hK.out _ _ trivial (fun hHeld => ?_)
      clear hK K
      obtain ⟨hp2, hc2⟩ := EnP.app1 ((unhide HP).alloc (Obj.cells #[.int .i64 l, .int .i64 g] 81)) (unhide HN) (by simp; omega) hown hgrow hloc
      have HP2 := hide hp2
      have HC2 := hide hc2
      have hB5 : ge + 1 ≤ w5.heap.size := by have := hgrow.size; simp at this; omega
      clear hp2 hc2 hown hgrow hloc HP hBu
      try simp only [Act.put, sa, sb, sc]
      refine tk 6 (v := ?_) rfl ?_ ?_
      rotate_left
      ·(intro w9 hSw; (try dsimp only at hSw); go_simp; try with_reducible rfl)
      try simp only [Act.put, sa, sb, sc]
      refine wpAnyH_ready (rs := [7]) (by kernel_rfl) (by simp) ?_
      refine AllReadyH.cons (i := 7) rfl (fun K hK => ?_) AllReadyH.nil
      have q0 := (unhide HC2).1
      have q1 := (unhide HC2).2.1
      have q2 := (unhide HC2).2.2.1
      have f0 := (unhide HC2).2.2.2 0
      have f1 := (unhide HC2).2.2.2 1
      have f2 := (unhide HC2).2.2.2 2
      go_simp
      refine hK.out _ _ trivial (fun hHeld => ?_)
      clear hK K q0 q1 q2 f0 f1 f2
      try simp only [Act.put, sa, sb, sc]
      refine wpAnyH_done (by kernel_rfl) ?_ _
      have hB6 : ge + 1 ≤ (w5.setCell ⟨ge, 1, none⟩ (.slice o' (xs.length + 1) c')).heap.size := by rw [size_setCell]; exact hB5
      go_wp2
      go_roundw
      case rel => exact ⟨xs ++ [(l, g)], o', c', by simp; omega, by simp only [List.length_append, List.length_cons, List.length_nil]; go_num, unhide HP2, hB6, (unhide HIX).snoc (unhide HLG).1 (unhide HLG).2⟩
      case measure => simp [intOf]; omega
   ·have hke : xs.length = n1 := by omega
    have hlt' : ¬ (xs.length : Int) < (n1 : Int) := by omega
    have HKE := hide hke
    clear hke hk hlt
    go_upto_region 8 with fail
    clear d0 hlt'
    generalize wr = wo at HP HBW ⊢
    have d2 := (unhide HP).2.1.2.2.1
    go_wp2
    clear d2
    go_loopw [7] (fun i wr => ∃ (ys : List (Int × Int)) (ob : Option Addr) (cb : Nat), ys.length ≤ n3 ∧ i = .int .i64 ys.length ∧ EnP w b a len cap w.heap.size (w.heap.size + 1) ge (ge + 1) (.slice a1 n1 c1) (.slice a2 n2 c2) (.slice a3 n3 c3) oa ca ob cb xs ys wr ∧ ge + 1 ≤ wr.heap.size ∧ InL ys) (fun i _ => n3 - (intOf i).toNat)
    case atStart => exact ⟨[], none, 0, Nat.zero_le _, rfl, unhide HP, unhide HBW, InL.nil⟩
    case round =>
     clear HP HBW
     obtain ⟨ys, ob, cb, hk, rfl, hp, hbw, hin⟩ := hrel
     have HP := hide hp
     have HBW := hide hbw
     have d2 := hp.2.1.2.2.1
     have HIY := hide hin
     clear hp hbw hin
     by_cases hlt : ys.length < n3
     ·go_upto_region 11 with fail
      clear d2
      have HP := hide (EnP.drew (unhide HP))
      obtain ⟨wz, hwz⟩ : ∃ x, x = wr.drew := ⟨_, rfl⟩
      refine wp_region_held_drew (S := fun _ => True) (by kernel_rfl) trivial (fun hHeld => ?_)
      rw [← hwz] at HP ⊢
      have hBz : ge + 1 ≤ wz.heap.size := by rw [hwz]; exact unhide HBW
      clear hwz
      refine tk 0 (v := ?_) rfl ?_ ?_
      rotate_left
      ·(intro w9 hSw; (try dsimp only at hSw); go_simp; try with_reducible rfl)
      try simp only [Act.put, sa, sb, sc]
      refine tk 2 (v := ?_) rfl ?_ ?_
      rotate_left
      ·(intro w9 hSw; (try dsimp only at hSw); go_simp; try with_reducible rfl)
      try simp only [Act.put, sa, sb, sc]
      refine wpAnyH_ready (rs := [1, 3]) (by kernel_rfl) (by simp) ?_
      refine AllReadyH.cons (i := 1) rfl (fun K hK => ?_) (AllReadyH.cons (i := 3) rfl (fun K hK => ?_) AllReadyH.nil)
      ·have q1 := (unhide HP).2.2.2.1.2.2.1
       go_simp
       refine hK.out _ _ trivial (fun hHeld => ?_)
       clear hK K q1
       try simp only [Act.put, sa, sb, sc]
       refine wpAnyH_ready (rs := [3]) (by kernel_rfl) (by simp) ?_
       refine AllReadyH.cons (i := 3) rfl (fun K hK => ?_) AllReadyH.nil
       go_simp
       refine (small_c _ _ _ _ _ (unhide HP).1.1).mono ?_
       rintro e u9 ⟨l, g, rfl, lin, gin, hl⟩
       have hBu : ge + 1 ≤ u9.heap.size := Nat.le_trans hBz hl.2.size
       have HP := hide ((unhide HP).kp (unhide HN) hl)
       have HLG := hide (And.intro lin gin)
       clear hl lin gin hBz
       refine hK.out _ _ trivial (fun hHeld => ?_)
       clear hK K
       try simp only [Act.put, sa, sb, sc]
       refine wpAnyH_ready (rs := [4]) (by kernel_rfl) (by simp) ?_
       refine AllReadyH.cons (i := 4) rfl (fun K hK => ?_) AllReadyH.nil
       go_simp
       refine hK.out _ _ trivial (fun hHeld => ?_)
       clear hK K
       try simp only [Act.put, sa, sb, sc]
       refine wpAnyH_ready (rs := [5]) (by kernel_rfl) (by simp) ?_
       refine AllReadyH.cons (i := 5) rfl (fun K hK => ?_) AllReadyH.nil
       refine step_app2 _ (by rfl) _ _ _ (by rfl) (ge + 1) 81 inf (.agg #[.int .i64 0, .int .i64 0]) 2 16 Tryd.underlying41 hi hz0 hz1 hz2 rfl (by decide) (.slice ob ys.length cb) ys.length (cellsV ys) (by rfl) (World.ownsRow.alloc ((unhide HP).2.2.2.2.2.1) _) ⟨_, 0, none⟩ 1 1 [.int .i64 l, .int .i64 g] (by rfl) rfl (World.news_of_block (heap_alloc_new _ _)) (one2' _ _) (by unfold maxLen; omega) (by omega) (by simp; omega) ?_
       intro o' c' w5 hown hgrow hloc
       refine hK.out _ _ trivial (fun hHeld => ?_)
       clear hK K
       obtain ⟨hp2, hc2⟩ := EnP.app2 ((unhide HP).alloc (Obj.cells #[.int .i64 l, .int .i64 g] 81)) (unhide HN) (by simp; omega) hown hgrow hloc
       have HP2 := hide hp2
       have HC2 := hide hc2
       have hB5 : ge + 1 ≤ w5.heap.size := by have := hgrow.size; simp at this; omega
       clear hp2 hc2 hown hgrow hloc HP hBu
       try simp only [Act.put, sa, sb, sc]
       refine tk 6 (v := ?_) rfl ?_ ?_
       rotate_left
       ·(intro w9 hSw; (try dsimp only at hSw); go_simp; try with_reducible rfl)
       try simp only [Act.put, sa, sb, sc]
       refine wpAnyH_ready (rs := [7]) (by kernel_rfl) (by simp) ?_
       refine AllReadyH.cons (i := 7) rfl (fun K hK => ?_) AllReadyH.nil
       have q0 := (unhide HC2).1
       have q1 := (unhide HC2).2.1
       have q2 := (unhide HC2).2.2.1
       have f0 := (unhide HC2).2.2.2 0
       have f1 := (unhide HC2).2.2.2 1
       have f2 := (unhide HC2).2.2.2 2
       go_simp
       refine hK.out _ _ trivial (fun hHeld => ?_)
       clear hK K q0 q1 q2 f0 f1 f2
       try simp only [Act.put, sa, sb, sc]
       refine wpAnyH_done (by kernel_rfl) ?_ _
       have hB6 : ge + 1 ≤ (w5.setCell ⟨ge, 2, none⟩ (.slice o' (ys.length + 1) c')).heap.size := by rw [size_setCell]; exact hB5
       go_wp2
       go_roundw
       case rel => exact ⟨ys ++ [(l, g)], o', c', by simp; omega, by simp only [List.length_append, List.length_cons, List.length_nil]; go_num, unhide HP2, hB6, (unhide HIY).snoc (unhide HLG).1 (unhide HLG).2⟩
       case measure => simp [intOf]; omega
      ·go_simp
       refine (small_c _ _ _ _ _ (unhide HP).1.1).mono ?_
       rintro e u9 ⟨l, g, rfl, lin, gin, hl⟩
       have hBu : ge + 1 ≤ u9.heap.size := Nat.le_trans hBz hl.2.size
       have HP := hide ((unhide HP).kp (unhide HN) hl)
       have HLG := hide (And.intro lin gin)
       clear hl lin gin hBz
       refine hK.out _ _ trivial (fun hHeld => ?_)
       clear hK K
       try simp only [Act.put, sa, sb, sc]
       refine wpAnyH_ready (rs := [1, 4]) (by kernel_rfl) (by simp) ?_
       refine AllReadyH.cons (i := 1) rfl (fun K hK => ?_) (AllReadyH.cons (i := 4) rfl (fun K hK => ?_) AllReadyH.nil)
       ·have q1 := (unhide HP).2.2.2.1.2.2.1
        go_simp
        refine hK.out _ _ trivial (fun hHeld => ?_)
        clear hK K q1
        try simp only [Act.put, sa, sb, sc]
        refine wpAnyH_ready (rs := [4]) (by kernel_rfl) (by simp) ?_
        refine AllReadyH.cons (i := 4) rfl (fun K hK => ?_) AllReadyH.nil
        go_simp
        refine hK.out _ _ trivial (fun hHeld => ?_)
        clear hK K
        try simp only [Act.put, sa, sb, sc]
        refine wpAnyH_ready (rs := [5]) (by kernel_rfl) (by simp) ?_
        refine AllReadyH.cons (i := 5) rfl (fun K hK => ?_) AllReadyH.nil
        refine step_app2 _ (by rfl) _ _ _ (by rfl) (ge + 1) 81 inf (.agg #[.int .i64 0, .int .i64 0]) 2 16 Tryd.underlying41 hi hz0 hz1 hz2 rfl (by decide) (.slice ob ys.length cb) ys.length (cellsV ys) (by rfl) (World.ownsRow.alloc ((unhide HP).2.2.2.2.2.1) _) ⟨_, 0, none⟩ 1 1 [.int .i64 l, .int .i64 g] (by rfl) rfl (World.news_of_block (heap_alloc_new _ _)) (one2' _ _) (by unfold maxLen; omega) (by omega) (by simp; omega) ?_
        intro o' c' w5 hown hgrow hloc
        refine hK.out _ _ trivial (fun hHeld => ?_)
        clear hK K
        obtain ⟨hp2, hc2⟩ := EnP.app2 ((unhide HP).alloc (Obj.cells #[.int .i64 l, .int .i64 g] 81)) (unhide HN) (by simp; omega) hown hgrow hloc
        have HP2 := hide hp2
        have HC2 := hide hc2
        have hB5 : ge + 1 ≤ w5.heap.size := by have := hgrow.size; simp at this; omega
        clear hp2 hc2 hown hgrow hloc HP hBu
        try simp only [Act.put, sa, sb, sc]
        refine tk 6 (v := ?_) rfl ?_ ?_
        rotate_left
        ·(intro w9 hSw; (try dsimp only at hSw); go_simp; try with_reducible rfl)
        try simp only [Act.put, sa, sb, sc]
        refine wpAnyH_ready (rs := [7]) (by kernel_rfl) (by simp) ?_
        refine AllReadyH.cons (i := 7) rfl (fun K hK => ?_) AllReadyH.nil
        have q0 := (unhide HC2).1
        have q1 := (unhide HC2).2.1
        have q2 := (unhide HC2).2.2.1
        have f0 := (unhide HC2).2.2.2 0
        have f1 := (unhide HC2).2.2.2 1
        have f2 := (unhide HC2).2.2.2 2
        go_simp
        refine hK.out _ _ trivial (fun hHeld => ?_)
        clear hK K q0 q1 q2 f0 f1 f2
        try simp only [Act.put, sa, sb, sc]
        refine wpAnyH_done (by kernel_rfl) ?_ _
        have hB6 : ge + 1 ≤ (w5.setCell ⟨ge, 2, none⟩ (.slice o' (ys.length + 1) c')).heap.size := by rw [size_setCell]; exact hB5
        go_wp2
        go_roundw
        case rel => exact ⟨ys ++ [(l, g)], o', c', by simp; omega, by simp only [List.length_append, List.length_cons, List.length_nil]; go_num, unhide HP2, hB6, (unhide HIY).snoc (unhide HLG).1 (unhide HLG).2⟩
        case measure => simp [intOf]; omega
       ·go_simp
        refine hK.out _ _ trivial (fun hHeld => ?_)
        clear hK K
        try simp only [Act.put, sa, sb, sc]
        refine wpAnyH_ready (rs := [1]) (by kernel_rfl) (by simp) ?_
        refine AllReadyH.cons (i := 1) rfl (fun K hK => ?_) AllReadyH.nil
        have q1 := (unhide HP).2.2.2.1.2.2.1
        have q2 := ((unhide HP).alloc (Obj.cells #[.int .i64 l, .int .i64 g] 81)).2.2.2.1.2.2.1
        go_simp
        refine hK.out _ _ trivial (fun hHeld => ?_)
        clear hK K q1 q2
        try simp only [Act.put, sa, sb, sc]
        refine wpAnyH_ready (rs := [5]) (by kernel_rfl) (by simp) ?_
        refine AllReadyH.cons (i := 5) rfl (fun K hK => ?_) AllReadyH.nil
        refine step_app2 _ (by rfl) _ _ _ (by rfl) (ge + 1) 81 inf (.agg #[.int .i64 0, .int .i64 0]) 2 16 Tryd.underlying41 hi hz0 hz1 hz2 rfl (by decide) (.slice ob ys.length cb) ys.length (cellsV ys) (by rfl) (World.ownsRow.alloc ((unhide HP).2.2.2.2.2.1) _) ⟨_, 0, none⟩ 1 1 [.int .i64 l, .int .i64 g] (by rfl) rfl (World.news_of_block (heap_alloc_new _ _)) (one2' _ _) (by unfold maxLen; omega) (by omega) (by simp; omega) ?_
        intro o' c' w5 hown hgrow hloc
        refine hK.out _ _ trivial (fun hHeld => ?_)
        clear hK K
        obtain ⟨hp2, hc2⟩ := EnP.app2 ((unhide HP).alloc (Obj.cells #[.int .i64 l, .int .i64 g] 81)) (unhide HN) (by simp; omega) hown hgrow hloc
        have HP2 := hide hp2
        have HC2 := hide hc2
        have hB5 : ge + 1 ≤ w5.heap.size := by have := hgrow.size; simp at this; omega
        clear hp2 hc2 hown hgrow hloc HP hBu
        try simp only [Act.put, sa, sb, sc]
        refine tk 6 (v := ?_) rfl ?_ ?_
        rotate_left
        ·(intro w9 hSw; (try dsimp only at hSw); go_simp; try with_reducible rfl)
        try simp only [Act.put, sa, sb, sc]
        refine wpAnyH_ready (rs := [7]) (by kernel_rfl) (by simp) ?_
        refine AllReadyH.cons (i := 7) rfl (fun K hK => ?_) AllReadyH.nil
        have q0 := (unhide HC2).1
        have q1 := (unhide HC2).2.1
        have q2 := (unhide HC2).2.2.1
        have f0 := (unhide HC2).2.2.2 0
        have f1 := (unhide HC2).2.2.2 1
        have f2 := (unhide HC2).2.2.2 2
        go_simp
        refine hK.out _ _ trivial (fun hHeld => ?_)
        clear hK K q0 q1 q2 f0 f1 f2
        try simp only [Act.put, sa, sb, sc]
        refine wpAnyH_done (by kernel_rfl) ?_ _
        have hB6 : ge + 1 ≤ (w5.setCell ⟨ge, 2, none⟩ (.slice o' (ys.length + 1) c')).heap.size := by rw [size_setCell]; exact hB5
        go_wp2
        go_roundw
        case rel => exact ⟨ys ++ [(l, g)], o', c', by simp; omega, by simp only [List.length_append, List.length_cons, List.length_nil]; go_num, unhide HP2, hB6, (unhide HIY).snoc (unhide HLG).1 (unhide HLG).2⟩
        case measure => simp [intOf]; omega
     ·have hlt' : ¬ (ys.length : Int) < (n3 : Int) := by omega
      have r0 := (unhide HP).2.2.1.1
      have r1 := (unhide HP).2.2.1.2.1
      have r2 := (unhide HP).2.2.1.2.2.1
      have f0 := (unhide HP).2.2.1.2.2.2 0
      have f1 := (unhide HP).2.2.1.2.2.2 1
      have f2 := (unhide HP).2.2.1.2.2.2 2
      have e0 := (unhide HP).2.2.2.1.1
      have e1 := (unhide HP).2.2.2.1.2.1
      have e2 := (unhide HP).2.2.2.1.2.2.1
      have hge := (unhide HN).2.2.2.2.1
      go_wp2
      refine bodyPost_ret (v := .agg #[.bool true, .slice oa xs.length ca, .slice ob ys.length cb]) (by simp [results, Tryd.results61, go_sem, r0, r1, r2]) rfl ⟨true, oa, ca, ob, cb, xs, ys, rfl, ?_, ⟨by have := unhide HKE; omega, unhide HIX⟩, ⟨by omega, unhide HIY⟩, (fun _ => ⟨unhide HKE, by omega⟩), ((((unhide HP).1.set (by omega) hb (unhide HC) _).set (by omega) hb (unhide HC) _).set (by omega) hb (unhide HC) _)⟩
      exact RowsE.down ((((unhide HP).2.2.2.2.set (by omega)).set (by omega)).set (by omega)) (B' := w.heap.size) (by omega)
 ·have r0 := (unhide HT1).1
  have r1 := (unhide HT1).2.1
  have r2 := (unhide HT1).2.2.1
  have f0 := (unhide HT1).2.2.2 0
  have f1 := (unhide HT1).2.2.2 1
  have f2 := (unhide HT1).2.2.2 2
  go_wp2
  exact bodyPost_ret (v := .agg #[.bool false, .slice none 0 0, .slice none 0 0]) (by simp [results, Tryd.results61, go_sem, r0, r1, r2]) rfl ⟨false, none, 0, none, 0, [], [], rfl, ⟨World.ownsRow_nil _ _ _ _, World.ownsRow_nil _ _ _ _, fun p q hp => by cases hp⟩, ⟨by simp, InL.nil⟩, ⟨by simp, InL.nil⟩, (fun e => by cases e), ((((unhide HL0).set (by omega) hb (unhide HC) _).set (by omega) hb (unhide HC) _).set (by omega) hb (unhide HC) _)⟩
end Go.Proofs.YtpdnnpnclgcpoaaDoor

