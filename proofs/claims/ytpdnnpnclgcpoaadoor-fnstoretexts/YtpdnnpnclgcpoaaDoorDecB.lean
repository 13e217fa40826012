/- What is drawn of declarations, from a code. -/
import Derived.Test.YtpdnnpnclgcpoaaDoorNaZ
import Derived.Test.YtpdnnpnclgcpoaaDoorDecA
namespace Go.Proofs.YtpdnnpnclgcpoaaDoor
open Go.RowKit Go.Iv
set_option linter.unusedSimpArgs false
set_option linter.unusedVariables false

set_option maxRecDepth 20000 in
set_option maxHeartbeats 32000000 in
theorem decl_c (b : Nat) (a : Option Addr) (len cap : Nat) (w : World) (h : Rdr w b a len cap) : Calls Tryd.prog 33 #[.pointer (some ⟨b, 0, none⟩)] w fun e w' => ∃ (a1 a2 a3 : Option Addr) (c1 c2 c3 : Nat) (vs fs : List ByteArray) (rs : List (ByteArray × Int)),
  e = .returned (.agg #[.slice a1 vs.length c1, .slice a2 fs.length c2, .slice a3 rs.length c3]) ∧ Strs w' a1 vs ∧ Strs w' a2 fs ∧ Arrs w' a3 rs ∧ (∀ x ∈ namesOf vs fs rs, x.size ≤ 1048576) ∧ vs.length ≤ 5 ∧ fs.length ≤ 3 ∧ rs.length ≤ 1 ∧ (∀ x, a1 = some x ∨ a2 = some x ∨ a3 = some x → w.heap.size ≤ x.block) ∧ Left b a len cap w w' := by
 have R := hide h
 have hb := h.lt
 have HC := hide h.2.1.lt
 clear h
 go_enter Tryd.func33, Tryd.ntmps33
 go_wp2_with fail
 have hl0 := (Left.refl (unhide R)).alloc (Obj.cells #[.slice none 0 0, .slice none 0 0, .slice none 0 0] 27)
 have HT := hide (C3.new w (.slice none 0 0) (.slice none 0 0) (.slice none 0 0) 27)
 generalize w.alloc (Obj.cells #[.slice none 0 0, .slice none 0 0, .slice none 0 0] 27) = u at hl0 HT ⊢
 have hsu : w.heap.size < u.heap.size := (unhide HT).lt
 have hp : DcB u b a len cap u.heap.size none none none u := ⟨Left.refl hl0.1, Nat.le_refl _, fun g e => by (cases e), fun g e => by (cases e), fun g e => by (cases e), fun g q e => by (cases e), fun g q e => by (cases e)⟩
 have HP := hide hp
 have hbB : b < u.heap.size := by omega
 have HC0 := HC
 have HC := hide (show ∀ x, a = some x → 0 < len → x.block < u.heap.size from fun x e1 e2 => by have := (unhide HC) x e1 e2; omega)
 have HL0 := hide hl0
 clear hl0 R hp
 go_upto_region 1 with fail
 go_cut [3] (fun p wc => DcR u b a len cap u.heap.size p wc)
 case first =>
  have HP0 := HP
  refine wp_region_held_drew (S := fun _ => True) (by kernel_rfl) trivial (fun hHeld => ?_)
  obtain ⟨wz0, hw0⟩ : ∃ x, x = u.drew := ⟨_, rfl⟩
  have HP := hide (show DcB u b a len cap u.heap.size none none none wz0 by rw [hw0]; exact (unhide HP0).drew)
  rw [← hw0]
  clear hw0 HP0
  refine tk 1 (oi := ⟨some 5, Op.move (Operand.tmp 0), 61, _, _, none⟩) (v := ?_) rfl ?_ ?_
  rotate_left
  ·(intro w9 hSw; go_simp; try with_reducible rfl)
  try simp only [Act.put, sa, sb, sc]
  refine tk 6 (oi := ⟨some 10, Op.move (Operand.tmp 0), 61, _, _, none⟩) (v := ?_) rfl ?_ ?_
  rotate_left
  ·(intro w9 hSw; go_simp; try with_reducible rfl)
  try simp only [Act.put, sa, sb, sc]
  refine wpAnyH_ready (rs := [0, 2, 5, 11]) (by kernel_rfl) (by simp) ?_
  refine AllReadyH.cons (i := 0) (o := ⟨some 4, Op.buildSlice 24 5 #[(0, Operand.const (Value.string { data := #[120] })), (1, Operand.const (Value.string { data := #[121] })), (2, Operand.const (Value.string { data := #[105] })), (3, Operand.const (Value.string { data := #[110] })), (4, Operand.const (Value.string { data := #[107] }))], 24, _, _, none⟩) rfl (fun K hK => ?_) (AllReadyH.cons (i := 2) (o := ⟨some 6, Op.call { callee := Callee.value (Operand.func 78), args := #[Operand.tmp 5, Operand.const (Value.int IntKind.i64 4)], argTypes := #[61, 3] }, 3, _, _, none⟩) rfl (fun K hK => ?_) (AllReadyH.cons (i := 5) (o := ⟨some 9, Op.buildSlice 24 3 #[(0, Operand.const (Value.string { data := #[98] })), (1, Operand.const (Value.string { data := #[99] })), (2, Operand.const (Value.string { data := #[102] }))], 24, _, _, none⟩) rfl (fun K hK => ?_) (AllReadyH.cons (i := 11) (o := ⟨some 3, Op.alloc 27, 0, _, _, none⟩) rfl (fun K hK => ?_) AllReadyH.nil)))
  ·go_simp
   have HP := hide (unhide HP).litV
   refine hK.out _ _ trivial (fun hHeld => ?_)
   clear hK K
   generalize wz0.alloc (Obj.cells #[.string ⟨#[120]⟩, .string ⟨#[121]⟩, .string ⟨#[105]⟩, .string ⟨#[110]⟩, .string ⟨#[107]⟩] 9) = wz1 at HP ⊢
   try simp only [Act.put, sa, sb, sc]
   refine wpAnyH_ready (rs := [2, 5, 11]) (by kernel_rfl) (by simp) ?_
   refine AllReadyH.cons (i := 2) (o := ⟨some 6, Op.call { callee := Callee.value (Operand.func 78), args := #[Operand.tmp 5, Operand.const (Value.int IntKind.i64 4)], argTypes := #[61, 3] }, 3, _, _, none⟩) rfl (fun K hK => ?_) (AllReadyH.cons (i := 5) (o := ⟨some 9, Op.buildSlice 24 3 #[(0, Operand.const (Value.string { data := #[98] })), (1, Operand.const (Value.string { data := #[99] })), (2, Operand.const (Value.string { data := #[102] }))], 24, _, _, none⟩) rfl (fun K hK => ?_) (AllReadyH.cons (i := 11) (o := ⟨some 3, Op.alloc 27, 0, _, _, none⟩) rfl (fun K hK => ?_) AllReadyH.nil))
   ·go_simp
    refine (below_c _ _ _ _ _ (by decide) _ (unhide HP).1.1).mono ?_
    rintro e wz2 ⟨y, rfl, y0, y1, y2, hl⟩
    obtain ⟨k, rfl⟩ : ∃ k : Nat, y = k := ⟨y.toNat, by omega⟩
    obtain ⟨k0, k5, kw⟩ := lim_5 k (by omega)
    have HP := hide ((unhide HP).kp hbB hl)
    clear hl y0 y1 y2
    refine hK.out _ _ trivial (fun hHeld => ?_)
    clear hK K
    try simp only [Act.put, sa, sb, sc]
    refine tk 3 (oi := ⟨some 7, Op.binOp BinOp.add 3 (Operand.const (Value.int IntKind.i64 1)) (Operand.tmp 6) 3, 3, _, _, none⟩) (v := ?_) rfl ?_ ?_
    rotate_left
    ·(intro w9 hSw; go_simp; try with_reducible rfl)
    try simp only [Act.put, sa, sb, sc]
    refine tk 4 (oi := ⟨some 8, Op.slice 24 (Operand.tmp 4) none (some (Operand.tmp 7)) none, 24, _, _, none⟩) (v := ?_) rfl ?_ ?_
    rotate_left
    ·(intro w9 hSw; go_simp; try with_reducible rfl)
    try simp only [Act.put, sa, sb, sc]
    refine wpAnyH_ready (rs := [5, 7, 11]) (by kernel_rfl) (by simp) ?_
    refine AllReadyH.cons (i := 5) (o := ⟨some 9, Op.buildSlice 24 3 #[(0, Operand.const (Value.string { data := #[98] })), (1, Operand.const (Value.string { data := #[99] })), (2, Operand.const (Value.string { data := #[102] }))], 24, _, _, none⟩) rfl (fun K hK => ?_) (AllReadyH.cons (i := 7) (o := ⟨some 11, Op.call { callee := Callee.value (Operand.func 78), args := #[Operand.tmp 10, Operand.const (Value.int IntKind.i64 2)], argTypes := #[61, 3] }, 3, _, _, none⟩) rfl (fun K hK => ?_) (AllReadyH.cons (i := 11) (o := ⟨some 3, Op.alloc 27, 0, _, _, none⟩) rfl (fun K hK => ?_) AllReadyH.nil))
    ·go_simp
     have HP := hide (unhide HP).litF
     refine hK.out _ _ trivial (fun hHeld => ?_)
     clear hK K
     generalize wz2.alloc (Obj.cells #[.string ⟨#[98]⟩, .string ⟨#[99]⟩, .string ⟨#[102]⟩] 9) = wz3 at HP ⊢
     try simp only [Act.put, sa, sb, sc]
     refine wpAnyH_ready (rs := [7, 11]) (by kernel_rfl) (by simp) ?_
     refine AllReadyH.cons (i := 7) (o := ⟨some 11, Op.call { callee := Callee.value (Operand.func 78), args := #[Operand.tmp 10, Operand.const (Value.int IntKind.i64 2)], argTypes := #[61, 3] }, 3, _, _, none⟩) rfl (fun K hK => ?_) (AllReadyH.cons (i := 11) (o := ⟨some 3, Op.alloc 27, 0, _, _, none⟩) rfl (fun K hK => ?_) AllReadyH.nil)
     ·go_simp
      refine (below_c _ _ _ _ _ (by decide) _ (unhide HP).1.1).mono ?_
      rintro e wz4 ⟨y, rfl, y0, y1, y2, hl⟩
      obtain ⟨j, rfl⟩ : ∃ k : Nat, y = k := ⟨y.toNat, by omega⟩
      obtain ⟨j0, j5, jw⟩ := lim_3 j (by omega)
      have HP := hide ((unhide HP).kp hbB hl)
      clear hl y0 y1 y2
      refine hK.out _ _ trivial (fun hHeld => ?_)
      clear hK K
      try simp only [Act.put, sa, sb, sc]
      refine tk 8 (oi := ⟨some 12, Op.binOp BinOp.add 3 (Operand.const (Value.int IntKind.i64 1)) (Operand.tmp 11) 3, 3, _, _, none⟩) (v := ?_) rfl ?_ ?_
      rotate_left
      ·(intro w9 hSw; go_simp; try with_reducible rfl)
      try simp only [Act.put, sa, sb, sc]
      refine tk 9 (oi := ⟨some 13, Op.slice 24 (Operand.tmp 9) none (some (Operand.tmp 12)) none, 24, _, _, none⟩) (v := ?_) rfl ?_ ?_
      rotate_left
      ·(intro w9 hSw; go_simp; try with_reducible rfl)
      try simp only [Act.put, sa, sb, sc]
      refine tk 10 (oi := ⟨some 14, Op.build 27 #[(0, Operand.tmp 8), (1, Operand.tmp 13)], 27, _, _, none⟩) (v := ?_) rfl ?_ ?_
      rotate_left
      ·(intro w9 hSw; go_simp; try with_reducible rfl)
      try simp only [Act.put, sa, sb, sc]
      refine wpAnyH_ready (rs := [11]) (by kernel_rfl) (by simp) ?_
      refine AllReadyH.cons (i := 11) (o := ⟨some 3, Op.alloc 27, 0, _, _, none⟩) rfl (fun K hK => ?_) AllReadyH.nil
      go_simp
      have HP := hide (unhide HP).box
      refine hK.out _ _ trivial (fun hHeld => ?_)
      clear hK K
      generalize wz4.alloc (Obj.cells #[.slice none 0 0, .slice none 0 0, .slice none 0 0] 27) = wz5 at HP ⊢
      try simp only [Act.put, sa, sb, sc]
      refine wpAnyH_ready (rs := [12]) (by kernel_rfl) (by simp) ?_
      refine AllReadyH.cons (i := 12) (o := ⟨none, Op.store 27 (Operand.tmp 3) (Operand.tmp 14), 0, _, _, none⟩) rfl (fun K hK => ?_) AllReadyH.nil
      have hc := (unhide HP).c3
      obtain ⟨q0, q1, q2, f⟩ := hc
      have f0 := f 0
      have f1 := f 1
      have f2 := f 2
      clear f
      go_simp
      refine hK.out _ _ trivial (fun hHeld => ?_)
      clear hK K q0 q1 q2 f0 f1 f2
      try simp only [Act.put, sa, sb, sc]
      refine wpAnyH_done (by kernel_rfl) ?_ _
      go_wp2
      go_meet
      exact (unhide HP).fin _ _ (by omega) (by omega) hbB (Nat.le_refl _) (unhide HC)
     ·go_simp
      have HP := hide (unhide HP).box
      refine hK.out _ _ trivial (fun hHeld => ?_)
      clear hK K
      generalize wz3.alloc (Obj.cells #[.slice none 0 0, .slice none 0 0, .slice none 0 0] 27) = wz4 at HP ⊢
      try simp only [Act.put, sa, sb, sc]
      refine wpAnyH_ready (rs := [7]) (by kernel_rfl) (by simp) ?_
      refine AllReadyH.cons (i := 7) (o := ⟨some 11, Op.call { callee := Callee.value (Operand.func 78), args := #[Operand.tmp 10, Operand.const (Value.int IntKind.i64 2)], argTypes := #[61, 3] }, 3, _, _, none⟩) rfl (fun K hK => ?_) AllReadyH.nil
      go_simp
      refine (below_c _ _ _ _ _ (by decide) _ (unhide HP).1.1).mono ?_
      rintro e wz5 ⟨y, rfl, y0, y1, y2, hl⟩
      obtain ⟨j, rfl⟩ : ∃ k : Nat, y = k := ⟨y.toNat, by omega⟩
      obtain ⟨j0, j5, jw⟩ := lim_3 j (by omega)
      have HP := hide ((unhide HP).kp hbB hl)
      clear hl y0 y1 y2
      refine hK.out _ _ trivial (fun hHeld => ?_)
      clear hK K
      try simp only [Act.put, sa, sb, sc]
      refine tk 8 (oi := ⟨some 12, Op.binOp BinOp.add 3 (Operand.const (Value.int IntKind.i64 1)) (Operand.tmp 11) 3, 3, _, _, none⟩) (v := ?_) rfl ?_ ?_
      rotate_left
      ·(intro w9 hSw; go_simp; try with_reducible rfl)
      try simp only [Act.put, sa, sb, sc]
      refine tk 9 (oi := ⟨some 13, Op.slice 24 (Operand.tmp 9) none (some (Operand.tmp 12)) none, 24, _, _, none⟩) (v := ?_) rfl ?_ ?_
      rotate_left
      ·(intro w9 hSw; go_simp; try with_reducible rfl)
      try simp only [Act.put, sa, sb, sc]
      refine tk 10 (oi := ⟨some 14, Op.build 27 #[(0, Operand.tmp 8), (1, Operand.tmp 13)], 27, _, _, none⟩) (v := ?_) rfl ?_ ?_
      rotate_left
      ·(intro w9 hSw; go_simp; try with_reducible rfl)
      try simp only [Act.put, sa, sb, sc]
      refine wpAnyH_ready (rs := [12]) (by kernel_rfl) (by simp) ?_
      refine AllReadyH.cons (i := 12) (o := ⟨none, Op.store 27 (Operand.tmp 3) (Operand.tmp 14), 0, _, _, none⟩) rfl (fun K hK => ?_) AllReadyH.nil
      have hc := (unhide HP).c3
      obtain ⟨q0, q1, q2, f⟩ := hc
      have f0 := f 0
      have f1 := f 1
      have f2 := f 2
      clear f
      go_simp
      refine hK.out _ _ trivial (fun hHeld => ?_)
      clear hK K q0 q1 q2 f0 f1 f2
      try simp only [Act.put, sa, sb, sc]
      refine wpAnyH_done (by kernel_rfl) ?_ _
      go_wp2
      go_meet
      exact (unhide HP).fin _ _ (by omega) (by omega) hbB (Nat.le_refl _) (unhide HC)
    ·go_simp
     refine (below_c _ _ _ _ _ (by decide) _ (unhide HP).1.1).mono ?_
     rintro e wz3 ⟨y, rfl, y0, y1, y2, hl⟩
     obtain ⟨j, rfl⟩ : ∃ k : Nat, y = k := ⟨y.toNat, by omega⟩
     obtain ⟨j0, j5, jw⟩ := lim_3 j (by omega)
     have HP := hide ((unhide HP).kp hbB hl)
     clear hl y0 y1 y2
     refine hK.out _ _ trivial (fun hHeld => ?_)
     clear hK K
     try simp only [Act.put, sa, sb, sc]
     refine tk 8 (oi := ⟨some 12, Op.binOp BinOp.add 3 (Operand.const (Value.int IntKind.i64 1)) (Operand.tmp 11) 3, 3, _, _, none⟩) (v := ?_) rfl ?_ ?_
     rotate_left
     ·(intro w9 hSw; go_simp; try with_reducible rfl)
     try simp only [Act.put, sa, sb, sc]
     refine wpAnyH_ready (rs := [5, 11]) (by kernel_rfl) (by simp) ?_
     refine AllReadyH.cons (i := 5) (o := ⟨some 9, Op.buildSlice 24 3 #[(0, Operand.const (Value.string { data := #[98] })), (1, Operand.const (Value.string { data := #[99] })), (2, Operand.const (Value.string { data := #[102] }))], 24, _, _, none⟩) rfl (fun K hK => ?_) (AllReadyH.cons (i := 11) (o := ⟨some 3, Op.alloc 27, 0, _, _, none⟩) rfl (fun K hK => ?_) AllReadyH.nil)
     ·go_simp
      have HP := hide (unhide HP).litF
      refine hK.out _ _ trivial (fun hHeld => ?_)
      clear hK K
      generalize wz3.alloc (Obj.cells #[.string ⟨#[98]⟩, .string ⟨#[99]⟩, .string ⟨#[102]⟩] 9) = wz4 at HP ⊢
      try simp only [Act.put, sa, sb, sc]
      refine tk 9 (oi := ⟨some 13, Op.slice 24 (Operand.tmp 9) none (some (Operand.tmp 12)) none, 24, _, _, none⟩) (v := ?_) rfl ?_ ?_
      rotate_left
      ·(intro w9 hSw; go_simp; try with_reducible rfl)
      try simp only [Act.put, sa, sb, sc]
      refine tk 10 (oi := ⟨some 14, Op.build 27 #[(0, Operand.tmp 8), (1, Operand.tmp 13)], 27, _, _, none⟩) (v := ?_) rfl ?_ ?_
      rotate_left
      ·(intro w9 hSw; go_simp; try with_reducible rfl)
      try simp only [Act.put, sa, sb, sc]
      refine wpAnyH_ready (rs := [11]) (by kernel_rfl) (by simp) ?_
      refine AllReadyH.cons (i := 11) (o := ⟨some 3, Op.alloc 27, 0, _, _, none⟩) rfl (fun K hK => ?_) AllReadyH.nil
      go_simp
      have HP := hide (unhide HP).box
      refine hK.out _ _ trivial (fun hHeld => ?_)
      clear hK K
      generalize wz4.alloc (Obj.cells #[.slice none 0 0, .slice none 0 0, .slice none 0 0] 27) = wz5 at HP ⊢
      try simp only [Act.put, sa, sb, sc]
      refine wpAnyH_ready (rs := [12]) (by kernel_rfl) (by simp) ?_
      refine AllReadyH.cons (i := 12) (o := ⟨none, Op.store 27 (Operand.tmp 3) (Operand.tmp 14), 0, _, _, none⟩) rfl (fun K hK => ?_) AllReadyH.nil
      have hc := (unhide HP).c3
      obtain ⟨q0, q1, q2, f⟩ := hc
      have f0 := f 0
      have f1 := f 1
      have f2 := f 2
      clear f
      go_simp
      refine hK.out _ _ trivial (fun hHeld => ?_)
      clear hK K q0 q1 q2 f0 f1 f2
      try simp only [Act.put, sa, sb, sc]
      refine wpAnyH_done (by kernel_rfl) ?_ _
      go_wp2
      go_meet
      exact (unhide HP).fin _ _ (by omega) (by omega) hbB (Nat.le_refl _) (unhide HC)
     ·go_simp
      have HP := hide (unhide HP).box
      refine hK.out _ _ trivial (fun hHeld => ?_)
      clear hK K
      generalize wz3.alloc (Obj.cells #[.slice none 0 0, .slice none 0 0, .slice none 0 0] 27) = wz4 at HP ⊢
      try simp only [Act.put, sa, sb, sc]
      refine wpAnyH_ready (rs := [5]) (by kernel_rfl) (by simp) ?_
      refine AllReadyH.cons (i := 5) (o := ⟨some 9, Op.buildSlice 24 3 #[(0, Operand.const (Value.string { data := #[98] })), (1, Operand.const (Value.string { data := #[99] })), (2, Operand.const (Value.string { data := #[102] }))], 24, _, _, none⟩) rfl (fun K hK => ?_) AllReadyH.nil
      go_simp
      have HP := hide (unhide HP).litF
      refine hK.out _ _ trivial (fun hHeld => ?_)
      clear hK K
      generalize wz4.alloc (Obj.cells #[.string ⟨#[98]⟩, .string ⟨#[99]⟩, .string ⟨#[102]⟩] 9) = wz5 at HP ⊢
      try simp only [Act.put, sa, sb, sc]
      refine tk 9 (oi := ⟨some 13, Op.slice 24 (Operand.tmp 9) none (some (Operand.tmp 12)) none, 24, _, _, none⟩) (v := ?_) rfl ?_ ?_
      rotate_left
      ·(intro w9 hSw; go_simp; try with_reducible rfl)
      try simp only [Act.put, sa, sb, sc]
      refine tk 10 (oi := ⟨some 14, Op.build 27 #[(0, Operand.tmp 8), (1, Operand.tmp 13)], 27, _, _, none⟩) (v := ?_) rfl ?_ ?_
      rotate_left
      ·(intro w9 hSw; go_simp; try with_reducible rfl)
      try simp only [Act.put, sa, sb, sc]
      refine wpAnyH_ready (rs := [12]) (by kernel_rfl) (by simp) ?_
      refine AllReadyH.cons (i := 12) (o := ⟨none, Op.store 27 (Operand.tmp 3) (Operand.tmp 14), 0, _, _, none⟩) rfl (fun K hK => ?_) AllReadyH.nil
      have hc := (unhide HP).c3
      obtain ⟨q0, q1, q2, f⟩ := hc
      have f0 := f 0
      have f1 := f 1
      have f2 := f 2
      clear f
      go_simp
      refine hK.out _ _ trivial (fun hHeld => ?_)
      clear hK K q0 q1 q2 f0 f1 f2
      try simp only [Act.put, sa, sb, sc]
      refine wpAnyH_done (by kernel_rfl) ?_ _
      go_wp2
      go_meet
      exact (unhide HP).fin _ _ (by omega) (by omega) hbB (Nat.le_refl _) (unhide HC)
    ·go_simp
     have HP := hide (unhide HP).box
     refine hK.out _ _ trivial (fun hHeld => ?_)
     clear hK K
     generalize wz2.alloc (Obj.cells #[.slice none 0 0, .slice none 0 0, .slice none 0 0] 27) = wz3 at HP ⊢
     try simp only [Act.put, sa, sb, sc]
     refine wpAnyH_ready (rs := [5, 7]) (by kernel_rfl) (by simp) ?_
     refine AllReadyH.cons (i := 5) (o := ⟨some 9, Op.buildSlice 24 3 #[(0, Operand.const (Value.string { data := #[98] })), (1, Operand.const (Value.string { data := #[99] })), (2, Operand.const (Value.string { data := #[102] }))], 24, _, _, none⟩) rfl (fun K hK => ?_) (AllReadyH.cons (i := 7) (o := ⟨some 11, Op.call { callee := Callee.value (Operand.func 78), args := #[Operand.tmp 10, Operand.const (Value.int IntKind.i64 2)], argTypes := #[61, 3] }, 3, _, _, none⟩) rfl (fun K hK => ?_) AllReadyH.nil)
     ·go_simp
      have HP := hide (unhide HP).litF
      refine hK.out _ _ trivial (fun hHeld => ?_)
      clear hK K
      generalize wz3.alloc (Obj.cells #[.string ⟨#[98]⟩, .string ⟨#[99]⟩, .string ⟨#[102]⟩] 9) = wz4 at HP ⊢
      try simp only [Act.put, sa, sb, sc]
      refine wpAnyH_ready (rs := [7]) (by kernel_rfl) (by simp) ?_
      refine AllReadyH.cons (i := 7) (o := ⟨some 11, Op.call { callee := Callee.value (Operand.func 78), args := #[Operand.tmp 10, Operand.const (Value.int IntKind.i64 2)], argTypes := #[61, 3] }, 3, _, _, none⟩) rfl (fun K hK => ?_) AllReadyH.nil
      go_simp
      refine (below_c _ _ _ _ _ (by decide) _ (unhide HP).1.1).mono ?_
      rintro e wz5 ⟨y, rfl, y0, y1, y2, hl⟩
      obtain ⟨j, rfl⟩ : ∃ k : Nat, y = k := ⟨y.toNat, by omega⟩
      obtain ⟨j0, j5, jw⟩ := lim_3 j (by omega)
      have HP := hide ((unhide HP).kp hbB hl)
      clear hl y0 y1 y2
      refine hK.out _ _ trivial (fun hHeld => ?_)
      clear hK K
      try simp only [Act.put, sa, sb, sc]
      refine tk 8 (oi := ⟨some 12, Op.binOp BinOp.add 3 (Operand.const (Value.int IntKind.i64 1)) (Operand.tmp 11) 3, 3, _, _, none⟩) (v := ?_) rfl ?_ ?_
      rotate_left
      ·(intro w9 hSw; go_simp; try with_reducible rfl)
      try simp only [Act.put, sa, sb, sc]
      refine tk 9 (oi := ⟨some 13, Op.slice 24 (Operand.tmp 9) none (some (Operand.tmp 12)) none, 24, _, _, none⟩) (v := ?_) rfl ?_ ?_
      rotate_left
      ·(intro w9 hSw; go_simp; try with_reducible rfl)
      try simp only [Act.put, sa, sb, sc]
      refine tk 10 (oi := ⟨some 14, Op.build 27 #[(0, Operand.tmp 8), (1, Operand.tmp 13)], 27, _, _, none⟩) (v := ?_) rfl ?_ ?_
      rotate_left
      ·(intro w9 hSw; go_simp; try with_reducible rfl)
      try simp only [Act.put, sa, sb, sc]
      refine wpAnyH_ready (rs := [12]) (by kernel_rfl) (by simp) ?_
      refine AllReadyH.cons (i := 12) (o := ⟨none, Op.store 27 (Operand.tmp 3) (Operand.tmp 14), 0, _, _, none⟩) rfl (fun K hK => ?_) AllReadyH.nil
      have hc := (unhide HP).c3
      obtain ⟨q0, q1, q2, f⟩ := hc
      have f0 := f 0
      have f1 := f 1
      have f2 := f 2
      clear f
      go_simp
      refine hK.out _ _ trivial (fun hHeld => ?_)
      clear hK K q0 q1 q2 f0 f1 f2
      try simp only [Act.put, sa, sb, sc]
      refine wpAnyH_done (by kernel_rfl) ?_ _
      go_wp2
      go_meet
      exact (unhide HP).fin _ _ (by omega) (by omega) hbB (Nat.le_refl _) (unhide HC)
     ·go_simp
      refine (below_c _ _ _ _ _ (by decide) _ (unhide HP).1.1).mono ?_
      rintro e wz4 ⟨y, rfl, y0, y1, y2, hl⟩
      obtain ⟨j, rfl⟩ : ∃ k : Nat, y = k := ⟨y.toNat, by omega⟩
      obtain ⟨j0, j5, jw⟩ := lim_3 j (by omega)
      have HP := hide ((unhide HP).kp hbB hl)
      clear hl y0 y1 y2
      refine hK.out _ _ trivial (fun hHeld => ?_)
      clear hK K
      try simp only [Act.put, sa, sb, sc]
      refine tk 8 (oi := ⟨some 12, Op.binOp BinOp.add 3 (Operand.const (Value.int IntKind.i64 1)) (Operand.tmp 11) 3, 3, _, _, none⟩) (v := ?_) rfl ?_ ?_
      rotate_left
      ·(intro w9 hSw; go_simp; try with_reducible rfl)
      try simp only [Act.put, sa, sb, sc]
      refine wpAnyH_ready (rs := [5]) (by kernel_rfl) (by simp) ?_
      refine AllReadyH.cons (i := 5) (o := ⟨some 9, Op.buildSlice 24 3 #[(0, Operand.const (Value.string { data := #[98] })), (1, Operand.const (Value.string { data := #[99] })), (2, Operand.const (Value.string { data := #[102] }))], 24, _, _, none⟩) rfl (fun K hK => ?_) AllReadyH.nil
      go_simp
      have HP := hide (unhide HP).litF
      refine hK.out _ _ trivial (fun hHeld => ?_)
      clear hK K
      generalize wz4.alloc (Obj.cells #[.string ⟨#[98]⟩, .string ⟨#[99]⟩, .string ⟨#[102]⟩] 9) = wz5 at HP ⊢
      try simp only [Act.put, sa, sb, sc]
      refine tk 9 (oi := ⟨some 13, Op.slice 24 (Operand.tmp 9) none (some (Operand.tmp 12)) none, 24, _, _, none⟩) (v := ?_) rfl ?_ ?_
      rotate_left
      ·(intro w9 hSw; go_simp; try with_reducible rfl)
      try simp only [Act.put, sa, sb, sc]
      refine tk 10 (oi := ⟨some 14, Op.build 27 #[(0, Operand.tmp 8), (1, Operand.tmp 13)], 27, _, _, none⟩) (v := ?_) rfl ?_ ?_
      rotate_left
      ·(intro w9 hSw; go_simp; try with_reducible rfl)
      try simp only [Act.put, sa, sb, sc]
      refine wpAnyH_ready (rs := [12]) (by kernel_rfl) (by simp) ?_
      refine AllReadyH.cons (i := 12) (o := ⟨none, Op.store 27 (Operand.tmp 3) (Operand.tmp 14), 0, _, _, none⟩) rfl (fun K hK => ?_) AllReadyH.nil
      have hc := (unhide HP).c3
      obtain ⟨q0, q1, q2, f⟩ := hc
      have f0 := f 0
      have f1 := f 1
      have f2 := f 2
      clear f
      go_simp
      refine hK.out _ _ trivial (fun hHeld => ?_)
      clear hK K q0 q1 q2 f0 f1 f2
      try simp only [Act.put, sa, sb, sc]
      refine wpAnyH_done (by kernel_rfl) ?_ _
      go_wp2
      go_meet
      exact (unhide HP).fin _ _ (by omega) (by omega) hbB (Nat.le_refl _) (unhide HC)
   ·go_simp
    have HP := hide (unhide HP).litF
    refine hK.out _ _ trivial (fun hHeld => ?_)
    clear hK K
    generalize wz1.alloc (Obj.cells #[.string ⟨#[98]⟩, .string ⟨#[99]⟩, .string ⟨#[102]⟩] 9) = wz2 at HP ⊢
    try simp only [Act.put, sa, sb, sc]
    refine wpAnyH_ready (rs := [2, 11]) (by kernel_rfl) (by simp) ?_
    refine AllReadyH.cons (i := 2) (o := ⟨some 6, Op.call { callee := Callee.value (Operand.func 78), args := #[Operand.tmp 5, Operand.const (Value.int IntKind.i64 4)], argTypes := #[61, 3] }, 3, _, _, none⟩) rfl (fun K hK => ?_) (AllReadyH.cons (i := 11) (o := ⟨some 3, Op.alloc 27, 0, _, _, none⟩) rfl (fun K hK => ?_) AllReadyH.nil)
    ·go_simp
     refine (below_c _ _ _ _ _ (by decide) _ (unhide HP).1.1).mono ?_
     rintro e wz3 ⟨y, rfl, y0, y1, y2, hl⟩
     obtain ⟨k, rfl⟩ : ∃ k : Nat, y = k := ⟨y.toNat, by omega⟩
     obtain ⟨k0, k5, kw⟩ := lim_5 k (by omega)
     have HP := hide ((unhide HP).kp hbB hl)
     clear hl y0 y1 y2
     refine hK.out _ _ trivial (fun hHeld => ?_)
     clear hK K
     try simp only [Act.put, sa, sb, sc]
     refine tk 3 (oi := ⟨some 7, Op.binOp BinOp.add 3 (Operand.const (Value.int IntKind.i64 1)) (Operand.tmp 6) 3, 3, _, _, none⟩) (v := ?_) rfl ?_ ?_
     rotate_left
     ·(intro w9 hSw; go_simp; try with_reducible rfl)
     try simp only [Act.put, sa, sb, sc]
     refine tk 4 (oi := ⟨some 8, Op.slice 24 (Operand.tmp 4) none (some (Operand.tmp 7)) none, 24, _, _, none⟩) (v := ?_) rfl ?_ ?_
     rotate_left
     ·(intro w9 hSw; go_simp; try with_reducible rfl)
     try simp only [Act.put, sa, sb, sc]
     refine wpAnyH_ready (rs := [7, 11]) (by kernel_rfl) (by simp) ?_
     refine AllReadyH.cons (i := 7) (o := ⟨some 11, Op.call { callee := Callee.value (Operand.func 78), args := #[Operand.tmp 10, Operand.const (Value.int IntKind.i64 2)], argTypes := #[61, 3] }, 3, _, _, none⟩) rfl (fun K hK => ?_) (AllReadyH.cons (i := 11) (o := ⟨some 3, Op.alloc 27, 0, _, _, none⟩) rfl (fun K hK => ?_) AllReadyH.nil)
     ·go_simp
      refine (below_c _ _ _ _ _ (by decide) _ (unhide HP).1.1).mono ?_
      rintro e wz4 ⟨y, rfl, y0, y1, y2, hl⟩
      obtain ⟨j, rfl⟩ : ∃ k : Nat, y = k := ⟨y.toNat, by omega⟩
      obtain ⟨j0, j5, jw⟩ := lim_3 j (by omega)
      have HP := hide ((unhide HP).kp hbB hl)
      clear hl y0 y1 y2
      refine hK.out _ _ trivial (fun hHeld => ?_)
      clear hK K
      try simp only [Act.put, sa, sb, sc]
      refine tk 8 (oi := ⟨some 12, Op.binOp BinOp.add 3 (Operand.const (Value.int IntKind.i64 1)) (Operand.tmp 11) 3, 3, _, _, none⟩) (v := ?_) rfl ?_ ?_
      rotate_left
      ·(intro w9 hSw; go_simp; try with_reducible rfl)
      try simp only [Act.put, sa, sb, sc]
      refine tk 9 (oi := ⟨some 13, Op.slice 24 (Operand.tmp 9) none (some (Operand.tmp 12)) none, 24, _, _, none⟩) (v := ?_) rfl ?_ ?_
      rotate_left
      ·(intro w9 hSw; go_simp; try with_reducible rfl)
      try simp only [Act.put, sa, sb, sc]
      refine tk 10 (oi := ⟨some 14, Op.build 27 #[(0, Operand.tmp 8), (1, Operand.tmp 13)], 27, _, _, none⟩) (v := ?_) rfl ?_ ?_
      rotate_left
      ·(intro w9 hSw; go_simp; try with_reducible rfl)
      try simp only [Act.put, sa, sb, sc]
      refine wpAnyH_ready (rs := [11]) (by kernel_rfl) (by simp) ?_
      refine AllReadyH.cons (i := 11) (o := ⟨some 3, Op.alloc 27, 0, _, _, none⟩) rfl (fun K hK => ?_) AllReadyH.nil
      go_simp
      have HP := hide (unhide HP).box
      refine hK.out _ _ trivial (fun hHeld => ?_)
      clear hK K
      generalize wz4.alloc (Obj.cells #[.slice none 0 0, .slice none 0 0, .slice none 0 0] 27) = wz5 at HP ⊢
      try simp only [Act.put, sa, sb, sc]
      refine wpAnyH_ready (rs := [12]) (by kernel_rfl) (by simp) ?_
      refine AllReadyH.cons (i := 12) (o := ⟨none, Op.store 27 (Operand.tmp 3) (Operand.tmp 14), 0, _, _, none⟩) rfl (fun K hK => ?_) AllReadyH.nil
      have hc := (unhide HP).c3
      obtain ⟨q0, q1, q2, f⟩ := hc
      have f0 := f 0
      have f1 := f 1
      have f2 := f 2
      clear f
      go_simp
      refine hK.out _ _ trivial (fun hHeld => ?_)
      clear hK K q0 q1 q2 f0 f1 f2
      try simp only [Act.put, sa, sb, sc]
      refine wpAnyH_done (by kernel_rfl) ?_ _
      go_wp2
      go_meet
      exact (unhide HP).fin _ _ (by omega) (by omega) hbB (Nat.le_refl _) (unhide HC)
     ·go_simp
      have HP := hide (unhide HP).box
      refine hK.out _ _ trivial (fun hHeld => ?_)
      clear hK K
      generalize wz3.alloc (Obj.cells #[.slice none 0 0, .slice none 0 0, .slice none 0 0] 27) = wz4 at HP ⊢
      try simp only [Act.put, sa, sb, sc]
      refine wpAnyH_ready (rs := [7]) (by kernel_rfl) (by simp) ?_
      refine AllReadyH.cons (i := 7) (o := ⟨some 11, Op.call { callee := Callee.value (Operand.func 78), args := #[Operand.tmp 10, Operand.const (Value.int IntKind.i64 2)], argTypes := #[61, 3] }, 3, _, _, none⟩) rfl (fun K hK => ?_) AllReadyH.nil
      go_simp
      refine (below_c _ _ _ _ _ (by decide) _ (unhide HP).1.1).mono ?_
      rintro e wz5 ⟨y, rfl, y0, y1, y2, hl⟩
      obtain ⟨j, rfl⟩ : ∃ k : Nat, y = k := ⟨y.toNat, by omega⟩
      obtain ⟨j0, j5, jw⟩ := lim_3 j (by omega)
      have HP := hide ((unhide HP).kp hbB hl)
      clear hl y0 y1 y2
      refine hK.out _ _ trivial (fun hHeld => ?_)
      clear hK K
      try simp only [Act.put, sa, sb, sc]
      refine tk 8 (oi := ⟨some 12, Op.binOp BinOp.add 3 (Operand.const (Value.int IntKind.i64 1)) (Operand.tmp 11) 3, 3, _, _, none⟩) (v := ?_) rfl ?_ ?_
      rotate_left
      ·(intro w9 hSw; go_simp; try with_reducible rfl)
      try simp only [Act.put, sa, sb, sc]
      refine tk 9 (oi := ⟨some 13, Op.slice 24 (Operand.tmp 9) none (some (Operand.tmp 12)) none, 24, _, _, none⟩) (v := ?_) rfl ?_ ?_
      rotate_left
      ·(intro w9 hSw; go_simp; try with_reducible rfl)
      try simp only [Act.put, sa, sb, sc]
      refine tk 10 (oi := ⟨some 14, Op.build 27 #[(0, Operand.tmp 8), (1, Operand.tmp 13)], 27, _, _, none⟩) (v := ?_) rfl ?_ ?_
      rotate_left
      ·(intro w9 hSw; go_simp; try with_reducible rfl)
      try simp only [Act.put, sa, sb, sc]
      refine wpAnyH_ready (rs := [12]) (by kernel_rfl) (by simp) ?_
      refine AllReadyH.cons (i := 12) (o := ⟨none, Op.store 27 (Operand.tmp 3) (Operand.tmp 14), 0, _, _, none⟩) rfl (fun K hK => ?_) AllReadyH.nil
      have hc := (unhide HP).c3
      obtain ⟨q0, q1, q2, f⟩ := hc
      have f0 := f 0
      have f1 := f 1
      have f2 := f 2
      clear f
      go_simp
      refine hK.out _ _ trivial (fun hHeld => ?_)
      clear hK K q0 q1 q2 f0 f1 f2
      try simp only [Act.put, sa, sb, sc]
      refine wpAnyH_done (by kernel_rfl) ?_ _
      go_wp2
      go_meet
      exact (unhide HP).fin _ _ (by omega) (by omega) hbB (Nat.le_refl _) (unhide HC)
    ·go_simp
     have HP := hide (unhide HP).box
     refine hK.out _ _ trivial (fun hHeld => ?_)
     clear hK K
     generalize wz2.alloc (Obj.cells #[.slice none 0 0, .slice none 0 0, .slice none 0 0] 27) = wz3 at HP ⊢
     try simp only [Act.put, sa, sb, sc]
     refine wpAnyH_ready (rs := [2]) (by kernel_rfl) (by simp) ?_
     refine AllReadyH.cons (i := 2) (o := ⟨some 6, Op.call { callee := Callee.value (Operand.func 78), args := #[Operand.tmp 5, Operand.const (Value.int IntKind.i64 4)], argTypes := #[61, 3] }, 3, _, _, none⟩) rfl (fun K hK => ?_) AllReadyH.nil
     go_simp
     refine (below_c _ _ _ _ _ (by decide) _ (unhide HP).1.1).mono ?_
     rintro e wz4 ⟨y, rfl, y0, y1, y2, hl⟩
     obtain ⟨k, rfl⟩ : ∃ k : Nat, y = k := ⟨y.toNat, by omega⟩
     obtain ⟨k0, k5, kw⟩ := lim_5 k (by omega)
     have HP := hide ((unhide HP).kp hbB hl)
     clear hl y0 y1 y2
     refine hK.out _ _ trivial (fun hHeld => ?_)
     clear hK K
     try simp only [Act.put, sa, sb, sc]
     refine tk 3 (oi := ⟨some 7, Op.binOp BinOp.add 3 (Operand.const (Value.int IntKind.i64 1)) (Operand.tmp 6) 3, 3, _, _, none⟩) (v := ?_) rfl ?_ ?_
     rotate_left
     ·(intro w9 hSw; go_simp; try with_reducible rfl)
     try simp only [Act.put, sa, sb, sc]
     refine tk 4 (oi := ⟨some 8, Op.slice 24 (Operand.tmp 4) none (some (Operand.tmp 7)) none, 24, _, _, none⟩) (v := ?_) rfl ?_ ?_
     rotate_left
     ·(intro w9 hSw; go_simp; try with_reducible rfl)
     try simp only [Act.put, sa, sb, sc]
     refine wpAnyH_ready (rs := [7]) (by kernel_rfl) (by simp) ?_
     refine AllReadyH.cons (i := 7) (o := ⟨some 11, Op.call { callee := Callee.value (Operand.func 78), args := #[Operand.tmp 10, Operand.const (Value.int IntKind.i64 2)], argTypes := #[61, 3] }, 3, _, _, none⟩) rfl (fun K hK => ?_) AllReadyH.nil
     go_simp
     refine (below_c _ _ _ _ _ (by decide) _ (unhide HP).1.1).mono ?_
     rintro e wz5 ⟨y, rfl, y0, y1, y2, hl⟩
     obtain ⟨j, rfl⟩ : ∃ k : Nat, y = k := ⟨y.toNat, by omega⟩
     obtain ⟨j0, j5, jw⟩ := lim_3 j (by omega)
     have HP := hide ((unhide HP).kp hbB hl)
     clear hl y0 y1 y2
     refine hK.out _ _ trivial (fun hHeld => ?_)
     clear hK K
     try simp only [Act.put, sa, sb, sc]
     refine tk 8 (oi := ⟨some 12, Op.binOp BinOp.add 3 (Operand.const (Value.int IntKind.i64 1)) (Operand.tmp 11) 3, 3, _, _, none⟩) (v := ?_) rfl ?_ ?_
     rotate_left
     ·(intro w9 hSw; go_simp; try with_reducible rfl)
     try simp only [Act.put, sa, sb, sc]
     refine tk 9 (oi := ⟨some 13, Op.slice 24 (Operand.tmp 9) none (some (Operand.tmp 12)) none, 24, _, _, none⟩) (v := ?_) rfl ?_ ?_
     rotate_left
     ·(intro w9 hSw; go_simp; try with_reducible rfl)
     try simp only [Act.put, sa, sb, sc]
     refine tk 10 (oi := ⟨some 14, Op.build 27 #[(0, Operand.tmp 8), (1, Operand.tmp 13)], 27, _, _, none⟩) (v := ?_) rfl ?_ ?_
     rotate_left
     ·(intro w9 hSw; go_simp; try with_reducible rfl)
     try simp only [Act.put, sa, sb, sc]
     refine wpAnyH_ready (rs := [12]) (by kernel_rfl) (by simp) ?_
     refine AllReadyH.cons (i := 12) (o := ⟨none, Op.store 27 (Operand.tmp 3) (Operand.tmp 14), 0, _, _, none⟩) rfl (fun K hK => ?_) AllReadyH.nil
     have hc := (unhide HP).c3
     obtain ⟨q0, q1, q2, f⟩ := hc
     have f0 := f 0
     have f1 := f 1
     have f2 := f 2
     clear f
     go_simp
     refine hK.out _ _ trivial (fun hHeld => ?_)
     clear hK K q0 q1 q2 f0 f1 f2
     try simp only [Act.put, sa, sb, sc]
     refine wpAnyH_done (by kernel_rfl) ?_ _
     go_wp2
     go_meet
     exact (unhide HP).fin _ _ (by omega) (by omega) hbB (Nat.le_refl _) (unhide HC)
   ·go_simp
    have HP := hide (unhide HP).box
    refine hK.out _ _ trivial (fun hHeld => ?_)
    clear hK K
    generalize wz1.alloc (Obj.cells #[.slice none 0 0, .slice none 0 0, .slice none 0 0] 27) = wz2 at HP ⊢
    try simp only [Act.put, sa, sb, sc]
    refine wpAnyH_ready (rs := [2, 5]) (by kernel_rfl) (by simp) ?_
    refine AllReadyH.cons (i := 2) (o := ⟨some 6, Op.call { callee := Callee.value (Operand.func 78), args := #[Operand.tmp 5, Operand.const (Value.int IntKind.i64 4)], argTypes := #[61, 3] }, 3, _, _, none⟩) rfl (fun K hK => ?_) (AllReadyH.cons (i := 5) (o := ⟨some 9, Op.buildSlice 24 3 #[(0, Operand.const (Value.string { data := #[98] })), (1, Operand.const (Value.string { data := #[99] })), (2, Operand.const (Value.string { data := #[102] }))], 24, _, _, none⟩) rfl (fun K hK => ?_) AllReadyH.nil)
    ·go_simp
     refine (below_c _ _ _ _ _ (by decide) _ (unhide HP).1.1).mono ?_
     rintro e wz3 ⟨y, rfl, y0, y1, y2, hl⟩
     obtain ⟨k, rfl⟩ : ∃ k : Nat, y = k := ⟨y.toNat, by omega⟩
     obtain ⟨k0, k5, kw⟩ := lim_5 k (by omega)
     have HP := hide ((unhide HP).kp hbB hl)
     clear hl y0 y1 y2
     refine hK.out _ _ trivial (fun hHeld => ?_)
     clear hK K
     try simp only [Act.put, sa, sb, sc]
     refine tk 3 (oi := ⟨some 7, Op.binOp BinOp.add 3 (Operand.const (Value.int IntKind.i64 1)) (Operand.tmp 6) 3, 3, _, _, none⟩) (v := ?_) rfl ?_ ?_
     rotate_left
     ·(intro w9 hSw; go_simp; try with_reducible rfl)
     try simp only [Act.put, sa, sb, sc]
     refine tk 4 (oi := ⟨some 8, Op.slice 24 (Operand.tmp 4) none (some (Operand.tmp 7)) none, 24, _, _, none⟩) (v := ?_) rfl ?_ ?_
     rotate_left
     ·(intro w9 hSw; go_simp; try with_reducible rfl)
     try simp only [Act.put, sa, sb, sc]
     refine wpAnyH_ready (rs := [5, 7]) (by kernel_rfl) (by simp) ?_
     refine AllReadyH.cons (i := 5) (o := ⟨some 9, Op.buildSlice 24 3 #[(0, Operand.const (Value.string { data := #[98] })), (1, Operand.const (Value.string { data := #[99] })), (2, Operand.const (Value.string { data := #[102] }))], 24, _, _, none⟩) rfl (fun K hK => ?_) (AllReadyH.cons (i := 7) (o := ⟨some 11, Op.call { callee := Callee.value (Operand.func 78), args := #[Operand.tmp 10, Operand.const (Value.int IntKind.i64 2)], argTypes := #[61, 3] }, 3, _, _, none⟩) rfl (fun K hK => ?_) AllReadyH.nil)
     ·go_simp
      have HP := hide (unhide HP).litF
      refine hK.out _ _ trivial (fun hHeld => ?_)
      clear hK K
      generalize wz3.alloc (Obj.cells #[.string ⟨#[98]⟩, .string ⟨#[99]⟩, .string ⟨#[102]⟩] 9) = wz4 at HP ⊢
      try simp only [Act.put, sa, sb, sc]
      refine wpAnyH_ready (rs := [7]) (by kernel_rfl) (by simp) ?_
      refine AllReadyH.cons (i := 7) (o := ⟨some 11, Op.call { callee := Callee.value (Operand.func 78), args := #[Operand.tmp 10, Operand.const (Value.int IntKind.i64 2)], argTypes := #[61, 3] }, 3, _, _, none⟩) rfl (fun K hK => ?_) AllReadyH.nil
      go_simp
      refine (below_c _ _ _ _ _ (by decide) _ (unhide HP).1.1).mono ?_
      rintro e wz5 ⟨y, rfl, y0, y1, y2, hl⟩
      obtain ⟨j, rfl⟩ : ∃ k : Nat, y = k := ⟨y.toNat, by omega⟩
      obtain ⟨j0, j5, jw⟩ := lim_3 j (by omega)
      have HP := hide ((unhide HP).kp hbB hl)
      clear hl y0 y1 y2
      refine hK.out _ _ trivial (fun hHeld => ?_)
      clear hK K
      try simp only [Act.put, sa, sb, sc]
      refine tk 8 (oi := ⟨some 12, Op.binOp BinOp.add 3 (Operand.const (Value.int IntKind.i64 1)) (Operand.tmp 11) 3, 3, _, _, none⟩) (v := ?_) rfl ?_ ?_
      rotate_left
      ·(intro w9 hSw; go_simp; try with_reducible rfl)
      try simp only [Act.put, sa, sb, sc]
      refine tk 9 (oi := ⟨some 13, Op.slice 24 (Operand.tmp 9) none (some (Operand.tmp 12)) none, 24, _, _, none⟩) (v := ?_) rfl ?_ ?_
      rotate_left
      ·(intro w9 hSw; go_simp; try with_reducible rfl)
      try simp only [Act.put, sa, sb, sc]
      refine tk 10 (oi := ⟨some 14, Op.build 27 #[(0, Operand.tmp 8), (1, Operand.tmp 13)], 27, _, _, none⟩) (v := ?_) rfl ?_ ?_
      rotate_left
      ·(intro w9 hSw; go_simp; try with_reducible rfl)
      try simp only [Act.put, sa, sb, sc]
      refine wpAnyH_ready (rs := [12]) (by kernel_rfl) (by simp) ?_
      refine AllReadyH.cons (i := 12) (o := ⟨none, Op.store 27 (Operand.tmp 3) (Operand.tmp 14), 0, _, _, none⟩) rfl (fun K hK => ?_) AllReadyH.nil
      have hc := (unhide HP).c3
      obtain ⟨q0, q1, q2, f⟩ := hc
      have f0 := f 0
      have f1 := f 1
      have f2 := f 2
      clear f
      go_simp
      refine hK.out _ _ trivial (fun hHeld => ?_)
      clear hK K q0 q1 q2 f0 f1 f2
      try simp only [Act.put, sa, sb, sc]
      refine wpAnyH_done (by kernel_rfl) ?_ _
      go_wp2
      go_meet
      exact (unhide HP).fin _ _ (by omega) (by omega) hbB (Nat.le_refl _) (unhide HC)
     ·go_simp
      refine (below_c _ _ _ _ _ (by decide) _ (unhide HP).1.1).mono ?_
      rintro e wz4 ⟨y, rfl, y0, y1, y2, hl⟩
      obtain ⟨j, rfl⟩ : ∃ k : Nat, y = k := ⟨y.toNat, by omega⟩
      obtain ⟨j0, j5, jw⟩ := lim_3 j (by omega)
      have HP := hide ((unhide HP).kp hbB hl)
      clear hl y0 y1 y2
      refine hK.out _ _ trivial (fun hHeld => ?_)
      clear hK K
      try simp only [Act.put, sa, sb, sc]
      refine tk 8 (oi := ⟨some 12, Op.binOp BinOp.add 3 (Operand.const (Value.int IntKind.i64 1)) (Operand.tmp 11) 3, 3, _, _, none⟩) (v := ?_) rfl ?_ ?_
      rotate_left
      ·(intro w9 hSw; go_simp; try with_reducible rfl)
      try simp only [Act.put, sa, sb, sc]
      refine wpAnyH_ready (rs := [5]) (by kernel_rfl) (by simp) ?_
      refine AllReadyH.cons (i := 5) (o := ⟨some 9, Op.buildSlice 24 3 #[(0, Operand.const (Value.string { data := #[98] })), (1, Operand.const (Value.string { data := #[99] })), (2, Operand.const (Value.string { data := #[102] }))], 24, _, _, none⟩) rfl (fun K hK => ?_) AllReadyH.nil
      go_simp
      have HP := hide (unhide HP).litF
      refine hK.out _ _ trivial (fun hHeld => ?_)
      clear hK K
      generalize wz4.alloc (Obj.cells #[.string ⟨#[98]⟩, .string ⟨#[99]⟩, .string ⟨#[102]⟩] 9) = wz5 at HP ⊢
      try simp only [Act.put, sa, sb, sc]
      refine tk 9 (oi := ⟨some 13, Op.slice 24 (Operand.tmp 9) none (some (Operand.tmp 12)) none, 24, _, _, none⟩) (v := ?_) rfl ?_ ?_
      rotate_left
      ·(intro w9 hSw; go_simp; try with_reducible rfl)
      try simp only [Act.put, sa, sb, sc]
      refine tk 10 (oi := ⟨some 14, Op.build 27 #[(0, Operand.tmp 8), (1, Operand.tmp 13)], 27, _, _, none⟩) (v := ?_) rfl ?_ ?_
      rotate_left
      ·(intro w9 hSw; go_simp; try with_reducible rfl)
      try simp only [Act.put, sa, sb, sc]
      refine wpAnyH_ready (rs := [12]) (by kernel_rfl) (by simp) ?_
      refine AllReadyH.cons (i := 12) (o := ⟨none, Op.store 27 (Operand.tmp 3) (Operand.tmp 14), 0, _, _, none⟩) rfl (fun K hK => ?_) AllReadyH.nil
      have hc := (unhide HP).c3
      obtain ⟨q0, q1, q2, f⟩ := hc
      have f0 := f 0
      have f1 := f 1
      have f2 := f 2
      clear f
      go_simp
      refine hK.out _ _ trivial (fun hHeld => ?_)
      clear hK K q0 q1 q2 f0 f1 f2
      try simp only [Act.put, sa, sb, sc]
      refine wpAnyH_done (by kernel_rfl) ?_ _
      go_wp2
      go_meet
      exact (unhide HP).fin _ _ (by omega) (by omega) hbB (Nat.le_refl _) (unhide HC)
    ·go_simp
     have HP := hide (unhide HP).litF
     refine hK.out _ _ trivial (fun hHeld => ?_)
     clear hK K
     generalize wz2.alloc (Obj.cells #[.string ⟨#[98]⟩, .string ⟨#[99]⟩, .string ⟨#[102]⟩] 9) = wz3 at HP ⊢
     try simp only [Act.put, sa, sb, sc]
     refine wpAnyH_ready (rs := [2]) (by kernel_rfl) (by simp) ?_
     refine AllReadyH.cons (i := 2) (o := ⟨some 6, Op.call { callee := Callee.value (Operand.func 78), args := #[Operand.tmp 5, Operand.const (Value.int IntKind.i64 4)], argTypes := #[61, 3] }, 3, _, _, none⟩) rfl (fun K hK => ?_) AllReadyH.nil
     go_simp
     refine (below_c _ _ _ _ _ (by decide) _ (unhide HP).1.1).mono ?_
     rintro e wz4 ⟨y, rfl, y0, y1, y2, hl⟩
     obtain ⟨k, rfl⟩ : ∃ k : Nat, y = k := ⟨y.toNat, by omega⟩
     obtain ⟨k0, k5, kw⟩ := lim_5 k (by omega)
     have HP := hide ((unhide HP).kp hbB hl)
     clear hl y0 y1 y2
     refine hK.out _ _ trivial (fun hHeld => ?_)
     clear hK K
     try simp only [Act.put, sa, sb, sc]
     refine tk 3 (oi := ⟨some 7, Op.binOp BinOp.add 3 (Operand.const (Value.int IntKind.i64 1)) (Operand.tmp 6) 3, 3, _, _, none⟩) (v := ?_) rfl ?_ ?_
     rotate_left
     ·(intro w9 hSw; go_simp; try with_reducible rfl)
     try simp only [Act.put, sa, sb, sc]
     refine tk 4 (oi := ⟨some 8, Op.slice 24 (Operand.tmp 4) none (some (Operand.tmp 7)) none, 24, _, _, none⟩) (v := ?_) rfl ?_ ?_
     rotate_left
     ·(intro w9 hSw; go_simp; try with_reducible rfl)
     try simp only [Act.put, sa, sb, sc]
     refine wpAnyH_ready (rs := [7]) (by kernel_rfl) (by simp) ?_
     refine AllReadyH.cons (i := 7) (o := ⟨some 11, Op.call { callee := Callee.value (Operand.func 78), args := #[Operand.tmp 10, Operand.const (Value.int IntKind.i64 2)], argTypes := #[61, 3] }, 3, _, _, none⟩) rfl (fun K hK => ?_) AllReadyH.nil
     go_simp
     refine (below_c _ _ _ _ _ (by decide) _ (unhide HP).1.1).mono ?_
     rintro e wz5 ⟨y, rfl, y0, y1, y2, hl⟩
     obtain ⟨j, rfl⟩ : ∃ k : Nat, y = k := ⟨y.toNat, by omega⟩
     obtain ⟨j0, j5, jw⟩ := lim_3 j (by omega)
     have HP := hide ((unhide HP).kp hbB hl)
     clear hl y0 y1 y2
     refine hK.out _ _ trivial (fun hHeld => ?_)
     clear hK K
     try simp only [Act.put, sa, sb, sc]
     refine tk 8 (oi := ⟨some 12, Op.binOp BinOp.add 3 (Operand.const (Value.int IntKind.i64 1)) (Operand.tmp 11) 3, 3, _, _, none⟩) (v := ?_) rfl ?_ ?_
     rotate_left
     ·(intro w9 hSw; go_simp; try with_reducible rfl)
     try simp only [Act.put, sa, sb, sc]
     refine tk 9 (oi := ⟨some 13, Op.slice 24 (Operand.tmp 9) none (some (Operand.tmp 12)) none, 24, _, _, none⟩) (v := ?_) rfl ?_ ?_
     rotate_left
     ·(intro w9 hSw; go_simp; try with_reducible rfl)
     try simp only [Act.put, sa, sb, sc]
     refine tk 10 (oi := ⟨some 14, Op.build 27 #[(0, Operand.tmp 8), (1, Operand.tmp 13)], 27, _, _, none⟩) (v := ?_) rfl ?_ ?_
     rotate_left
     ·(intro w9 hSw; go_simp; try with_reducible rfl)
     try simp only [Act.put, sa, sb, sc]
     refine wpAnyH_ready (rs := [12]) (by kernel_rfl) (by simp) ?_
     refine AllReadyH.cons (i := 12) (o := ⟨none, Op.store 27 (Operand.tmp 3) (Operand.tmp 14), 0, _, _, none⟩) rfl (fun K hK => ?_) AllReadyH.nil
     have hc := (unhide HP).c3
     obtain ⟨q0, q1, q2, f⟩ := hc
     have f0 := f 0
     have f1 := f 1
     have f2 := f 2
     clear f
     go_simp
     refine hK.out _ _ trivial (fun hHeld => ?_)
     clear hK K q0 q1 q2 f0 f1 f2
     try simp only [Act.put, sa, sb, sc]
     refine wpAnyH_done (by kernel_rfl) ?_ _
     go_wp2
     go_meet
     exact (unhide HP).fin _ _ (by omega) (by omega) hbB (Nat.le_refl _) (unhide HC)
  ·go_simp
   refine (below_c _ _ _ _ _ (by decide) _ (unhide HP).1.1).mono ?_
   rintro e wz1 ⟨y, rfl, y0, y1, y2, hl⟩
   obtain ⟨k, rfl⟩ : ∃ k : Nat, y = k := ⟨y.toNat, by omega⟩
   obtain ⟨k0, k5, kw⟩ := lim_5 k (by omega)
   have HP := hide ((unhide HP).kp hbB hl)
   clear hl y0 y1 y2
   refine hK.out _ _ trivial (fun hHeld => ?_)
   clear hK K
   try simp only [Act.put, sa, sb, sc]
   refine tk 3 (oi := ⟨some 7, Op.binOp BinOp.add 3 (Operand.const (Value.int IntKind.i64 1)) (Operand.tmp 6) 3, 3, _, _, none⟩) (v := ?_) rfl ?_ ?_
   rotate_left
   ·(intro w9 hSw; go_simp; try with_reducible rfl)
   try simp only [Act.put, sa, sb, sc]
   refine wpAnyH_ready (rs := [0, 5, 7, 11]) (by kernel_rfl) (by simp) ?_
   refine AllReadyH.cons (i := 0) (o := ⟨some 4, Op.buildSlice 24 5 #[(0, Operand.const (Value.string { data := #[120] })), (1, Operand.const (Value.string { data := #[121] })), (2, Operand.const (Value.string { data := #[105] })), (3, Operand.const (Value.string { data := #[110] })), (4, Operand.const (Value.string { data := #[107] }))], 24, _, _, none⟩) rfl (fun K hK => ?_) (AllReadyH.cons (i := 5) (o := ⟨some 9, Op.buildSlice 24 3 #[(0, Operand.const (Value.string { data := #[98] })), (1, Operand.const (Value.string { data := #[99] })), (2, Operand.const (Value.string { data := #[102] }))], 24, _, _, none⟩) rfl (fun K hK => ?_) (AllReadyH.cons (i := 7) (o := ⟨some 11, Op.call { callee := Callee.value (Operand.func 78), args := #[Operand.tmp 10, Operand.const (Value.int IntKind.i64 2)], argTypes := #[61, 3] }, 3, _, _, none⟩) rfl (fun K hK => ?_) (AllReadyH.cons (i := 11) (o := ⟨some 3, Op.alloc 27, 0, _, _, none⟩) rfl (fun K hK => ?_) AllReadyH.nil)))
   ·go_simp
    have HP := hide (unhide HP).litV
    refine hK.out _ _ trivial (fun hHeld => ?_)
    clear hK K
    generalize wz1.alloc (Obj.cells #[.string ⟨#[120]⟩, .string ⟨#[121]⟩, .string ⟨#[105]⟩, .string ⟨#[110]⟩, .string ⟨#[107]⟩] 9) = wz2 at HP ⊢
    try simp only [Act.put, sa, sb, sc]
    refine tk 4 (oi := ⟨some 8, Op.slice 24 (Operand.tmp 4) none (some (Operand.tmp 7)) none, 24, _, _, none⟩) (v := ?_) rfl ?_ ?_
    rotate_left
    ·(intro w9 hSw; go_simp; try with_reducible rfl)
    try simp only [Act.put, sa, sb, sc]
    refine wpAnyH_ready (rs := [5, 7, 11]) (by kernel_rfl) (by simp) ?_
    refine AllReadyH.cons (i := 5) (o := ⟨some 9, Op.buildSlice 24 3 #[(0, Operand.const (Value.string { data := #[98] })), (1, Operand.const (Value.string { data := #[99] })), (2, Operand.const (Value.string { data := #[102] }))], 24, _, _, none⟩) rfl (fun K hK => ?_) (AllReadyH.cons (i := 7) (o := ⟨some 11, Op.call { callee := Callee.value (Operand.func 78), args := #[Operand.tmp 10, Operand.const (Value.int IntKind.i64 2)], argTypes := #[61, 3] }, 3, _, _, none⟩) rfl (fun K hK => ?_) (AllReadyH.cons (i := 11) (o := ⟨some 3, Op.alloc 27, 0, _, _, none⟩) rfl (fun K hK => ?_) AllReadyH.nil))
    ·go_simp
     have HP := hide (unhide HP).litF
     refine hK.out _ _ trivial (fun hHeld => ?_)
     clear hK K
     generalize wz2.alloc (Obj.cells #[.string ⟨#[98]⟩, .string ⟨#[99]⟩, .string ⟨#[102]⟩] 9) = wz3 at HP ⊢
     try simp only [Act.put, sa, sb, sc]
     refine wpAnyH_ready (rs := [7, 11]) (by kernel_rfl) (by simp) ?_
     refine AllReadyH.cons (i := 7) (o := ⟨some 11, Op.call { callee := Callee.value (Operand.func 78), args := #[Operand.tmp 10, Operand.const (Value.int IntKind.i64 2)], argTypes := #[61, 3] }, 3, _, _, none⟩) rfl (fun K hK => ?_) (AllReadyH.cons (i := 11) (o := ⟨some 3, Op.alloc 27, 0, _, _, none⟩) rfl (fun K hK => ?_) AllReadyH.nil)
     ·go_simp
      refine (below_c _ _ _ _ _ (by decide) _ (unhide HP).1.1).mono ?_
      rintro e wz4 ⟨y, rfl, y0, y1, y2, hl⟩
      obtain ⟨j, rfl⟩ : ∃ k : Nat, y = k := ⟨y.toNat, by omega⟩
      obtain ⟨j0, j5, jw⟩ := lim_3 j (by omega)
      have HP := hide ((unhide HP).kp hbB hl)
      clear hl y0 y1 y2
      refine hK.out _ _ trivial (fun hHeld => ?_)
      clear hK K
      try simp only [Act.put, sa, sb, sc]
      refine tk 8 (oi := ⟨some 12, Op.binOp BinOp.add 3 (Operand.const (Value.int IntKind.i64 1)) (Operand.tmp 11) 3, 3, _, _, none⟩) (v := ?_) rfl ?_ ?_
      rotate_left
      ·(intro w9 hSw; go_simp; try with_reducible rfl)
      try simp only [Act.put, sa, sb, sc]
      refine tk 9 (oi := ⟨some 13, Op.slice 24 (Operand.tmp 9) none (some (Operand.tmp 12)) none, 24, _, _, none⟩) (v := ?_) rfl ?_ ?_
      rotate_left
      ·(intro w9 hSw; go_simp; try with_reducible rfl)
      try simp only [Act.put, sa, sb, sc]
      refine tk 10 (oi := ⟨some 14, Op.build 27 #[(0, Operand.tmp 8), (1, Operand.tmp 13)], 27, _, _, none⟩) (v := ?_) rfl ?_ ?_
      rotate_left
      ·(intro w9 hSw; go_simp; try with_reducible rfl)
      try simp only [Act.put, sa, sb, sc]
      refine wpAnyH_ready (rs := [11]) (by kernel_rfl) (by simp) ?_
      refine AllReadyH.cons (i := 11) (o := ⟨some 3, Op.alloc 27, 0, _, _, none⟩) rfl (fun K hK => ?_) AllReadyH.nil
      go_simp
      have HP := hide (unhide HP).box
      refine hK.out _ _ trivial (fun hHeld => ?_)
      clear hK K
      generalize wz4.alloc (Obj.cells #[.slice none 0 0, .slice none 0 0, .slice none 0 0] 27) = wz5 at HP ⊢
      try simp only [Act.put, sa, sb, sc]
      refine wpAnyH_ready (rs := [12]) (by kernel_rfl) (by simp) ?_
      refine AllReadyH.cons (i := 12) (o := ⟨none, Op.store 27 (Operand.tmp 3) (Operand.tmp 14), 0, _, _, none⟩) rfl (fun K hK => ?_) AllReadyH.nil
      have hc := (unhide HP).c3
      obtain ⟨q0, q1, q2, f⟩ := hc
      have f0 := f 0
      have f1 := f 1
      have f2 := f 2
      clear f
      go_simp
      refine hK.out _ _ trivial (fun hHeld => ?_)
      clear hK K q0 q1 q2 f0 f1 f2
      try simp only [Act.put, sa, sb, sc]
      refine wpAnyH_done (by kernel_rfl) ?_ _
      go_wp2
      go_meet
      exact (unhide HP).fin _ _ (by omega) (by omega) hbB (Nat.le_refl _) (unhide HC)
     ·go_simp
      have HP := hide (unhide HP).box
      refine hK.out _ _ trivial (fun hHeld => ?_)
      clear hK K
      generalize wz3.alloc (Obj.cells #[.slice none 0 0, .slice none 0 0, .slice none 0 0] 27) = wz4 at HP ⊢
      try simp only [Act.put, sa, sb, sc]
      refine wpAnyH_ready (rs := [7]) (by kernel_rfl) (by simp) ?_
      refine AllReadyH.cons (i := 7) (o := ⟨some 11, Op.call { callee := Callee.value (Operand.func 78), args := #[Operand.tmp 10, Operand.const (Value.int IntKind.i64 2)], argTypes := #[61, 3] }, 3, _, _, none⟩) rfl (fun K hK => ?_) AllReadyH.nil
      go_simp
      refine (below_c _ _ _ _ _ (by decide) _ (unhide HP).1.1).mono ?_
      rintro e wz5 ⟨y, rfl, y0, y1, y2, hl⟩
      obtain ⟨j, rfl⟩ : ∃ k : Nat, y = k := ⟨y.toNat, by omega⟩
      obtain ⟨j0, j5, jw⟩ := lim_3 j (by omega)
      have HP := hide ((unhide HP).kp hbB hl)
      clear hl y0 y1 y2
      refine hK.out _ _ trivial (fun hHeld => ?_)
      clear hK K
      try simp only [Act.put, sa, sb, sc]
      refine tk 8 (oi := ⟨some 12, Op.binOp BinOp.add 3 (Operand.const (Value.int IntKind.i64 1)) (Operand.tmp 11) 3, 3, _, _, none⟩) (v := ?_) rfl ?_ ?_
      rotate_left
      ·(intro w9 hSw; go_simp; try with_reducible rfl)
      try simp only [Act.put, sa, sb, sc]
      refine tk 9 (oi := ⟨some 13, Op.slice 24 (Operand.tmp 9) none (some (Operand.tmp 12)) none, 24, _, _, none⟩) (v := ?_) rfl ?_ ?_
      rotate_left
      ·(intro w9 hSw; go_simp; try with_reducible rfl)
      try simp only [Act.put, sa, sb, sc]
      refine tk 10 (oi := ⟨some 14, Op.build 27 #[(0, Operand.tmp 8), (1, Operand.tmp 13)], 27, _, _, none⟩) (v := ?_) rfl ?_ ?_
      rotate_left
      ·(intro w9 hSw; go_simp; try with_reducible rfl)
      try simp only [Act.put, sa, sb, sc]
      refine wpAnyH_ready (rs := [12]) (by kernel_rfl) (by simp) ?_
      refine AllReadyH.cons (i := 12) (o := ⟨none, Op.store 27 (Operand.tmp 3) (Operand.tmp 14), 0, _, _, none⟩) rfl (fun K hK => ?_) AllReadyH.nil
      have hc := (unhide HP).c3
      obtain ⟨q0, q1, q2, f⟩ := hc
      have f0 := f 0
      have f1 := f 1
      have f2 := f 2
      clear f
      go_simp
      refine hK.out _ _ trivial (fun hHeld => ?_)
      clear hK K q0 q1 q2 f0 f1 f2
      try simp only [Act.put, sa, sb, sc]
      refine wpAnyH_done (by kernel_rfl) ?_ _
      go_wp2
      go_meet
      exact (unhide HP).fin _ _ (by omega) (by omega) hbB (Nat.le_refl _) (unhide HC)
    ·go_simp
     refine (below_c _ _ _ _ _ (by decide) _ (unhide HP).1.1).mono ?_
     rintro e wz3 ⟨y, rfl, y0, y1, y2, hl⟩
     obtain ⟨j, rfl⟩ : ∃ k : Nat, y = k := ⟨y.toNat, by omega⟩
     obtain ⟨j0, j5, jw⟩ := lim_3 j (by omega)
     have HP := hide ((unhide HP).kp hbB hl)
     clear hl y0 y1 y2
     refine hK.out _ _ trivial (fun hHeld => ?_)
     clear hK K
     try simp only [Act.put, sa, sb, sc]
     refine tk 8 (oi := ⟨some 12, Op.binOp BinOp.add 3 (Operand.const (Value.int IntKind.i64 1)) (Operand.tmp 11) 3, 3, _, _, none⟩) (v := ?_) rfl ?_ ?_
     rotate_left
     ·(intro w9 hSw; go_simp; try with_reducible rfl)
     try simp only [Act.put, sa, sb, sc]
     refine wpAnyH_ready (rs := [5, 11]) (by kernel_rfl) (by simp) ?_
     refine AllReadyH.cons (i := 5) (o := ⟨some 9, Op.buildSlice 24 3 #[(0, Operand.const (Value.string { data := #[98] })), (1, Operand.const (Value.string { data := #[99] })), (2, Operand.const (Value.string { data := #[102] }))], 24, _, _, none⟩) rfl (fun K hK => ?_) (AllReadyH.cons (i := 11) (o := ⟨some 3, Op.alloc 27, 0, _, _, none⟩) rfl (fun K hK => ?_) AllReadyH.nil)
     ·go_simp
      have HP := hide (unhide HP).litF
      refine hK.out _ _ trivial (fun hHeld => ?_)
      clear hK K
      generalize wz3.alloc (Obj.cells #[.string ⟨#[98]⟩, .string ⟨#[99]⟩, .string ⟨#[102]⟩] 9) = wz4 at HP ⊢
      try simp only [Act.put, sa, sb, sc]
      refine tk 9 (oi := ⟨some 13, Op.slice 24 (Operand.tmp 9) none (some (Operand.tmp 12)) none, 24, _, _, none⟩) (v := ?_) rfl ?_ ?_
      rotate_left
      ·(intro w9 hSw; go_simp; try with_reducible rfl)
      try simp only [Act.put, sa, sb, sc]
      refine tk 10 (oi := ⟨some 14, Op.build 27 #[(0, Operand.tmp 8), (1, Operand.tmp 13)], 27, _, _, none⟩) (v := ?_) rfl ?_ ?_
      rotate_left
      ·(intro w9 hSw; go_simp; try with_reducible rfl)
      try simp only [Act.put, sa, sb, sc]
      refine wpAnyH_ready (rs := [11]) (by kernel_rfl) (by simp) ?_
      refine AllReadyH.cons (i := 11) (o := ⟨some 3, Op.alloc 27, 0, _, _, none⟩) rfl (fun K hK => ?_) AllReadyH.nil
      go_simp
      have HP := hide (unhide HP).box
      refine hK.out _ _ trivial (fun hHeld => ?_)
      clear hK K
      generalize wz4.alloc (Obj.cells #[.slice none 0 0, .slice none 0 0, .slice none 0 0] 27) = wz5 at HP ⊢
      try simp only [Act.put, sa, sb, sc]
      refine wpAnyH_ready (rs := [12]) (by kernel_rfl) (by simp) ?_
      refine AllReadyH.cons (i := 12) (o := ⟨none, Op.store 27 (Operand.tmp 3) (Operand.tmp 14), 0, _, _, none⟩) rfl (fun K hK => ?_) AllReadyH.nil
      have hc := (unhide HP).c3
      obtain ⟨q0, q1, q2, f⟩ := hc
      have f0 := f 0
      have f1 := f 1
      have f2 := f 2
      clear f
      go_simp
      refine hK.out _ _ trivial (fun hHeld => ?_)
      clear hK K q0 q1 q2 f0 f1 f2
      try simp only [Act.put, sa, sb, sc]
      refine wpAnyH_done (by kernel_rfl) ?_ _
      go_wp2
      go_meet
      exact (unhide HP).fin _ _ (by omega) (by omega) hbB (Nat.le_refl _) (unhide HC)
     ·go_simp
      have HP := hide (unhide HP).box
      refine hK.out _ _ trivial (fun hHeld => ?_)
      clear hK K
      generalize wz3.alloc (Obj.cells #[.slice none 0 0, .slice none 0 0, .slice none 0 0] 27) = wz4 at HP ⊢
      try simp only [Act.put, sa, sb, sc]
      refine wpAnyH_ready (rs := [5]) (by kernel_rfl) (by simp) ?_
      refine AllReadyH.cons (i := 5) (o := ⟨some 9, Op.buildSlice 24 3 #[(0, Operand.const (Value.string { data := #[98] })), (1, Operand.const (Value.string { data := #[99] })), (2, Operand.const (Value.string { data := #[102] }))], 24, _, _, none⟩) rfl (fun K hK => ?_) AllReadyH.nil
      go_simp
      have HP := hide (unhide HP).litF
      refine hK.out _ _ trivial (fun hHeld => ?_)
      clear hK K
      generalize wz4.alloc (Obj.cells #[.string ⟨#[98]⟩, .string ⟨#[99]⟩, .string ⟨#[102]⟩] 9) = wz5 at HP ⊢
      try simp only [Act.put, sa, sb, sc]
      refine tk 9 (oi := ⟨some 13, Op.slice 24 (Operand.tmp 9) none (some (Operand.tmp 12)) none, 24, _, _, none⟩) (v := ?_) rfl ?_ ?_
      rotate_left
      ·(intro w9 hSw; go_simp; try with_reducible rfl)
      try simp only [Act.put, sa, sb, sc]
      refine tk 10 (oi := ⟨some 14, Op.build 27 #[(0, Operand.tmp 8), (1, Operand.tmp 13)], 27, _, _, none⟩) (v := ?_) rfl ?_ ?_
      rotate_left
      ·(intro w9 hSw; go_simp; try with_reducible rfl)
      try simp only [Act.put, sa, sb, sc]
      refine wpAnyH_ready (rs := [12]) (by kernel_rfl) (by simp) ?_
      refine AllReadyH.cons (i := 12) (o := ⟨none, Op.store 27 (Operand.tmp 3) (Operand.tmp 14), 0, _, _, none⟩) rfl (fun K hK => ?_) AllReadyH.nil
      have hc := (unhide HP).c3
      obtain ⟨q0, q1, q2, f⟩ := hc
      have f0 := f 0
      have f1 := f 1
      have f2 := f 2
      clear f
      go_simp
      refine hK.out _ _ trivial (fun hHeld => ?_)
      clear hK K q0 q1 q2 f0 f1 f2
      try simp only [Act.put, sa, sb, sc]
      refine wpAnyH_done (by kernel_rfl) ?_ _
      go_wp2
      go_meet
      exact (unhide HP).fin _ _ (by omega) (by omega) hbB (Nat.le_refl _) (unhide HC)
    ·go_simp
     have HP := hide (unhide HP).box
     refine hK.out _ _ trivial (fun hHeld => ?_)
     clear hK K
     generalize wz2.alloc (Obj.cells #[.slice none 0 0, .slice none 0 0, .slice none 0 0] 27) = wz3 at HP ⊢
     try simp only [Act.put, sa, sb, sc]
     refine wpAnyH_ready (rs := [5, 7]) (by kernel_rfl) (by simp) ?_
     refine AllReadyH.cons (i := 5) (o := ⟨some 9, Op.buildSlice 24 3 #[(0, Operand.const (Value.string { data := #[98] })), (1, Operand.const (Value.string { data := #[99] })), (2, Operand.const (Value.string { data := #[102] }))], 24, _, _, none⟩) rfl (fun K hK => ?_) (AllReadyH.cons (i := 7) (o := ⟨some 11, Op.call { callee := Callee.value (Operand.func 78), args := #[Operand.tmp 10, Operand.const (Value.int IntKind.i64 2)], argTypes := #[61, 3] }, 3, _, _, none⟩) rfl (fun K hK => ?_) AllReadyH.nil)
     ·go_simp
      have HP := hide (unhide HP).litF
      refine hK.out _ _ trivial (fun hHeld => ?_)
      clear hK K
      generalize wz3.alloc (Obj.cells #[.string ⟨#[98]⟩, .string ⟨#[99]⟩, .string ⟨#[102]⟩] 9) = wz4 at HP ⊢
      try simp only [Act.put, sa, sb, sc]
      refine wpAnyH_ready (rs := [7]) (by kernel_rfl) (by simp) ?_
      refine AllReadyH.cons (i := 7) (o := ⟨some 11, Op.call { callee := Callee.value (Operand.func 78), args := #[Operand.tmp 10, Operand.const (Value.int IntKind.i64 2)], argTypes := #[61, 3] }, 3, _, _, none⟩) rfl (fun K hK => ?_) AllReadyH.nil
      go_simp
      refine (below_c _ _ _ _ _ (by decide) _ (unhide HP).1.1).mono ?_
      rintro e wz5 ⟨y, rfl, y0, y1, y2, hl⟩
      obtain ⟨j, rfl⟩ : ∃ k : Nat, y = k := ⟨y.toNat, by omega⟩
      obtain ⟨j0, j5, jw⟩ := lim_3 j (by omega)
      have HP := hide ((unhide HP).kp hbB hl)
      clear hl y0 y1 y2
      refine hK.out _ _ trivial (fun hHeld => ?_)
      clear hK K
      try simp only [Act.put, sa, sb, sc]
      refine tk 8 (oi := ⟨some 12, Op.binOp BinOp.add 3 (Operand.const (Value.int IntKind.i64 1)) (Operand.tmp 11) 3, 3, _, _, none⟩) (v := ?_) rfl ?_ ?_
      rotate_left
      ·(intro w9 hSw; go_simp; try with_reducible rfl)
      try simp only [Act.put, sa, sb, sc]
      refine tk 9 (oi := ⟨some 13, Op.slice 24 (Operand.tmp 9) none (some (Operand.tmp 12)) none, 24, _, _, none⟩) (v := ?_) rfl ?_ ?_
      rotate_left
      ·(intro w9 hSw; go_simp; try with_reducible rfl)
      try simp only [Act.put, sa, sb, sc]
      refine tk 10 (oi := ⟨some 14, Op.build 27 #[(0, Operand.tmp 8), (1, Operand.tmp 13)], 27, _, _, none⟩) (v := ?_) rfl ?_ ?_
      rotate_left
      ·(intro w9 hSw; go_simp; try with_reducible rfl)
      try simp only [Act.put, sa, sb, sc]
      refine wpAnyH_ready (rs := [12]) (by kernel_rfl) (by simp) ?_
      refine AllReadyH.cons (i := 12) (o := ⟨none, Op.store 27 (Operand.tmp 3) (Operand.tmp 14), 0, _, _, none⟩) rfl (fun K hK => ?_) AllReadyH.nil
      have hc := (unhide HP).c3
      obtain ⟨q0, q1, q2, f⟩ := hc
      have f0 := f 0
      have f1 := f 1
      have f2 := f 2
      clear f
      go_simp
      refine hK.out _ _ trivial (fun hHeld => ?_)
      clear hK K q0 q1 q2 f0 f1 f2
      try simp only [Act.put, sa, sb, sc]
      refine wpAnyH_done (by kernel_rfl) ?_ _
      go_wp2
      go_meet
      exact (unhide HP).fin _ _ (by omega) (by omega) hbB (Nat.le_refl _) (unhide HC)
     ·go_simp
      refine (below_c _ _ _ _ _ (by decide) _ (unhide HP).1.1).mono ?_
      rintro e wz4 ⟨y, rfl, y0, y1, y2, hl⟩
      obtain ⟨j, rfl⟩ : ∃ k : Nat, y = k := ⟨y.toNat, by omega⟩
      obtain ⟨j0, j5, jw⟩ := lim_3 j (by omega)
      have HP := hide ((unhide HP).kp hbB hl)
      clear hl y0 y1 y2
      refine hK.out _ _ trivial (fun hHeld => ?_)
      clear hK K
      try simp only [Act.put, sa, sb, sc]
      refine tk 8 (oi := ⟨some 12, Op.binOp BinOp.add 3 (Operand.const (Value.int IntKind.i64 1)) (Operand.tmp 11) 3, 3, _, _, none⟩) (v := ?_) rfl ?_ ?_
      rotate_left
      ·(intro w9 hSw; go_simp; try with_reducible rfl)
      try simp only [Act.put, sa, sb, sc]
      refine wpAnyH_ready (rs := [5]) (by kernel_rfl) (by simp) ?_
      refine AllReadyH.cons (i := 5) (o := ⟨some 9, Op.buildSlice 24 3 #[(0, Operand.const (Value.string { data := #[98] })), (1, Operand.const (Value.string { data := #[99] })), (2, Operand.const (Value.string { data := #[102] }))], 24, _, _, none⟩) rfl (fun K hK => ?_) AllReadyH.nil
      go_simp
      have HP := hide (unhide HP).litF
      refine hK.out _ _ trivial (fun hHeld => ?_)
      clear hK K
      generalize wz4.alloc (Obj.cells #[.string ⟨#[98]⟩, .string ⟨#[99]⟩, .string ⟨#[102]⟩] 9) = wz5 at HP ⊢
      try simp only [Act.put, sa, sb, sc]
      refine tk 9 (oi := ⟨some 13, Op.slice 24 (Operand.tmp 9) none (some (Operand.tmp 12)) none, 24, _, _, none⟩) (v := ?_) rfl ?_ ?_
      rotate_left
      ·(intro w9 hSw; go_simp; try with_reducible rfl)
      try simp only [Act.put, sa, sb, sc]
      refine tk 10 (oi := ⟨some 14, Op.build 27 #[(0, Operand.tmp 8), (1, Operand.tmp 13)], 27, _, _, none⟩) (v := ?_) rfl ?_ ?_
      rotate_left
      ·(intro w9 hSw; go_simp; try with_reducible rfl)
      try simp only [Act.put, sa, sb, sc]
      refine wpAnyH_ready (rs := [12]) (by kernel_rfl) (by simp) ?_
      refine AllReadyH.cons (i := 12) (o := ⟨none, Op.store 27 (Operand.tmp 3) (Operand.tmp 14), 0, _, _, none⟩) rfl (fun K hK => ?_) AllReadyH.nil
      have hc := (unhide HP).c3
      obtain ⟨q0, q1, q2, f⟩ := hc
      have f0 := f 0
      have f1 := f 1
      have f2 := f 2
      clear f
      go_simp
      refine hK.out _ _ trivial (fun hHeld => ?_)
      clear hK K q0 q1 q2 f0 f1 f2
      try simp only [Act.put, sa, sb, sc]
      refine wpAnyH_done (by kernel_rfl) ?_ _
      go_wp2
      go_meet
      exact (unhide HP).fin _ _ (by omega) (by omega) hbB (Nat.le_refl _) (unhide HC)
   ·go_simp
    have HP := hide (unhide HP).litF
    refine hK.out _ _ trivial (fun hHeld => ?_)
    clear hK K
    generalize wz1.alloc (Obj.cells #[.string ⟨#[98]⟩, .string ⟨#[99]⟩, .string ⟨#[102]⟩] 9) = wz2 at HP ⊢
    try simp only [Act.put, sa, sb, sc]
    refine wpAnyH_ready (rs := [0, 7, 11]) (by kernel_rfl) (by simp) ?_
    refine AllReadyH.cons (i := 0) (o := ⟨some 4, Op.buildSlice 24 5 #[(0, Operand.const (Value.string { data := #[120] })), (1, Operand.const (Value.string { data := #[121] })), (2, Operand.const (Value.string { data := #[105] })), (3, Operand.const (Value.string { data := #[110] })), (4, Operand.const (Value.string { data := #[107] }))], 24, _, _, none⟩) rfl (fun K hK => ?_) (AllReadyH.cons (i := 7) (o := ⟨some 11, Op.call { callee := Callee.value (Operand.func 78), args := #[Operand.tmp 10, Operand.const (Value.int IntKind.i64 2)], argTypes := #[61, 3] }, 3, _, _, none⟩) rfl (fun K hK => ?_) (AllReadyH.cons (i := 11) (o := ⟨some 3, Op.alloc 27, 0, _, _, none⟩) rfl (fun K hK => ?_) AllReadyH.nil))
    ·go_simp
     have HP := hide (unhide HP).litV
     refine hK.out _ _ trivial (fun hHeld => ?_)
     clear hK K
     generalize wz2.alloc (Obj.cells #[.string ⟨#[120]⟩, .string ⟨#[121]⟩, .string ⟨#[105]⟩, .string ⟨#[110]⟩, .string ⟨#[107]⟩] 9) = wz3 at HP ⊢
     try simp only [Act.put, sa, sb, sc]
     refine tk 4 (oi := ⟨some 8, Op.slice 24 (Operand.tmp 4) none (some (Operand.tmp 7)) none, 24, _, _, none⟩) (v := ?_) rfl ?_ ?_
     rotate_left
     ·(intro w9 hSw; go_simp; try with_reducible rfl)
     try simp only [Act.put, sa, sb, sc]
     refine wpAnyH_ready (rs := [7, 11]) (by kernel_rfl) (by simp) ?_
     refine AllReadyH.cons (i := 7) (o := ⟨some 11, Op.call { callee := Callee.value (Operand.func 78), args := #[Operand.tmp 10, Operand.const (Value.int IntKind.i64 2)], argTypes := #[61, 3] }, 3, _, _, none⟩) rfl (fun K hK => ?_) (AllReadyH.cons (i := 11) (o := ⟨some 3, Op.alloc 27, 0, _, _, none⟩) rfl (fun K hK => ?_) AllReadyH.nil)
     ·go_simp
      refine (below_c _ _ _ _ _ (by decide) _ (unhide HP).1.1).mono ?_
      rintro e wz4 ⟨y, rfl, y0, y1, y2, hl⟩
      obtain ⟨j, rfl⟩ : ∃ k : Nat, y = k := ⟨y.toNat, by omega⟩
      obtain ⟨j0, j5, jw⟩ := lim_3 j (by omega)
      have HP := hide ((unhide HP).kp hbB hl)
      clear hl y0 y1 y2
      refine hK.out _ _ trivial (fun hHeld => ?_)
      clear hK K
      try simp only [Act.put, sa, sb, sc]
      refine tk 8 (oi := ⟨some 12, Op.binOp BinOp.add 3 (Operand.const (Value.int IntKind.i64 1)) (Operand.tmp 11) 3, 3, _, _, none⟩) (v := ?_) rfl ?_ ?_
      rotate_left
      ·(intro w9 hSw; go_simp; try with_reducible rfl)
      try simp only [Act.put, sa, sb, sc]
      refine tk 9 (oi := ⟨some 13, Op.slice 24 (Operand.tmp 9) none (some (Operand.tmp 12)) none, 24, _, _, none⟩) (v := ?_) rfl ?_ ?_
      rotate_left
      ·(intro w9 hSw; go_simp; try with_reducible rfl)
      try simp only [Act.put, sa, sb, sc]
      refine tk 10 (oi := ⟨some 14, Op.build 27 #[(0, Operand.tmp 8), (1, Operand.tmp 13)], 27, _, _, none⟩) (v := ?_) rfl ?_ ?_
      rotate_left
      ·(intro w9 hSw; go_simp; try with_reducible rfl)
      try simp only [Act.put, sa, sb, sc]
      refine wpAnyH_ready (rs := [11]) (by kernel_rfl) (by simp) ?_
      refine AllReadyH.cons (i := 11) (o := ⟨some 3, Op.alloc 27, 0, _, _, none⟩) rfl (fun K hK => ?_) AllReadyH.nil
      go_simp
      have HP := hide (unhide HP).box
      refine hK.out _ _ trivial (fun hHeld => ?_)
      clear hK K
      generalize wz4.alloc (Obj.cells #[.slice none 0 0, .slice none 0 0, .slice none 0 0] 27) = wz5 at HP ⊢
      try simp only [Act.put, sa, sb, sc]
      refine wpAnyH_ready (rs := [12]) (by kernel_rfl) (by simp) ?_
      refine AllReadyH.cons (i := 12) (o := ⟨none, Op.store 27 (Operand.tmp 3) (Operand.tmp 14), 0, _, _, none⟩) rfl (fun K hK => ?_) AllReadyH.nil
      have hc := (unhide HP).c3
      obtain ⟨q0, q1, q2, f⟩ := hc
      have f0 := f 0
      have f1 := f 1
      have f2 := f 2
      clear f
      go_simp
      refine hK.out _ _ trivial (fun hHeld => ?_)
      clear hK K q0 q1 q2 f0 f1 f2
      try simp only [Act.put, sa, sb, sc]
      refine wpAnyH_done (by kernel_rfl) ?_ _
      go_wp2
      go_meet
      exact (unhide HP).fin _ _ (by omega) (by omega) hbB (Nat.le_refl _) (unhide HC)
     ·go_simp
      have HP := hide (unhide HP).box
      refine hK.out _ _ trivial (fun hHeld => ?_)
      clear hK K
      generalize wz3.alloc (Obj.cells #[.slice none 0 0, .slice none 0 0, .slice none 0 0] 27) = wz4 at HP ⊢
      try simp only [Act.put, sa, sb, sc]
      refine wpAnyH_ready (rs := [7]) (by kernel_rfl) (by simp) ?_
      refine AllReadyH.cons (i := 7) (o := ⟨some 11, Op.call { callee := Callee.value (Operand.func 78), args := #[Operand.tmp 10, Operand.const (Value.int IntKind.i64 2)], argTypes := #[61, 3] }, 3, _, _, none⟩) rfl (fun K hK => ?_) AllReadyH.nil
      go_simp
      refine (below_c _ _ _ _ _ (by decide) _ (unhide HP).1.1).mono ?_
      rintro e wz5 ⟨y, rfl, y0, y1, y2, hl⟩
      obtain ⟨j, rfl⟩ : ∃ k : Nat, y = k := ⟨y.toNat, by omega⟩
      obtain ⟨j0, j5, jw⟩ := lim_3 j (by omega)
      have HP := hide ((unhide HP).kp hbB hl)
      clear hl y0 y1 y2
      refine hK.out _ _ trivial (fun hHeld => ?_)
      clear hK K
      try simp only [Act.put, sa, sb, sc]
      refine tk 8 (oi := ⟨some 12, Op.binOp BinOp.add 3 (Operand.const (Value.int IntKind.i64 1)) (Operand.tmp 11) 3, 3, _, _, none⟩) (v := ?_) rfl ?_ ?_
      rotate_left
      ·(intro w9 hSw; go_simp; try with_reducible rfl)
      try simp only [Act.put, sa, sb, sc]
      refine tk 9 (oi := ⟨some 13, Op.slice 24 (Operand.tmp 9) none (some (Operand.tmp 12)) none, 24, _, _, none⟩) (v := ?_) rfl ?_ ?_
      rotate_left
      ·(intro w9 hSw; go_simp; try with_reducible rfl)
      try simp only [Act.put, sa, sb, sc]
      refine tk 10 (oi := ⟨some 14, Op.build 27 #[(0, Operand.tmp 8), (1, Operand.tmp 13)], 27, _, _, none⟩) (v := ?_) rfl ?_ ?_
      rotate_left
      ·(intro w9 hSw; go_simp; try with_reducible rfl)
      try simp only [Act.put, sa, sb, sc]
      refine wpAnyH_ready (rs := [12]) (by kernel_rfl) (by simp) ?_
      refine AllReadyH.cons (i := 12) (o := ⟨none, Op.store 27 (Operand.tmp 3) (Operand.tmp 14), 0, _, _, none⟩) rfl (fun K hK => ?_) AllReadyH.nil
      have hc := (unhide HP).c3
      obtain ⟨q0, q1, q2, f⟩ := hc
      have f0 := f 0
      have f1 := f 1
      have f2 := f 2
      clear f
      go_simp
      refine hK.out _ _ trivial (fun hHeld => ?_)
      clear hK K q0 q1 q2 f0 f1 f2
      try simp only [Act.put, sa, sb, sc]
      refine wpAnyH_done (by kernel_rfl) ?_ _
      go_wp2
      go_meet
      exact (unhide HP).fin _ _ (by omega) (by omega) hbB (Nat.le_refl _) (unhide HC)
    ·go_simp
     refine (below_c _ _ _ _ _ (by decide) _ (unhide HP).1.1).mono ?_
     rintro e wz3 ⟨y, rfl, y0, y1, y2, hl⟩
     obtain ⟨j, rfl⟩ : ∃ k : Nat, y = k := ⟨y.toNat, by omega⟩
     obtain ⟨j0, j5, jw⟩ := lim_3 j (by omega)
     have HP := hide ((unhide HP).kp hbB hl)
     clear hl y0 y1 y2
     refine hK.out _ _ trivial (fun hHeld => ?_)
     clear hK K
     try simp only [Act.put, sa, sb, sc]
     refine tk 8 (oi := ⟨some 12, Op.binOp BinOp.add 3 (Operand.const (Value.int IntKind.i64 1)) (Operand.tmp 11) 3, 3, _, _, none⟩) (v := ?_) rfl ?_ ?_
     rotate_left
     ·(intro w9 hSw; go_simp; try with_reducible rfl)
     try simp only [Act.put, sa, sb, sc]
     refine tk 9 (oi := ⟨some 13, Op.slice 24 (Operand.tmp 9) none (some (Operand.tmp 12)) none, 24, _, _, none⟩) (v := ?_) rfl ?_ ?_
     rotate_left
     ·(intro w9 hSw; go_simp; try with_reducible rfl)
     try simp only [Act.put, sa, sb, sc]
     refine wpAnyH_ready (rs := [0, 11]) (by kernel_rfl) (by simp) ?_
     refine AllReadyH.cons (i := 0) (o := ⟨some 4, Op.buildSlice 24 5 #[(0, Operand.const (Value.string { data := #[120] })), (1, Operand.const (Value.string { data := #[121] })), (2, Operand.const (Value.string { data := #[105] })), (3, Operand.const (Value.string { data := #[110] })), (4, Operand.const (Value.string { data := #[107] }))], 24, _, _, none⟩) rfl (fun K hK => ?_) (AllReadyH.cons (i := 11) (o := ⟨some 3, Op.alloc 27, 0, _, _, none⟩) rfl (fun K hK => ?_) AllReadyH.nil)
     ·go_simp
      have HP := hide (unhide HP).litV
      refine hK.out _ _ trivial (fun hHeld => ?_)
      clear hK K
      generalize wz3.alloc (Obj.cells #[.string ⟨#[120]⟩, .string ⟨#[121]⟩, .string ⟨#[105]⟩, .string ⟨#[110]⟩, .string ⟨#[107]⟩] 9) = wz4 at HP ⊢
      try simp only [Act.put, sa, sb, sc]
      refine tk 4 (oi := ⟨some 8, Op.slice 24 (Operand.tmp 4) none (some (Operand.tmp 7)) none, 24, _, _, none⟩) (v := ?_) rfl ?_ ?_
      rotate_left
      ·(intro w9 hSw; go_simp; try with_reducible rfl)
      try simp only [Act.put, sa, sb, sc]
      refine tk 10 (oi := ⟨some 14, Op.build 27 #[(0, Operand.tmp 8), (1, Operand.tmp 13)], 27, _, _, none⟩) (v := ?_) rfl ?_ ?_
      rotate_left
      ·(intro w9 hSw; go_simp; try with_reducible rfl)
      try simp only [Act.put, sa, sb, sc]
      refine wpAnyH_ready (rs := [11]) (by kernel_rfl) (by simp) ?_
      refine AllReadyH.cons (i := 11) (o := ⟨some 3, Op.alloc 27, 0, _, _, none⟩) rfl (fun K hK => ?_) AllReadyH.nil
      go_simp
      have HP := hide (unhide HP).box
      refine hK.out _ _ trivial (fun hHeld => ?_)
      clear hK K
      generalize wz4.alloc (Obj.cells #[.slice none 0 0, .slice none 0 0, .slice none 0 0] 27) = wz5 at HP ⊢
      try simp only [Act.put, sa, sb, sc]
      refine wpAnyH_ready (rs := [12]) (by kernel_rfl) (by simp) ?_
      refine AllReadyH.cons (i := 12) (o := ⟨none, Op.store 27 (Operand.tmp 3) (Operand.tmp 14), 0, _, _, none⟩) rfl (fun K hK => ?_) AllReadyH.nil
      have hc := (unhide HP).c3
      obtain ⟨q0, q1, q2, f⟩ := hc
      have f0 := f 0
      have f1 := f 1
      have f2 := f 2
      clear f
      go_simp
      refine hK.out _ _ trivial (fun hHeld => ?_)
      clear hK K q0 q1 q2 f0 f1 f2
      try simp only [Act.put, sa, sb, sc]
      refine wpAnyH_done (by kernel_rfl) ?_ _
      go_wp2
      go_meet
      exact (unhide HP).fin _ _ (by omega) (by omega) hbB (Nat.le_refl _) (unhide HC)
     ·go_simp
      have HP := hide (unhide HP).box
      refine hK.out _ _ trivial (fun hHeld => ?_)
      clear hK K
      generalize wz3.alloc (Obj.cells #[.slice none 0 0, .slice none 0 0, .slice none 0 0] 27) = wz4 at HP ⊢
      try simp only [Act.put, sa, sb, sc]
      refine wpAnyH_ready (rs := [0]) (by kernel_rfl) (by simp) ?_
      refine AllReadyH.cons (i := 0) (o := ⟨some 4, Op.buildSlice 24 5 #[(0, Operand.const (Value.string { data := #[120] })), (1, Operand.const (Value.string { data := #[121] })), (2, Operand.const (Value.string { data := #[105] })), (3, Operand.const (Value.string { data := #[110] })), (4, Operand.const (Value.string { data := #[107] }))], 24, _, _, none⟩) rfl (fun K hK => ?_) AllReadyH.nil
      go_simp
      have HP := hide (unhide HP).litV
      refine hK.out _ _ trivial (fun hHeld => ?_)
      clear hK K
      generalize wz4.alloc (Obj.cells #[.string ⟨#[120]⟩, .string ⟨#[121]⟩, .string ⟨#[105]⟩, .string ⟨#[110]⟩, .string ⟨#[107]⟩] 9) = wz5 at HP ⊢
      try simp only [Act.put, sa, sb, sc]
      refine tk 4 (oi := ⟨some 8, Op.slice 24 (Operand.tmp 4) none (some (Operand.tmp 7)) none, 24, _, _, none⟩) (v := ?_) rfl ?_ ?_
      rotate_left
      ·(intro w9 hSw; go_simp; try with_reducible rfl)
      try simp only [Act.put, sa, sb, sc]
      refine tk 10 (oi := ⟨some 14, Op.build 27 #[(0, Operand.tmp 8), (1, Operand.tmp 13)], 27, _, _, none⟩) (v := ?_) rfl ?_ ?_
      rotate_left
      ·(intro w9 hSw; go_simp; try with_reducible rfl)
      try simp only [Act.put, sa, sb, sc]
      refine wpAnyH_ready (rs := [12]) (by kernel_rfl) (by simp) ?_
      refine AllReadyH.cons (i := 12) (o := ⟨none, Op.store 27 (Operand.tmp 3) (Operand.tmp 14), 0, _, _, none⟩) rfl (fun K hK => ?_) AllReadyH.nil
      have hc := (unhide HP).c3
      obtain ⟨q0, q1, q2, f⟩ := hc
      have f0 := f 0
      have f1 := f 1
      have f2 := f 2
      clear f
      go_simp
      refine hK.out _ _ trivial (fun hHeld => ?_)
      clear hK K q0 q1 q2 f0 f1 f2
      try simp only [Act.put, sa, sb, sc]
      refine wpAnyH_done (by kernel_rfl) ?_ _
      go_wp2
      go_meet
      exact (unhide HP).fin _ _ (by omega) (by omega) hbB (Nat.le_refl _) (unhide HC)
    ·go_simp
     have HP := hide (unhide HP).box
     refine hK.out _ _ trivial (fun hHeld => ?_)
     clear hK K
     generalize wz2.alloc (Obj.cells #[.slice none 0 0, .slice none 0 0, .slice none 0 0] 27) = wz3 at HP ⊢
     try simp only [Act.put, sa, sb, sc]
     refine wpAnyH_ready (rs := [0, 7]) (by kernel_rfl) (by simp) ?_
     refine AllReadyH.cons (i := 0) (o := ⟨some 4, Op.buildSlice 24 5 #[(0, Operand.const (Value.string { data := #[120] })), (1, Operand.const (Value.string { data := #[121] })), (2, Operand.const (Value.string { data := #[105] })), (3, Operand.const (Value.string { data := #[110] })), (4, Operand.const (Value.string { data := #[107] }))], 24, _, _, none⟩) rfl (fun K hK => ?_) (AllReadyH.cons (i := 7) (o := ⟨some 11, Op.call { callee := Callee.value (Operand.func 78), args := #[Operand.tmp 10, Operand.const (Value.int IntKind.i64 2)], argTypes := #[61, 3] }, 3, _, _, none⟩) rfl (fun K hK => ?_) AllReadyH.nil)
     ·go_simp
      have HP := hide (unhide HP).litV
      refine hK.out _ _ trivial (fun hHeld => ?_)
      clear hK K
      generalize wz3.alloc (Obj.cells #[.string ⟨#[120]⟩, .string ⟨#[121]⟩, .string ⟨#[105]⟩, .string ⟨#[110]⟩, .string ⟨#[107]⟩] 9) = wz4 at HP ⊢
      try simp only [Act.put, sa, sb, sc]
      refine tk 4 (oi := ⟨some 8, Op.slice 24 (Operand.tmp 4) none (some (Operand.tmp 7)) none, 24, _, _, none⟩) (v := ?_) rfl ?_ ?_
      rotate_left
      ·(intro w9 hSw; go_simp; try with_reducible rfl)
      try simp only [Act.put, sa, sb, sc]
      refine wpAnyH_ready (rs := [7]) (by kernel_rfl) (by simp) ?_
      refine AllReadyH.cons (i := 7) (o := ⟨some 11, Op.call { callee := Callee.value (Operand.func 78), args := #[Operand.tmp 10, Operand.const (Value.int IntKind.i64 2)], argTypes := #[61, 3] }, 3, _, _, none⟩) rfl (fun K hK => ?_) AllReadyH.nil
      go_simp
      refine (below_c _ _ _ _ _ (by decide) _ (unhide HP).1.1).mono ?_
      rintro e wz5 ⟨y, rfl, y0, y1, y2, hl⟩
      obtain ⟨j, rfl⟩ : ∃ k : Nat, y = k := ⟨y.toNat, by omega⟩
      obtain ⟨j0, j5, jw⟩ := lim_3 j (by omega)
      have HP := hide ((unhide HP).kp hbB hl)
      clear hl y0 y1 y2
      refine hK.out _ _ trivial (fun hHeld => ?_)
      clear hK K
      try simp only [Act.put, sa, sb, sc]
      refine tk 8 (oi := ⟨some 12, Op.binOp BinOp.add 3 (Operand.const (Value.int IntKind.i64 1)) (Operand.tmp 11) 3, 3, _, _, none⟩) (v := ?_) rfl ?_ ?_
      rotate_left
      ·(intro w9 hSw; go_simp; try with_reducible rfl)
      try simp only [Act.put, sa, sb, sc]
      refine tk 9 (oi := ⟨some 13, Op.slice 24 (Operand.tmp 9) none (some (Operand.tmp 12)) none, 24, _, _, none⟩) (v := ?_) rfl ?_ ?_
      rotate_left
      ·(intro w9 hSw; go_simp; try with_reducible rfl)
      try simp only [Act.put, sa, sb, sc]
      refine tk 10 (oi := ⟨some 14, Op.build 27 #[(0, Operand.tmp 8), (1, Operand.tmp 13)], 27, _, _, none⟩) (v := ?_) rfl ?_ ?_
      rotate_left
      ·(intro w9 hSw; go_simp; try with_reducible rfl)
      try simp only [Act.put, sa, sb, sc]
      refine wpAnyH_ready (rs := [12]) (by kernel_rfl) (by simp) ?_
      refine AllReadyH.cons (i := 12) (o := ⟨none, Op.store 27 (Operand.tmp 3) (Operand.tmp 14), 0, _, _, none⟩) rfl (fun K hK => ?_) AllReadyH.nil
      have hc := (unhide HP).c3
      obtain ⟨q0, q1, q2, f⟩ := hc
      have f0 := f 0
      have f1 := f 1
      have f2 := f 2
      clear f
      go_simp
      refine hK.out _ _ trivial (fun hHeld => ?_)
      clear hK K q0 q1 q2 f0 f1 f2
      try simp only [Act.put, sa, sb, sc]
      refine wpAnyH_done (by kernel_rfl) ?_ _
      go_wp2
      go_meet
      exact (unhide HP).fin _ _ (by omega) (by omega) hbB (Nat.le_refl _) (unhide HC)
     ·go_simp
      refine (below_c _ _ _ _ _ (by decide) _ (unhide HP).1.1).mono ?_
      rintro e wz4 ⟨y, rfl, y0, y1, y2, hl⟩
      obtain ⟨j, rfl⟩ : ∃ k : Nat, y = k := ⟨y.toNat, by omega⟩
      obtain ⟨j0, j5, jw⟩ := lim_3 j (by omega)
      have HP := hide ((unhide HP).kp hbB hl)
      clear hl y0 y1 y2
      refine hK.out _ _ trivial (fun hHeld => ?_)
      clear hK K
      try simp only [Act.put, sa, sb, sc]
      refine tk 8 (oi := ⟨some 12, Op.binOp BinOp.add 3 (Operand.const (Value.int IntKind.i64 1)) (Operand.tmp 11) 3, 3, _, _, none⟩) (v := ?_) rfl ?_ ?_
      rotate_left
      ·(intro w9 hSw; go_simp; try with_reducible rfl)
      try simp only [Act.put, sa, sb, sc]
      refine tk 9 (oi := ⟨some 13, Op.slice 24 (Operand.tmp 9) none (some (Operand.tmp 12)) none, 24, _, _, none⟩) (v := ?_) rfl ?_ ?_
      rotate_left
      ·(intro w9 hSw; go_simp; try with_reducible rfl)
      try simp only [Act.put, sa, sb, sc]
      refine wpAnyH_ready (rs := [0]) (by kernel_rfl) (by simp) ?_
      refine AllReadyH.cons (i := 0) (o := ⟨some 4, Op.buildSlice 24 5 #[(0, Operand.const (Value.string { data := #[120] })), (1, Operand.const (Value.string { data := #[121] })), (2, Operand.const (Value.string { data := #[105] })), (3, Operand.const (Value.string { data := #[110] })), (4, Operand.const (Value.string { data := #[107] }))], 24, _, _, none⟩) rfl (fun K hK => ?_) AllReadyH.nil
      go_simp
      have HP := hide (unhide HP).litV
      refine hK.out _ _ trivial (fun hHeld => ?_)
      clear hK K
      generalize wz4.alloc (Obj.cells #[.string ⟨#[120]⟩, .string ⟨#[121]⟩, .string ⟨#[105]⟩, .string ⟨#[110]⟩, .string ⟨#[107]⟩] 9) = wz5 at HP ⊢
      try simp only [Act.put, sa, sb, sc]
      refine tk 4 (oi := ⟨some 8, Op.slice 24 (Operand.tmp 4) none (some (Operand.tmp 7)) none, 24, _, _, none⟩) (v := ?_) rfl ?_ ?_
      rotate_left
      ·(intro w9 hSw; go_simp; try with_reducible rfl)
      try simp only [Act.put, sa, sb, sc]
      refine tk 10 (oi := ⟨some 14, Op.build 27 #[(0, Operand.tmp 8), (1, Operand.tmp 13)], 27, _, _, none⟩) (v := ?_) rfl ?_ ?_
      rotate_left
      ·(intro w9 hSw; go_simp; try with_reducible rfl)
      try simp only [Act.put, sa, sb, sc]
      refine wpAnyH_ready (rs := [12]) (by kernel_rfl) (by simp) ?_
      refine AllReadyH.cons (i := 12) (o := ⟨none, Op.store 27 (Operand.tmp 3) (Operand.tmp 14), 0, _, _, none⟩) rfl (fun K hK => ?_) AllReadyH.nil
      have hc := (unhide HP).c3
      obtain ⟨q0, q1, q2, f⟩ := hc
      have f0 := f 0
      have f1 := f 1
      have f2 := f 2
      clear f
      go_simp
      refine hK.out _ _ trivial (fun hHeld => ?_)
      clear hK K q0 q1 q2 f0 f1 f2
      try simp only [Act.put, sa, sb, sc]
      refine wpAnyH_done (by kernel_rfl) ?_ _
      go_wp2
      go_meet
      exact (unhide HP).fin _ _ (by omega) (by omega) hbB (Nat.le_refl _) (unhide HC)
   ·go_simp
    refine (below_c _ _ _ _ _ (by decide) _ (unhide HP).1.1).mono ?_
    rintro e wz2 ⟨y, rfl, y0, y1, y2, hl⟩
    obtain ⟨j, rfl⟩ : ∃ k : Nat, y = k := ⟨y.toNat, by omega⟩
    obtain ⟨j0, j5, jw⟩ := lim_3 j (by omega)
    have HP := hide ((unhide HP).kp hbB hl)
    clear hl y0 y1 y2
    refine hK.out _ _ trivial (fun hHeld => ?_)
    clear hK K
    try simp only [Act.put, sa, sb, sc]
    refine tk 8 (oi := ⟨some 12, Op.binOp BinOp.add 3 (Operand.const (Value.int IntKind.i64 1)) (Operand.tmp 11) 3, 3, _, _, none⟩) (v := ?_) rfl ?_ ?_
    rotate_left
    ·(intro w9 hSw; go_simp; try with_reducible rfl)
    try simp only [Act.put, sa, sb, sc]
    refine wpAnyH_ready (rs := [0, 5, 11]) (by kernel_rfl) (by simp) ?_
    refine AllReadyH.cons (i := 0) (o := ⟨some 4, Op.buildSlice 24 5 #[(0, Operand.const (Value.string { data := #[120] })), (1, Operand.const (Value.string { data := #[121] })), (2, Operand.const (Value.string { data := #[105] })), (3, Operand.const (Value.string { data := #[110] })), (4, Operand.const (Value.string { data := #[107] }))], 24, _, _, none⟩) rfl (fun K hK => ?_) (AllReadyH.cons (i := 5) (o := ⟨some 9, Op.buildSlice 24 3 #[(0, Operand.const (Value.string { data := #[98] })), (1, Operand.const (Value.string { data := #[99] })), (2, Operand.const (Value.string { data := #[102] }))], 24, _, _, none⟩) rfl (fun K hK => ?_) (AllReadyH.cons (i := 11) (o := ⟨some 3, Op.alloc 27, 0, _, _, none⟩) rfl (fun K hK => ?_) AllReadyH.nil))
    ·go_simp
     have HP := hide (unhide HP).litV
     refine hK.out _ _ trivial (fun hHeld => ?_)
     clear hK K
     generalize wz2.alloc (Obj.cells #[.string ⟨#[120]⟩, .string ⟨#[121]⟩, .string ⟨#[105]⟩, .string ⟨#[110]⟩, .string ⟨#[107]⟩] 9) = wz3 at HP ⊢
     try simp only [Act.put, sa, sb, sc]
     refine tk 4 (oi := ⟨some 8, Op.slice 24 (Operand.tmp 4) none (some (Operand.tmp 7)) none, 24, _, _, none⟩) (v := ?_) rfl ?_ ?_
     rotate_left
     ·(intro w9 hSw; go_simp; try with_reducible rfl)
     try simp only [Act.put, sa, sb, sc]
     refine wpAnyH_ready (rs := [5, 11]) (by kernel_rfl) (by simp) ?_
     refine AllReadyH.cons (i := 5) (o := ⟨some 9, Op.buildSlice 24 3 #[(0, Operand.const (Value.string { data := #[98] })), (1, Operand.const (Value.string { data := #[99] })), (2, Operand.const (Value.string { data := #[102] }))], 24, _, _, none⟩) rfl (fun K hK => ?_) (AllReadyH.cons (i := 11) (o := ⟨some 3, Op.alloc 27, 0, _, _, none⟩) rfl (fun K hK => ?_) AllReadyH.nil)
     ·go_simp
      have HP := hide (unhide HP).litF
      refine hK.out _ _ trivial (fun hHeld => ?_)
      clear hK K
      generalize wz3.alloc (Obj.cells #[.string ⟨#[98]⟩, .string ⟨#[99]⟩, .string ⟨#[102]⟩] 9) = wz4 at HP ⊢
      try simp only [Act.put, sa, sb, sc]
      refine tk 9 (oi := ⟨some 13, Op.slice 24 (Operand.tmp 9) none (some (Operand.tmp 12)) none, 24, _, _, none⟩) (v := ?_) rfl ?_ ?_
      rotate_left
      ·(intro w9 hSw; go_simp; try with_reducible rfl)
      try simp only [Act.put, sa, sb, sc]
      refine tk 10 (oi := ⟨some 14, Op.build 27 #[(0, Operand.tmp 8), (1, Operand.tmp 13)], 27, _, _, none⟩) (v := ?_) rfl ?_ ?_
      rotate_left
      ·(intro w9 hSw; go_simp; try with_reducible rfl)
      try simp only [Act.put, sa, sb, sc]
      refine wpAnyH_ready (rs := [11]) (by kernel_rfl) (by simp) ?_
      refine AllReadyH.cons (i := 11) (o := ⟨some 3, Op.alloc 27, 0, _, _, none⟩) rfl (fun K hK => ?_) AllReadyH.nil
      go_simp
      have HP := hide (unhide HP).box
      refine hK.out _ _ trivial (fun hHeld => ?_)
      clear hK K
      generalize wz4.alloc (Obj.cells #[.slice none 0 0, .slice none 0 0, .slice none 0 0] 27) = wz5 at HP ⊢
      try simp only [Act.put, sa, sb, sc]
      refine wpAnyH_ready (rs := [12]) (by kernel_rfl) (by simp) ?_
      refine AllReadyH.cons (i := 12) (o := ⟨none, Op.store 27 (Operand.tmp 3) (Operand.tmp 14), 0, _, _, none⟩) rfl (fun K hK => ?_) AllReadyH.nil
      have hc := (unhide HP).c3
      obtain ⟨q0, q1, q2, f⟩ := hc
      have f0 := f 0
      have f1 := f 1
      have f2 := f 2
      clear f
      go_simp
      refine hK.out _ _ trivial (fun hHeld => ?_)
      clear hK K q0 q1 q2 f0 f1 f2
      try simp only [Act.put, sa, sb, sc]
      refine wpAnyH_done (by kernel_rfl) ?_ _
      go_wp2
      go_meet
      exact (unhide HP).fin _ _ (by omega) (by omega) hbB (Nat.le_refl _) (unhide HC)
     ·go_simp
      have HP := hide (unhide HP).box
      refine hK.out _ _ trivial (fun hHeld => ?_)
      clear hK K
      generalize wz3.alloc (Obj.cells #[.slice none 0 0, .slice none 0 0, .slice none 0 0] 27) = wz4 at HP ⊢
      try simp only [Act.put, sa, sb, sc]
      refine wpAnyH_ready (rs := [5]) (by kernel_rfl) (by simp) ?_
      refine AllReadyH.cons (i := 5) (o := ⟨some 9, Op.buildSlice 24 3 #[(0, Operand.const (Value.string { data := #[98] })), (1, Operand.const (Value.string { data := #[99] })), (2, Operand.const (Value.string { data := #[102] }))], 24, _, _, none⟩) rfl (fun K hK => ?_) AllReadyH.nil
      go_simp
      have HP := hide (unhide HP).litF
      refine hK.out _ _ trivial (fun hHeld => ?_)
      clear hK K
      generalize wz4.alloc (Obj.cells #[.string ⟨#[98]⟩, .string ⟨#[99]⟩, .string ⟨#[102]⟩] 9) = wz5 at HP ⊢
      try simp only [Act.put, sa, sb, sc]
      refine tk 9 (oi := ⟨some 13, Op.slice 24 (Operand.tmp 9) none (some (Operand.tmp 12)) none, 24, _, _, none⟩) (v := ?_) rfl ?_ ?_
      rotate_left
      ·(intro w9 hSw; go_simp; try with_reducible rfl)
      try simp only [Act.put, sa, sb, sc]
      refine tk 10 (oi := ⟨some 14, Op.build 27 #[(0, Operand.tmp 8), (1, Operand.tmp 13)], 27, _, _, none⟩) (v := ?_) rfl ?_ ?_
      rotate_left
      ·(intro w9 hSw; go_simp; try with_reducible rfl)
      try simp only [Act.put, sa, sb, sc]
      refine wpAnyH_ready (rs := [12]) (by kernel_rfl) (by simp) ?_
      refine AllReadyH.cons (i := 12) (o := ⟨none, Op.store 27 (Operand.tmp 3) (Operand.tmp 14), 0, _, _, none⟩) rfl (fun K hK => ?_) AllReadyH.nil
      have hc := (unhide HP).c3
      obtain ⟨q0, q1, q2, f⟩ := hc
      have f0 := f 0
      have f1 := f 1
      have f2 := f 2
      clear f
      go_simp
      refine hK.out _ _ trivial (fun hHeld => ?_)
      clear hK K q0 q1 q2 f0 f1 f2
      try simp only [Act.put, sa, sb, sc]
      refine wpAnyH_done (by kernel_rfl) ?_ _
      go_wp2
      go_meet
      exact (unhide HP).fin _ _ (by omega) (by omega) hbB (Nat.le_refl _) (unhide HC)
    ·go_simp
     have HP := hide (unhide HP).litF
     refine hK.out _ _ trivial (fun hHeld => ?_)
     clear hK K
     generalize wz2.alloc (Obj.cells #[.string ⟨#[98]⟩, .string ⟨#[99]⟩, .string ⟨#[102]⟩] 9) = wz3 at HP ⊢
     try simp only [Act.put, sa, sb, sc]
     refine tk 9 (oi := ⟨some 13, Op.slice 24 (Operand.tmp 9) none (some (Operand.tmp 12)) none, 24, _, _, none⟩) (v := ?_) rfl ?_ ?_
     rotate_left
     ·(intro w9 hSw; go_simp; try with_reducible rfl)
     try simp only [Act.put, sa, sb, sc]
     refine wpAnyH_ready (rs := [0, 11]) (by kernel_rfl) (by simp) ?_
     refine AllReadyH.cons (i := 0) (o := ⟨some 4, Op.buildSlice 24 5 #[(0, Operand.const (Value.string { data := #[120] })), (1, Operand.const (Value.string { data := #[121] })), (2, Operand.const (Value.string { data := #[105] })), (3, Operand.const (Value.string { data := #[110] })), (4, Operand.const (Value.string { data := #[107] }))], 24, _, _, none⟩) rfl (fun K hK => ?_) (AllReadyH.cons (i := 11) (o := ⟨some 3, Op.alloc 27, 0, _, _, none⟩) rfl (fun K hK => ?_) AllReadyH.nil)
     ·go_simp
      have HP := hide (unhide HP).litV
      refine hK.out _ _ trivial (fun hHeld => ?_)
      clear hK K
      generalize wz3.alloc (Obj.cells #[.string ⟨#[120]⟩, .string ⟨#[121]⟩, .string ⟨#[105]⟩, .string ⟨#[110]⟩, .string ⟨#[107]⟩] 9) = wz4 at HP ⊢
      try simp only [Act.put, sa, sb, sc]
      refine tk 4 (oi := ⟨some 8, Op.slice 24 (Operand.tmp 4) none (some (Operand.tmp 7)) none, 24, _, _, none⟩) (v := ?_) rfl ?_ ?_
      rotate_left
      ·(intro w9 hSw; go_simp; try with_reducible rfl)
      try simp only [Act.put, sa, sb, sc]
      refine tk 10 (oi := ⟨some 14, Op.build 27 #[(0, Operand.tmp 8), (1, Operand.tmp 13)], 27, _, _, none⟩) (v := ?_) rfl ?_ ?_
      rotate_left
      ·(intro w9 hSw; go_simp; try with_reducible rfl)
      try simp only [Act.put, sa, sb, sc]
      refine wpAnyH_ready (rs := [11]) (by kernel_rfl) (by simp) ?_
      refine AllReadyH.cons (i := 11) (o := ⟨some 3, Op.alloc 27, 0, _, _, none⟩) rfl (fun K hK => ?_) AllReadyH.nil
      go_simp
      have HP := hide (unhide HP).box
      refine hK.out _ _ trivial (fun hHeld => ?_)
      clear hK K
      generalize wz4.alloc (Obj.cells #[.slice none 0 0, .slice none 0 0, .slice none 0 0] 27) = wz5 at HP ⊢
      try simp only [Act.put, sa, sb, sc]
      refine wpAnyH_ready (rs := [12]) (by kernel_rfl) (by simp) ?_
      refine AllReadyH.cons (i := 12) (o := ⟨none, Op.store 27 (Operand.tmp 3) (Operand.tmp 14), 0, _, _, none⟩) rfl (fun K hK => ?_) AllReadyH.nil
      have hc := (unhide HP).c3
      obtain ⟨q0, q1, q2, f⟩ := hc
      have f0 := f 0
      have f1 := f 1
      have f2 := f 2
      clear f
      go_simp
      refine hK.out _ _ trivial (fun hHeld => ?_)
      clear hK K q0 q1 q2 f0 f1 f2
      try simp only [Act.put, sa, sb, sc]
      refine wpAnyH_done (by kernel_rfl) ?_ _
      go_wp2
      go_meet
      exact (unhide HP).fin _ _ (by omega) (by omega) hbB (Nat.le_refl _) (unhide HC)
     ·go_simp
      have HP := hide (unhide HP).box
      refine hK.out _ _ trivial (fun hHeld => ?_)
      clear hK K
      generalize wz3.alloc (Obj.cells #[.slice none 0 0, .slice none 0 0, .slice none 0 0] 27) = wz4 at HP ⊢
      try simp only [Act.put, sa, sb, sc]
      refine wpAnyH_ready (rs := [0]) (by kernel_rfl) (by simp) ?_
      refine AllReadyH.cons (i := 0) (o := ⟨some 4, Op.buildSlice 24 5 #[(0, Operand.const (Value.string { data := #[120] })), (1, Operand.const (Value.string { data := #[121] })), (2, Operand.const (Value.string { data := #[105] })), (3, Operand.const (Value.string { data := #[110] })), (4, Operand.const (Value.string { data := #[107] }))], 24, _, _, none⟩) rfl (fun K hK => ?_) AllReadyH.nil
      go_simp
      have HP := hide (unhide HP).litV
      refine hK.out _ _ trivial (fun hHeld => ?_)
      clear hK K
      generalize wz4.alloc (Obj.cells #[.string ⟨#[120]⟩, .string ⟨#[121]⟩, .string ⟨#[105]⟩, .string ⟨#[110]⟩, .string ⟨#[107]⟩] 9) = wz5 at HP ⊢
      try simp only [Act.put, sa, sb, sc]
      refine tk 4 (oi := ⟨some 8, Op.slice 24 (Operand.tmp 4) none (some (Operand.tmp 7)) none, 24, _, _, none⟩) (v := ?_) rfl ?_ ?_
      rotate_left
      ·(intro w9 hSw; go_simp; try with_reducible rfl)
      try simp only [Act.put, sa, sb, sc]
      refine tk 10 (oi := ⟨some 14, Op.build 27 #[(0, Operand.tmp 8), (1, Operand.tmp 13)], 27, _, _, none⟩) (v := ?_) rfl ?_ ?_
      rotate_left
      ·(intro w9 hSw; go_simp; try with_reducible rfl)
      try simp only [Act.put, sa, sb, sc]
      refine wpAnyH_ready (rs := [12]) (by kernel_rfl) (by simp) ?_
      refine AllReadyH.cons (i := 12) (o := ⟨none, Op.store 27 (Operand.tmp 3) (Operand.tmp 14), 0, _, _, none⟩) rfl (fun K hK => ?_) AllReadyH.nil
      have hc := (unhide HP).c3
      obtain ⟨q0, q1, q2, f⟩ := hc
      have f0 := f 0
      have f1 := f 1
      have f2 := f 2
      clear f
      go_simp
      refine hK.out _ _ trivial (fun hHeld => ?_)
      clear hK K q0 q1 q2 f0 f1 f2
      try simp only [Act.put, sa, sb, sc]
      refine wpAnyH_done (by kernel_rfl) ?_ _
      go_wp2
      go_meet
      exact (unhide HP).fin _ _ (by omega) (by omega) hbB (Nat.le_refl _) (unhide HC)
    ·go_simp
     have HP := hide (unhide HP).box
     refine hK.out _ _ trivial (fun hHeld => ?_)
     clear hK K
     generalize wz2.alloc (Obj.cells #[.slice none 0 0, .slice none 0 0, .slice none 0 0] 27) = wz3 at HP ⊢
     try simp only [Act.put, sa, sb, sc]
     refine wpAnyH_ready (rs := [0, 5]) (by kernel_rfl) (by simp) ?_
     refine AllReadyH.cons (i := 0) (o := ⟨some 4, Op.buildSlice 24 5 #[(0, Operand.const (Value.string { data := #[120] })), (1, Operand.const (Value.string { data := #[121] })), (2, Operand.const (Value.string { data := #[105] })), (3, Operand.const (Value.string { data := #[110] })), (4, Operand.const (Value.string { data := #[107] }))], 24, _, _, none⟩) rfl (fun K hK => ?_) (AllReadyH.cons (i := 5) (o := ⟨some 9, Op.buildSlice 24 3 #[(0, Operand.const (Value.string { data := #[98] })), (1, Operand.const (Value.string { data := #[99] })), (2, Operand.const (Value.string { data := #[102] }))], 24, _, _, none⟩) rfl (fun K hK => ?_) AllReadyH.nil)
     ·go_simp
      have HP := hide (unhide HP).litV
      refine hK.out _ _ trivial (fun hHeld => ?_)
      clear hK K
      generalize wz3.alloc (Obj.cells #[.string ⟨#[120]⟩, .string ⟨#[121]⟩, .string ⟨#[105]⟩, .string ⟨#[110]⟩, .string ⟨#[107]⟩] 9) = wz4 at HP ⊢
      try simp only [Act.put, sa, sb, sc]
      refine tk 4 (oi := ⟨some 8, Op.slice 24 (Operand.tmp 4) none (some (Operand.tmp 7)) none, 24, _, _, none⟩) (v := ?_) rfl ?_ ?_
      rotate_left
      ·(intro w9 hSw; go_simp; try with_reducible rfl)
      try simp only [Act.put, sa, sb, sc]
      refine wpAnyH_ready (rs := [5]) (by kernel_rfl) (by simp) ?_
      refine AllReadyH.cons (i := 5) (o := ⟨some 9, Op.buildSlice 24 3 #[(0, Operand.const (Value.string { data := #[98] })), (1, Operand.const (Value.string { data := #[99] })), (2, Operand.const (Value.string { data := #[102] }))], 24, _, _, none⟩) rfl (fun K hK => ?_) AllReadyH.nil
      go_simp
      have HP := hide (unhide HP).litF
      refine hK.out _ _ trivial (fun hHeld => ?_)
      clear hK K
      generalize wz4.alloc (Obj.cells #[.string ⟨#[98]⟩, .string ⟨#[99]⟩, .string ⟨#[102]⟩] 9) = wz5 at HP ⊢
      try simp only [Act.put, sa, sb, sc]
      refine tk 9 (oi := ⟨some 13, Op.slice 24 (Operand.tmp 9) none (some (Operand.tmp 12)) none, 24, _, _, none⟩) (v := ?_) rfl ?_ ?_
      rotate_left
      ·(intro w9 hSw; go_simp; try with_reducible rfl)
      try simp only [Act.put, sa, sb, sc]
      refine tk 10 (oi := ⟨some 14, Op.build 27 #[(0, Operand.tmp 8), (1, Operand.tmp 13)], 27, _, _, none⟩) (v := ?_) rfl ?_ ?_
      rotate_left
      ·(intro w9 hSw; go_simp; try with_reducible rfl)
      try simp only [Act.put, sa, sb, sc]
      refine wpAnyH_ready (rs := [12]) (by kernel_rfl) (by simp) ?_
      refine AllReadyH.cons (i := 12) (o := ⟨none, Op.store 27 (Operand.tmp 3) (Operand.tmp 14), 0, _, _, none⟩) rfl (fun K hK => ?_) AllReadyH.nil
      have hc := (unhide HP).c3
      obtain ⟨q0, q1, q2, f⟩ := hc
      have f0 := f 0
      have f1 := f 1
      have f2 := f 2
      clear f
      go_simp
      refine hK.out _ _ trivial (fun hHeld => ?_)
      clear hK K q0 q1 q2 f0 f1 f2
      try simp only [Act.put, sa, sb, sc]
      refine wpAnyH_done (by kernel_rfl) ?_ _
      go_wp2
      go_meet
      exact (unhide HP).fin _ _ (by omega) (by omega) hbB (Nat.le_refl _) (unhide HC)
     ·go_simp
      have HP := hide (unhide HP).litF
      refine hK.out _ _ trivial (fun hHeld => ?_)
      clear hK K
      generalize wz3.alloc (Obj.cells #[.string ⟨#[98]⟩, .string ⟨#[99]⟩, .string ⟨#[102]⟩] 9) = wz4 at HP ⊢
      try simp only [Act.put, sa, sb, sc]
      refine tk 9 (oi := ⟨some 13, Op.slice 24 (Operand.tmp 9) none (some (Operand.tmp 12)) none, 24, _, _, none⟩) (v := ?_) rfl ?_ ?_
      rotate_left
      ·(intro w9 hSw; go_simp; try with_reducible rfl)
      try simp only [Act.put, sa, sb, sc]
      refine wpAnyH_ready (rs := [0]) (by kernel_rfl) (by simp) ?_
      refine AllReadyH.cons (i := 0) (o := ⟨some 4, Op.buildSlice 24 5 #[(0, Operand.const (Value.string { data := #[120] })), (1, Operand.const (Value.string { data := #[121] })), (2, Operand.const (Value.string { data := #[105] })), (3, Operand.const (Value.string { data := #[110] })), (4, Operand.const (Value.string { data := #[107] }))], 24, _, _, none⟩) rfl (fun K hK => ?_) AllReadyH.nil
      go_simp
      have HP := hide (unhide HP).litV
      refine hK.out _ _ trivial (fun hHeld => ?_)
      clear hK K
      generalize wz4.alloc (Obj.cells #[.string ⟨#[120]⟩, .string ⟨#[121]⟩, .string ⟨#[105]⟩, .string ⟨#[110]⟩, .string ⟨#[107]⟩] 9) = wz5 at HP ⊢
      try simp only [Act.put, sa, sb, sc]
      refine tk 4 (oi := ⟨some 8, Op.slice 24 (Operand.tmp 4) none (some (Operand.tmp 7)) none, 24, _, _, none⟩) (v := ?_) rfl ?_ ?_
      rotate_left
      ·(intro w9 hSw; go_simp; try with_reducible rfl)
      try simp only [Act.put, sa, sb, sc]
      refine tk 10 (oi := ⟨some 14, Op.build 27 #[(0, Operand.tmp 8), (1, Operand.tmp 13)], 27, _, _, none⟩) (v := ?_) rfl ?_ ?_
      rotate_left
      ·(intro w9 hSw; go_simp; try with_reducible rfl)
      try simp only [Act.put, sa, sb, sc]
      refine wpAnyH_ready (rs := [12]) (by kernel_rfl) (by simp) ?_
      refine AllReadyH.cons (i := 12) (o := ⟨none, Op.store 27 (Operand.tmp 3) (Operand.tmp 14), 0, _, _, none⟩) rfl (fun K hK => ?_) AllReadyH.nil
      have hc := (unhide HP).c3
      obtain ⟨q0, q1, q2, f⟩ := hc
      have f0 := f 0
      have f1 := f 1
      have f2 := f 2
      clear f
      go_simp
      refine hK.out _ _ trivial (fun hHeld => ?_)
      clear hK K q0 q1 q2 f0 f1 f2
      try simp only [Act.put, sa, sb, sc]
      refine wpAnyH_done (by kernel_rfl) ?_ _
      go_wp2
      go_meet
      exact (unhide HP).fin _ _ (by omega) (by omega) hbB (Nat.le_refl _) (unhide HC)
   ·go_simp
    have HP := hide (unhide HP).box
    refine hK.out _ _ trivial (fun hHeld => ?_)
    clear hK K
    generalize wz1.alloc (Obj.cells #[.slice none 0 0, .slice none 0 0, .slice none 0 0] 27) = wz2 at HP ⊢
    try simp only [Act.put, sa, sb, sc]
    refine wpAnyH_ready (rs := [0, 5, 7]) (by kernel_rfl) (by simp) ?_
    refine AllReadyH.cons (i := 0) (o := ⟨some 4, Op.buildSlice 24 5 #[(0, Operand.const (Value.string { data := #[120] })), (1, Operand.const (Value.string { data := #[121] })), (2, Operand.const (Value.string { data := #[105] })), (3, Operand.const (Value.string { data := #[110] })), (4, Operand.const (Value.string { data := #[107] }))], 24, _, _, none⟩) rfl (fun K hK => ?_) (AllReadyH.cons (i := 5) (o := ⟨some 9, Op.buildSlice 24 3 #[(0, Operand.const (Value.string { data := #[98] })), (1, Operand.const (Value.string { data := #[99] })), (2, Operand.const (Value.string { data := #[102] }))], 24, _, _, none⟩) rfl (fun K hK => ?_) (AllReadyH.cons (i := 7) (o := ⟨some 11, Op.call { callee := Callee.value (Operand.func 78), args := #[Operand.tmp 10, Operand.const (Value.int IntKind.i64 2)], argTypes := #[61, 3] }, 3, _, _, none⟩) rfl (fun K hK => ?_) AllReadyH.nil))
    ·go_simp
     have HP := hide (unhide HP).litV
     refine hK.out _ _ trivial (fun hHeld => ?_)
     clear hK K
     generalize wz2.alloc (Obj.cells #[.string ⟨#[120]⟩, .string ⟨#[121]⟩, .string ⟨#[105]⟩, .string ⟨#[110]⟩, .string ⟨#[107]⟩] 9) = wz3 at HP ⊢
     try simp only [Act.put, sa, sb, sc]
     refine tk 4 (oi := ⟨some 8, Op.slice 24 (Operand.tmp 4) none (some (Operand.tmp 7)) none, 24, _, _, none⟩) (v := ?_) rfl ?_ ?_
     rotate_left
     ·(intro w9 hSw; go_simp; try with_reducible rfl)
     try simp only [Act.put, sa, sb, sc]
     refine wpAnyH_ready (rs := [5, 7]) (by kernel_rfl) (by simp) ?_
     refine AllReadyH.cons (i := 5) (o := ⟨some 9, Op.buildSlice 24 3 #[(0, Operand.const (Value.string { data := #[98] })), (1, Operand.const (Value.string { data := #[99] })), (2, Operand.const (Value.string { data := #[102] }))], 24, _, _, none⟩) rfl (fun K hK => ?_) (AllReadyH.cons (i := 7) (o := ⟨some 11, Op.call { callee := Callee.value (Operand.func 78), args := #[Operand.tmp 10, Operand.const (Value.int IntKind.i64 2)], argTypes := #[61, 3] }, 3, _, _, none⟩) rfl (fun K hK => ?_) AllReadyH.nil)
     ·go_simp
      have HP := hide (unhide HP).litF
      refine hK.out _ _ trivial (fun hHeld => ?_)
      clear hK K
      generalize wz3.alloc (Obj.cells #[.string ⟨#[98]⟩, .string ⟨#[99]⟩, .string ⟨#[102]⟩] 9) = wz4 at HP ⊢
      try simp only [Act.put, sa, sb, sc]
      refine wpAnyH_ready (rs := [7]) (by kernel_rfl) (by simp) ?_
      refine AllReadyH.cons (i := 7) (o := ⟨some 11, Op.call { callee := Callee.value (Operand.func 78), args := #[Operand.tmp 10, Operand.const (Value.int IntKind.i64 2)], argTypes := #[61, 3] }, 3, _, _, none⟩) rfl (fun K hK => ?_) AllReadyH.nil
      go_simp
      refine (below_c _ _ _ _ _ (by decide) _ (unhide HP).1.1).mono ?_
      rintro e wz5 ⟨y, rfl, y0, y1, y2, hl⟩
      obtain ⟨j, rfl⟩ : ∃ k : Nat, y = k := ⟨y.toNat, by omega⟩
      obtain ⟨j0, j5, jw⟩ := lim_3 j (by omega)
      have HP := hide ((unhide HP).kp hbB hl)
      clear hl y0 y1 y2
      refine hK.out _ _ trivial (fun hHeld => ?_)
      clear hK K
      try simp only [Act.put, sa, sb, sc]
      refine tk 8 (oi := ⟨some 12, Op.binOp BinOp.add 3 (Operand.const (Value.int IntKind.i64 1)) (Operand.tmp 11) 3, 3, _, _, none⟩) (v := ?_) rfl ?_ ?_
      rotate_left
      ·(intro w9 hSw; go_simp; try with_reducible rfl)
      try simp only [Act.put, sa, sb, sc]
      refine tk 9 (oi := ⟨some 13, Op.slice 24 (Operand.tmp 9) none (some (Operand.tmp 12)) none, 24, _, _, none⟩) (v := ?_) rfl ?_ ?_
      rotate_left
      ·(intro w9 hSw; go_simp; try with_reducible rfl)
      try simp only [Act.put, sa, sb, sc]
      refine tk 10 (oi := ⟨some 14, Op.build 27 #[(0, Operand.tmp 8), (1, Operand.tmp 13)], 27, _, _, none⟩) (v := ?_) rfl ?_ ?_
      rotate_left
      ·(intro w9 hSw; go_simp; try with_reducible rfl)
      try simp only [Act.put, sa, sb, sc]
      refine wpAnyH_ready (rs := [12]) (by kernel_rfl) (by simp) ?_
      refine AllReadyH.cons (i := 12) (o := ⟨none, Op.store 27 (Operand.tmp 3) (Operand.tmp 14), 0, _, _, none⟩) rfl (fun K hK => ?_) AllReadyH.nil
      have hc := (unhide HP).c3
      obtain ⟨q0, q1, q2, f⟩ := hc
      have f0 := f 0
      have f1 := f 1
      have f2 := f 2
      clear f
      go_simp
      refine hK.out _ _ trivial (fun hHeld => ?_)
      clear hK K q0 q1 q2 f0 f1 f2
      try simp only [Act.put, sa, sb, sc]
      refine wpAnyH_done (by kernel_rfl) ?_ _
      go_wp2
      go_meet
      exact (unhide HP).fin _ _ (by omega) (by omega) hbB (Nat.le_refl _) (unhide HC)
     ·go_simp
      refine (below_c _ _ _ _ _ (by decide) _ (unhide HP).1.1).mono ?_
      rintro e wz4 ⟨y, rfl, y0, y1, y2, hl⟩
      obtain ⟨j, rfl⟩ : ∃ k : Nat, y = k := ⟨y.toNat, by omega⟩
      obtain ⟨j0, j5, jw⟩ := lim_3 j (by omega)
      have HP := hide ((unhide HP).kp hbB hl)
      clear hl y0 y1 y2
      refine hK.out _ _ trivial (fun hHeld => ?_)
      clear hK K
      try simp only [Act.put, sa, sb, sc]
      refine tk 8 (oi := ⟨some 12, Op.binOp BinOp.add 3 (Operand.const (Value.int IntKind.i64 1)) (Operand.tmp 11) 3, 3, _, _, none⟩) (v := ?_) rfl ?_ ?_
      rotate_left
      ·(intro w9 hSw; go_simp; try with_reducible rfl)
      try simp only [Act.put, sa, sb, sc]
      refine wpAnyH_ready (rs := [5]) (by kernel_rfl) (by simp) ?_
      refine AllReadyH.cons (i := 5) (o := ⟨some 9, Op.buildSlice 24 3 #[(0, Operand.const (Value.string { data := #[98] })), (1, Operand.const (Value.string { data := #[99] })), (2, Operand.const (Value.string { data := #[102] }))], 24, _, _, none⟩) rfl (fun K hK => ?_) AllReadyH.nil
      go_simp
      have HP := hide (unhide HP).litF
      refine hK.out _ _ trivial (fun hHeld => ?_)
      clear hK K
      generalize wz4.alloc (Obj.cells #[.string ⟨#[98]⟩, .string ⟨#[99]⟩, .string ⟨#[102]⟩] 9) = wz5 at HP ⊢
      try simp only [Act.put, sa, sb, sc]
      refine tk 9 (oi := ⟨some 13, Op.slice 24 (Operand.tmp 9) none (some (Operand.tmp 12)) none, 24, _, _, none⟩) (v := ?_) rfl ?_ ?_
      rotate_left
      ·(intro w9 hSw; go_simp; try with_reducible rfl)
      try simp only [Act.put, sa, sb, sc]
      refine tk 10 (oi := ⟨some 14, Op.build 27 #[(0, Operand.tmp 8), (1, Operand.tmp 13)], 27, _, _, none⟩) (v := ?_) rfl ?_ ?_
      rotate_left
      ·(intro w9 hSw; go_simp; try with_reducible rfl)
      try simp only [Act.put, sa, sb, sc]
      refine wpAnyH_ready (rs := [12]) (by kernel_rfl) (by simp) ?_
      refine AllReadyH.cons (i := 12) (o := ⟨none, Op.store 27 (Operand.tmp 3) (Operand.tmp 14), 0, _, _, none⟩) rfl (fun K hK => ?_) AllReadyH.nil
      have hc := (unhide HP).c3
      obtain ⟨q0, q1, q2, f⟩ := hc
      have f0 := f 0
      have f1 := f 1
      have f2 := f 2
      clear f
      go_simp
      refine hK.out _ _ trivial (fun hHeld => ?_)
      clear hK K q0 q1 q2 f0 f1 f2
      try simp only [Act.put, sa, sb, sc]
      refine wpAnyH_done (by kernel_rfl) ?_ _
      go_wp2
      go_meet
      exact (unhide HP).fin _ _ (by omega) (by omega) hbB (Nat.le_refl _) (unhide HC)
    ·go_simp
     have HP := hide (unhide HP).litF
     refine hK.out _ _ trivial (fun hHeld => ?_)
     clear hK K
     generalize wz2.alloc (Obj.cells #[.string ⟨#[98]⟩, .string ⟨#[99]⟩, .string ⟨#[102]⟩] 9) = wz3 at HP ⊢
     try simp only [Act.put, sa, sb, sc]
     refine wpAnyH_ready (rs := [0, 7]) (by kernel_rfl) (by simp) ?_
     refine AllReadyH.cons (i := 0) (o := ⟨some 4, Op.buildSlice 24 5 #[(0, Operand.const (Value.string { data := #[120] })), (1, Operand.const (Value.string { data := #[121] })), (2, Operand.const (Value.string { data := #[105] })), (3, Operand.const (Value.string { data := #[110] })), (4, Operand.const (Value.string { data := #[107] }))], 24, _, _, none⟩) rfl (fun K hK => ?_) (AllReadyH.cons (i := 7) (o := ⟨some 11, Op.call { callee := Callee.value (Operand.func 78), args := #[Operand.tmp 10, Operand.const (Value.int IntKind.i64 2)], argTypes := #[61, 3] }, 3, _, _, none⟩) rfl (fun K hK => ?_) AllReadyH.nil)
     ·go_simp
      have HP := hide (unhide HP).litV
      refine hK.out _ _ trivial (fun hHeld => ?_)
      clear hK K
      generalize wz3.alloc (Obj.cells #[.string ⟨#[120]⟩, .string ⟨#[121]⟩, .string ⟨#[105]⟩, .string ⟨#[110]⟩, .string ⟨#[107]⟩] 9) = wz4 at HP ⊢
      try simp only [Act.put, sa, sb, sc]
      refine tk 4 (oi := ⟨some 8, Op.slice 24 (Operand.tmp 4) none (some (Operand.tmp 7)) none, 24, _, _, none⟩) (v := ?_) rfl ?_ ?_
      rotate_left
      ·(intro w9 hSw; go_simp; try with_reducible rfl)
      try simp only [Act.put, sa, sb, sc]
      refine wpAnyH_ready (rs := [7]) (by kernel_rfl) (by simp) ?_
      refine AllReadyH.cons (i := 7) (o := ⟨some 11, Op.call { callee := Callee.value (Operand.func 78), args := #[Operand.tmp 10, Operand.const (Value.int IntKind.i64 2)], argTypes := #[61, 3] }, 3, _, _, none⟩) rfl (fun K hK => ?_) AllReadyH.nil
      go_simp
      refine (below_c _ _ _ _ _ (by decide) _ (unhide HP).1.1).mono ?_
      rintro e wz5 ⟨y, rfl, y0, y1, y2, hl⟩
      obtain ⟨j, rfl⟩ : ∃ k : Nat, y = k := ⟨y.toNat, by omega⟩
      obtain ⟨j0, j5, jw⟩ := lim_3 j (by omega)
      have HP := hide ((unhide HP).kp hbB hl)
      clear hl y0 y1 y2
      refine hK.out _ _ trivial (fun hHeld => ?_)
      clear hK K
      try simp only [Act.put, sa, sb, sc]
      refine tk 8 (oi := ⟨some 12, Op.binOp BinOp.add 3 (Operand.const (Value.int IntKind.i64 1)) (Operand.tmp 11) 3, 3, _, _, none⟩) (v := ?_) rfl ?_ ?_
      rotate_left
      ·(intro w9 hSw; go_simp; try with_reducible rfl)
      try simp only [Act.put, sa, sb, sc]
      refine tk 9 (oi := ⟨some 13, Op.slice 24 (Operand.tmp 9) none (some (Operand.tmp 12)) none, 24, _, _, none⟩) (v := ?_) rfl ?_ ?_
      rotate_left
      ·(intro w9 hSw; go_simp; try with_reducible rfl)
      try simp only [Act.put, sa, sb, sc]
      refine tk 10 (oi := ⟨some 14, Op.build 27 #[(0, Operand.tmp 8), (1, Operand.tmp 13)], 27, _, _, none⟩) (v := ?_) rfl ?_ ?_
      rotate_left
      ·(intro w9 hSw; go_simp; try with_reducible rfl)
      try simp only [Act.put, sa, sb, sc]
      refine wpAnyH_ready (rs := [12]) (by kernel_rfl) (by simp) ?_
      refine AllReadyH.cons (i := 12) (o := ⟨none, Op.store 27 (Operand.tmp 3) (Operand.tmp 14), 0, _, _, none⟩) rfl (fun K hK => ?_) AllReadyH.nil
      have hc := (unhide HP).c3
      obtain ⟨q0, q1, q2, f⟩ := hc
      have f0 := f 0
      have f1 := f 1
      have f2 := f 2
      clear f
      go_simp
      refine hK.out _ _ trivial (fun hHeld => ?_)
      clear hK K q0 q1 q2 f0 f1 f2
      try simp only [Act.put, sa, sb, sc]
      refine wpAnyH_done (by kernel_rfl) ?_ _
      go_wp2
      go_meet
      exact (unhide HP).fin _ _ (by omega) (by omega) hbB (Nat.le_refl _) (unhide HC)
     ·go_simp
      refine (below_c _ _ _ _ _ (by decide) _ (unhide HP).1.1).mono ?_
      rintro e wz4 ⟨y, rfl, y0, y1, y2, hl⟩
      obtain ⟨j, rfl⟩ : ∃ k : Nat, y = k := ⟨y.toNat, by omega⟩
      obtain ⟨j0, j5, jw⟩ := lim_3 j (by omega)
      have HP := hide ((unhide HP).kp hbB hl)
      clear hl y0 y1 y2
      refine hK.out _ _ trivial (fun hHeld => ?_)
      clear hK K
      try simp only [Act.put, sa, sb, sc]
      refine tk 8 (oi := ⟨some 12, Op.binOp BinOp.add 3 (Operand.const (Value.int IntKind.i64 1)) (Operand.tmp 11) 3, 3, _, _, none⟩) (v := ?_) rfl ?_ ?_
      rotate_left
      ·(intro w9 hSw; go_simp; try with_reducible rfl)
      try simp only [Act.put, sa, sb, sc]
      refine tk 9 (oi := ⟨some 13, Op.slice 24 (Operand.tmp 9) none (some (Operand.tmp 12)) none, 24, _, _, none⟩) (v := ?_) rfl ?_ ?_
      rotate_left
      ·(intro w9 hSw; go_simp; try with_reducible rfl)
      try simp only [Act.put, sa, sb, sc]
      refine wpAnyH_ready (rs := [0]) (by kernel_rfl) (by simp) ?_
      refine AllReadyH.cons (i := 0) (o := ⟨some 4, Op.buildSlice 24 5 #[(0, Operand.const (Value.string { data := #[120] })), (1, Operand.const (Value.string { data := #[121] })), (2, Operand.const (Value.string { data := #[105] })), (3, Operand.const (Value.string { data := #[110] })), (4, Operand.const (Value.string { data := #[107] }))], 24, _, _, none⟩) rfl (fun K hK => ?_) AllReadyH.nil
      go_simp
      have HP := hide (unhide HP).litV
      refine hK.out _ _ trivial (fun hHeld => ?_)
      clear hK K
      generalize wz4.alloc (Obj.cells #[.string ⟨#[120]⟩, .string ⟨#[121]⟩, .string ⟨#[105]⟩, .string ⟨#[110]⟩, .string ⟨#[107]⟩] 9) = wz5 at HP ⊢
      try simp only [Act.put, sa, sb, sc]
      refine tk 4 (oi := ⟨some 8, Op.slice 24 (Operand.tmp 4) none (some (Operand.tmp 7)) none, 24, _, _, none⟩) (v := ?_) rfl ?_ ?_
      rotate_left
      ·(intro w9 hSw; go_simp; try with_reducible rfl)
      try simp only [Act.put, sa, sb, sc]
      refine tk 10 (oi := ⟨some 14, Op.build 27 #[(0, Operand.tmp 8), (1, Operand.tmp 13)], 27, _, _, none⟩) (v := ?_) rfl ?_ ?_
      rotate_left
      ·(intro w9 hSw; go_simp; try with_reducible rfl)
      try simp only [Act.put, sa, sb, sc]
      refine wpAnyH_ready (rs := [12]) (by kernel_rfl) (by simp) ?_
      refine AllReadyH.cons (i := 12) (o := ⟨none, Op.store 27 (Operand.tmp 3) (Operand.tmp 14), 0, _, _, none⟩) rfl (fun K hK => ?_) AllReadyH.nil
      have hc := (unhide HP).c3
      obtain ⟨q0, q1, q2, f⟩ := hc
      have f0 := f 0
      have f1 := f 1
      have f2 := f 2
      clear f
      go_simp
      refine hK.out _ _ trivial (fun hHeld => ?_)
      clear hK K q0 q1 q2 f0 f1 f2
      try simp only [Act.put, sa, sb, sc]
      refine wpAnyH_done (by kernel_rfl) ?_ _
      go_wp2
      go_meet
      exact (unhide HP).fin _ _ (by omega) (by omega) hbB (Nat.le_refl _) (unhide HC)
    ·go_simp
     refine (below_c _ _ _ _ _ (by decide) _ (unhide HP).1.1).mono ?_
     rintro e wz3 ⟨y, rfl, y0, y1, y2, hl⟩
     obtain ⟨j, rfl⟩ : ∃ k : Nat, y = k := ⟨y.toNat, by omega⟩
     obtain ⟨j0, j5, jw⟩ := lim_3 j (by omega)
     have HP := hide ((unhide HP).kp hbB hl)
     clear hl y0 y1 y2
     refine hK.out _ _ trivial (fun hHeld => ?_)
     clear hK K
     try simp only [Act.put, sa, sb, sc]
     refine tk 8 (oi := ⟨some 12, Op.binOp BinOp.add 3 (Operand.const (Value.int IntKind.i64 1)) (Operand.tmp 11) 3, 3, _, _, none⟩) (v := ?_) rfl ?_ ?_
     rotate_left
     ·(intro w9 hSw; go_simp; try with_reducible rfl)
     try simp only [Act.put, sa, sb, sc]
     refine wpAnyH_ready (rs := [0, 5]) (by kernel_rfl) (by simp) ?_
     refine AllReadyH.cons (i := 0) (o := ⟨some 4, Op.buildSlice 24 5 #[(0, Operand.const (Value.string { data := #[120] })), (1, Operand.const (Value.string { data := #[121] })), (2, Operand.const (Value.string { data := #[105] })), (3, Operand.const (Value.string { data := #[110] })), (4, Operand.const (Value.string { data := #[107] }))], 24, _, _, none⟩) rfl (fun K hK => ?_) (AllReadyH.cons (i := 5) (o := ⟨some 9, Op.buildSlice 24 3 #[(0, Operand.const (Value.string { data := #[98] })), (1, Operand.const (Value.string { data := #[99] })), (2, Operand.const (Value.string { data := #[102] }))], 24, _, _, none⟩) rfl (fun K hK => ?_) AllReadyH.nil)
     ·go_simp
      have HP := hide (unhide HP).litV
      refine hK.out _ _ trivial (fun hHeld => ?_)
      clear hK K
      generalize wz3.alloc (Obj.cells #[.string ⟨#[120]⟩, .string ⟨#[121]⟩, .string ⟨#[105]⟩, .string ⟨#[110]⟩, .string ⟨#[107]⟩] 9) = wz4 at HP ⊢
      try simp only [Act.put, sa, sb, sc]
      refine tk 4 (oi := ⟨some 8, Op.slice 24 (Operand.tmp 4) none (some (Operand.tmp 7)) none, 24, _, _, none⟩) (v := ?_) rfl ?_ ?_
      rotate_left
      ·(intro w9 hSw; go_simp; try with_reducible rfl)
      try simp only [Act.put, sa, sb, sc]
      refine wpAnyH_ready (rs := [5]) (by kernel_rfl) (by simp) ?_
      refine AllReadyH.cons (i := 5) (o := ⟨some 9, Op.buildSlice 24 3 #[(0, Operand.const (Value.string { data := #[98] })), (1, Operand.const (Value.string { data := #[99] })), (2, Operand.const (Value.string { data := #[102] }))], 24, _, _, none⟩) rfl (fun K hK => ?_) AllReadyH.nil
      go_simp
      have HP := hide (unhide HP).litF
      refine hK.out _ _ trivial (fun hHeld => ?_)
      clear hK K
      generalize wz4.alloc (Obj.cells #[.string ⟨#[98]⟩, .string ⟨#[99]⟩, .string ⟨#[102]⟩] 9) = wz5 at HP ⊢
      try simp only [Act.put, sa, sb, sc]
      refine tk 9 (oi := ⟨some 13, Op.slice 24 (Operand.tmp 9) none (some (Operand.tmp 12)) none, 24, _, _, none⟩) (v := ?_) rfl ?_ ?_
      rotate_left
      ·(intro w9 hSw; go_simp; try with_reducible rfl)
      try simp only [Act.put, sa, sb, sc]
      refine tk 10 (oi := ⟨some 14, Op.build 27 #[(0, Operand.tmp 8), (1, Operand.tmp 13)], 27, _, _, none⟩) (v := ?_) rfl ?_ ?_
      rotate_left
      ·(intro w9 hSw; go_simp; try with_reducible rfl)
      try simp only [Act.put, sa, sb, sc]
      refine wpAnyH_ready (rs := [12]) (by kernel_rfl) (by simp) ?_
      refine AllReadyH.cons (i := 12) (o := ⟨none, Op.store 27 (Operand.tmp 3) (Operand.tmp 14), 0, _, _, none⟩) rfl (fun K hK => ?_) AllReadyH.nil
      have hc := (unhide HP).c3
      obtain ⟨q0, q1, q2, f⟩ := hc
      have f0 := f 0
      have f1 := f 1
      have f2 := f 2
      clear f
      go_simp
      refine hK.out _ _ trivial (fun hHeld => ?_)
      clear hK K q0 q1 q2 f0 f1 f2
      try simp only [Act.put, sa, sb, sc]
      refine wpAnyH_done (by kernel_rfl) ?_ _
      go_wp2
      go_meet
      exact (unhide HP).fin _ _ (by omega) (by omega) hbB (Nat.le_refl _) (unhide HC)
     ·go_simp
      have HP := hide (unhide HP).litF
      refine hK.out _ _ trivial (fun hHeld => ?_)
      clear hK K
      generalize wz3.alloc (Obj.cells #[.string ⟨#[98]⟩, .string ⟨#[99]⟩, .string ⟨#[102]⟩] 9) = wz4 at HP ⊢
      try simp only [Act.put, sa, sb, sc]
      refine tk 9 (oi := ⟨some 13, Op.slice 24 (Operand.tmp 9) none (some (Operand.tmp 12)) none, 24, _, _, none⟩) (v := ?_) rfl ?_ ?_
      rotate_left
      ·(intro w9 hSw; go_simp; try with_reducible rfl)
      try simp only [Act.put, sa, sb, sc]
      refine wpAnyH_ready (rs := [0]) (by kernel_rfl) (by simp) ?_
      refine AllReadyH.cons (i := 0) (o := ⟨some 4, Op.buildSlice 24 5 #[(0, Operand.const (Value.string { data := #[120] })), (1, Operand.const (Value.string { data := #[121] })), (2, Operand.const (Value.string { data := #[105] })), (3, Operand.const (Value.string { data := #[110] })), (4, Operand.const (Value.string { data := #[107] }))], 24, _, _, none⟩) rfl (fun K hK => ?_) AllReadyH.nil
      go_simp
      have HP := hide (unhide HP).litV
      refine hK.out _ _ trivial (fun hHeld => ?_)
      clear hK K
      generalize wz4.alloc (Obj.cells #[.string ⟨#[120]⟩, .string ⟨#[121]⟩, .string ⟨#[105]⟩, .string ⟨#[110]⟩, .string ⟨#[107]⟩] 9) = wz5 at HP ⊢
      try simp only [Act.put, sa, sb, sc]
      refine tk 4 (oi := ⟨some 8, Op.slice 24 (Operand.tmp 4) none (some (Operand.tmp 7)) none, 24, _, _, none⟩) (v := ?_) rfl ?_ ?_
      rotate_left
      ·(intro w9 hSw; go_simp; try with_reducible rfl)
      try simp only [Act.put, sa, sb, sc]
      refine tk 10 (oi := ⟨some 14, Op.build 27 #[(0, Operand.tmp 8), (1, Operand.tmp 13)], 27, _, _, none⟩) (v := ?_) rfl ?_ ?_
      rotate_left
      ·(intro w9 hSw; go_simp; try with_reducible rfl)
      try simp only [Act.put, sa, sb, sc]
      refine wpAnyH_ready (rs := [12]) (by kernel_rfl) (by simp) ?_
      refine AllReadyH.cons (i := 12) (o := ⟨none, Op.store 27 (Operand.tmp 3) (Operand.tmp 14), 0, _, _, none⟩) rfl (fun K hK => ?_) AllReadyH.nil
      have hc := (unhide HP).c3
      obtain ⟨q0, q1, q2, f⟩ := hc
      have f0 := f 0
      have f1 := f 1
      have f2 := f 2
      clear f
      go_simp
      refine hK.out _ _ trivial (fun hHeld => ?_)
      clear hK K q0 q1 q2 f0 f1 f2
      try simp only [Act.put, sa, sb, sc]
      refine wpAnyH_done (by kernel_rfl) ?_ _
      go_wp2
      go_meet
      exact (unhide HP).fin _ _ (by omega) (by omega) hbB (Nat.le_refl _) (unhide HC)
  ·go_simp
   have HP := hide (unhide HP).litF
   refine hK.out _ _ trivial (fun hHeld => ?_)
   clear hK K
   generalize wz0.alloc (Obj.cells #[.string ⟨#[98]⟩, .string ⟨#[99]⟩, .string ⟨#[102]⟩] 9) = wz1 at HP ⊢
   try simp only [Act.put, sa, sb, sc]
   refine wpAnyH_ready (rs := [0, 2, 11]) (by kernel_rfl) (by simp) ?_
   refine AllReadyH.cons (i := 0) (o := ⟨some 4, Op.buildSlice 24 5 #[(0, Operand.const (Value.string { data := #[120] })), (1, Operand.const (Value.string { data := #[121] })), (2, Operand.const (Value.string { data := #[105] })), (3, Operand.const (Value.string { data := #[110] })), (4, Operand.const (Value.string { data := #[107] }))], 24, _, _, none⟩) rfl (fun K hK => ?_) (AllReadyH.cons (i := 2) (o := ⟨some 6, Op.call { callee := Callee.value (Operand.func 78), args := #[Operand.tmp 5, Operand.const (Value.int IntKind.i64 4)], argTypes := #[61, 3] }, 3, _, _, none⟩) rfl (fun K hK => ?_) (AllReadyH.cons (i := 11) (o := ⟨some 3, Op.alloc 27, 0, _, _, none⟩) rfl (fun K hK => ?_) AllReadyH.nil))
   ·go_simp
    have HP := hide (unhide HP).litV
    refine hK.out _ _ trivial (fun hHeld => ?_)
    clear hK K
    generalize wz1.alloc (Obj.cells #[.string ⟨#[120]⟩, .string ⟨#[121]⟩, .string ⟨#[105]⟩, .string ⟨#[110]⟩, .string ⟨#[107]⟩] 9) = wz2 at HP ⊢
    try simp only [Act.put, sa, sb, sc]
    refine wpAnyH_ready (rs := [2, 11]) (by kernel_rfl) (by simp) ?_
    refine AllReadyH.cons (i := 2) (o := ⟨some 6, Op.call { callee := Callee.value (Operand.func 78), args := #[Operand.tmp 5, Operand.const (Value.int IntKind.i64 4)], argTypes := #[61, 3] }, 3, _, _, none⟩) rfl (fun K hK => ?_) (AllReadyH.cons (i := 11) (o := ⟨some 3, Op.alloc 27, 0, _, _, none⟩) rfl (fun K hK => ?_) AllReadyH.nil)
    ·go_simp
     refine (below_c _ _ _ _ _ (by decide) _ (unhide HP).1.1).mono ?_
     rintro e wz3 ⟨y, rfl, y0, y1, y2, hl⟩
     obtain ⟨k, rfl⟩ : ∃ k : Nat, y = k := ⟨y.toNat, by omega⟩
     obtain ⟨k0, k5, kw⟩ := lim_5 k (by omega)
     have HP := hide ((unhide HP).kp hbB hl)
     clear hl y0 y1 y2
     refine hK.out _ _ trivial (fun hHeld => ?_)
     clear hK K
     try simp only [Act.put, sa, sb, sc]
     refine tk 3 (oi := ⟨some 7, Op.binOp BinOp.add 3 (Operand.const (Value.int IntKind.i64 1)) (Operand.tmp 6) 3, 3, _, _, none⟩) (v := ?_) rfl ?_ ?_
     rotate_left
     ·(intro w9 hSw; go_simp; try with_reducible rfl)
     try simp only [Act.put, sa, sb, sc]
     refine tk 4 (oi := ⟨some 8, Op.slice 24 (Operand.tmp 4) none (some (Operand.tmp 7)) none, 24, _, _, none⟩) (v := ?_) rfl ?_ ?_
     rotate_left
     ·(intro w9 hSw; go_simp; try with_reducible rfl)
     try simp only [Act.put, sa, sb, sc]
     refine wpAnyH_ready (rs := [7, 11]) (by kernel_rfl) (by simp) ?_
     refine AllReadyH.cons (i := 7) (o := ⟨some 11, Op.call { callee := Callee.value (Operand.func 78), args := #[Operand.tmp 10, Operand.const (Value.int IntKind.i64 2)], argTypes := #[61, 3] }, 3, _, _, none⟩) rfl (fun K hK => ?_) (AllReadyH.cons (i := 11) (o := ⟨some 3, Op.alloc 27, 0, _, _, none⟩) rfl (fun K hK => ?_) AllReadyH.nil)
     ·go_simp
      refine (below_c _ _ _ _ _ (by decide) _ (unhide HP).1.1).mono ?_
      rintro e wz4 ⟨y, rfl, y0, y1, y2, hl⟩
      obtain ⟨j, rfl⟩ : ∃ k : Nat, y = k := ⟨y.toNat, by omega⟩
      obtain ⟨j0, j5, jw⟩ := lim_3 j (by omega)
      have HP := hide ((unhide HP).kp hbB hl)
      clear hl y0 y1 y2
      refine hK.out _ _ trivial (fun hHeld => ?_)
      clear hK K
      try simp only [Act.put, sa, sb, sc]
      refine tk 8 (oi := ⟨some 12, Op.binOp BinOp.add 3 (Operand.const (Value.int IntKind.i64 1)) (Operand.tmp 11) 3, 3, _, _, none⟩) (v := ?_) rfl ?_ ?_
      rotate_left
      ·(intro w9 hSw; go_simp; try with_reducible rfl)
      try simp only [Act.put, sa, sb, sc]
      refine tk 9 (oi := ⟨some 13, Op.slice 24 (Operand.tmp 9) none (some (Operand.tmp 12)) none, 24, _, _, none⟩) (v := ?_) rfl ?_ ?_
      rotate_left
      ·(intro w9 hSw; go_simp; try with_reducible rfl)
      try simp only [Act.put, sa, sb, sc]
      refine tk 10 (oi := ⟨some 14, Op.build 27 #[(0, Operand.tmp 8), (1, Operand.tmp 13)], 27, _, _, none⟩) (v := ?_) rfl ?_ ?_
      rotate_left
      ·(intro w9 hSw; go_simp; try with_reducible rfl)
      try simp only [Act.put, sa, sb, sc]
      refine wpAnyH_ready (rs := [11]) (by kernel_rfl) (by simp) ?_
      refine AllReadyH.cons (i := 11) (o := ⟨some 3, Op.alloc 27, 0, _, _, none⟩) rfl (fun K hK => ?_) AllReadyH.nil
      go_simp
      have HP := hide (unhide HP).box
      refine hK.out _ _ trivial (fun hHeld => ?_)
      clear hK K
      generalize wz4.alloc (Obj.cells #[.slice none 0 0, .slice none 0 0, .slice none 0 0] 27) = wz5 at HP ⊢
      try simp only [Act.put, sa, sb, sc]
      refine wpAnyH_ready (rs := [12]) (by kernel_rfl) (by simp) ?_
      refine AllReadyH.cons (i := 12) (o := ⟨none, Op.store 27 (Operand.tmp 3) (Operand.tmp 14), 0, _, _, none⟩) rfl (fun K hK => ?_) AllReadyH.nil
      have hc := (unhide HP).c3
      obtain ⟨q0, q1, q2, f⟩ := hc
      have f0 := f 0
      have f1 := f 1
      have f2 := f 2
      clear f
      go_simp
      refine hK.out _ _ trivial (fun hHeld => ?_)
      clear hK K q0 q1 q2 f0 f1 f2
      try simp only [Act.put, sa, sb, sc]
      refine wpAnyH_done (by kernel_rfl) ?_ _
      go_wp2
      go_meet
      exact (unhide HP).fin _ _ (by omega) (by omega) hbB (Nat.le_refl _) (unhide HC)
     ·go_simp
      have HP := hide (unhide HP).box
      refine hK.out _ _ trivial (fun hHeld => ?_)
      clear hK K
      generalize wz3.alloc (Obj.cells #[.slice none 0 0, .slice none 0 0, .slice none 0 0] 27) = wz4 at HP ⊢
      try simp only [Act.put, sa, sb, sc]
      refine wpAnyH_ready (rs := [7]) (by kernel_rfl) (by simp) ?_
      refine AllReadyH.cons (i := 7) (o := ⟨some 11, Op.call { callee := Callee.value (Operand.func 78), args := #[Operand.tmp 10, Operand.const (Value.int IntKind.i64 2)], argTypes := #[61, 3] }, 3, _, _, none⟩) rfl (fun K hK => ?_) AllReadyH.nil
      go_simp
      refine (below_c _ _ _ _ _ (by decide) _ (unhide HP).1.1).mono ?_
      rintro e wz5 ⟨y, rfl, y0, y1, y2, hl⟩
      obtain ⟨j, rfl⟩ : ∃ k : Nat, y = k := ⟨y.toNat, by omega⟩
      obtain ⟨j0, j5, jw⟩ := lim_3 j (by omega)
      have HP := hide ((unhide HP).kp hbB hl)
      clear hl y0 y1 y2
      refine hK.out _ _ trivial (fun hHeld => ?_)
      clear hK K
      try simp only [Act.put, sa, sb, sc]
      refine tk 8 (oi := ⟨some 12, Op.binOp BinOp.add 3 (Operand.const (Value.int IntKind.i64 1)) (Operand.tmp 11) 3, 3, _, _, none⟩) (v := ?_) rfl ?_ ?_
      rotate_left
      ·(intro w9 hSw; go_simp; try with_reducible rfl)
      try simp only [Act.put, sa, sb, sc]
      refine tk 9 (oi := ⟨some 13, Op.slice 24 (Operand.tmp 9) none (some (Operand.tmp 12)) none, 24, _, _, none⟩) (v := ?_) rfl ?_ ?_
      rotate_left
      ·(intro w9 hSw; go_simp; try with_reducible rfl)
      try simp only [Act.put, sa, sb, sc]
      refine tk 10 (oi := ⟨some 14, Op.build 27 #[(0, Operand.tmp 8), (1, Operand.tmp 13)], 27, _, _, none⟩) (v := ?_) rfl ?_ ?_
      rotate_left
      ·(intro w9 hSw; go_simp; try with_reducible rfl)
      try simp only [Act.put, sa, sb, sc]
      refine wpAnyH_ready (rs := [12]) (by kernel_rfl) (by simp) ?_
      refine AllReadyH.cons (i := 12) (o := ⟨none, Op.store 27 (Operand.tmp 3) (Operand.tmp 14), 0, _, _, none⟩) rfl (fun K hK => ?_) AllReadyH.nil
      have hc := (unhide HP).c3
      obtain ⟨q0, q1, q2, f⟩ := hc
      have f0 := f 0
      have f1 := f 1
      have f2 := f 2
      clear f
      go_simp
      refine hK.out _ _ trivial (fun hHeld => ?_)
      clear hK K q0 q1 q2 f0 f1 f2
      try simp only [Act.put, sa, sb, sc]
      refine wpAnyH_done (by kernel_rfl) ?_ _
      go_wp2
      go_meet
      exact (unhide HP).fin _ _ (by omega) (by omega) hbB (Nat.le_refl _) (unhide HC)
    ·go_simp
     have HP := hide (unhide HP).box
     refine hK.out _ _ trivial (fun hHeld => ?_)
     clear hK K
     generalize wz2.alloc (Obj.cells #[.slice none 0 0, .slice none 0 0, .slice none 0 0] 27) = wz3 at HP ⊢
     try simp only [Act.put, sa, sb, sc]
     refine wpAnyH_ready (rs := [2]) (by kernel_rfl) (by simp) ?_
     refine AllReadyH.cons (i := 2) (o := ⟨some 6, Op.call { callee := Callee.value (Operand.func 78), args := #[Operand.tmp 5, Operand.const (Value.int IntKind.i64 4)], argTypes := #[61, 3] }, 3, _, _, none⟩) rfl (fun K hK => ?_) AllReadyH.nil
     go_simp
     refine (below_c _ _ _ _ _ (by decide) _ (unhide HP).1.1).mono ?_
     rintro e wz4 ⟨y, rfl, y0, y1, y2, hl⟩
     obtain ⟨k, rfl⟩ : ∃ k : Nat, y = k := ⟨y.toNat, by omega⟩
     obtain ⟨k0, k5, kw⟩ := lim_5 k (by omega)
     have HP := hide ((unhide HP).kp hbB hl)
     clear hl y0 y1 y2
     refine hK.out _ _ trivial (fun hHeld => ?_)
     clear hK K
     try simp only [Act.put, sa, sb, sc]
     refine tk 3 (oi := ⟨some 7, Op.binOp BinOp.add 3 (Operand.const (Value.int IntKind.i64 1)) (Operand.tmp 6) 3, 3, _, _, none⟩) (v := ?_) rfl ?_ ?_
     rotate_left
     ·(intro w9 hSw; go_simp; try with_reducible rfl)
     try simp only [Act.put, sa, sb, sc]
     refine tk 4 (oi := ⟨some 8, Op.slice 24 (Operand.tmp 4) none (some (Operand.tmp 7)) none, 24, _, _, none⟩) (v := ?_) rfl ?_ ?_
     rotate_left
     ·(intro w9 hSw; go_simp; try with_reducible rfl)
     try simp only [Act.put, sa, sb, sc]
     refine wpAnyH_ready (rs := [7]) (by kernel_rfl) (by simp) ?_
     refine AllReadyH.cons (i := 7) (o := ⟨some 11, Op.call { callee := Callee.value (Operand.func 78), args := #[Operand.tmp 10, Operand.const (Value.int IntKind.i64 2)], argTypes := #[61, 3] }, 3, _, _, none⟩) rfl (fun K hK => ?_) AllReadyH.nil
     go_simp
     refine (below_c _ _ _ _ _ (by decide) _ (unhide HP).1.1).mono ?_
     rintro e wz5 ⟨y, rfl, y0, y1, y2, hl⟩
     obtain ⟨j, rfl⟩ : ∃ k : Nat, y = k := ⟨y.toNat, by omega⟩
     obtain ⟨j0, j5, jw⟩ := lim_3 j (by omega)
     have HP := hide ((unhide HP).kp hbB hl)
     clear hl y0 y1 y2
     refine hK.out _ _ trivial (fun hHeld => ?_)
     clear hK K
     try simp only [Act.put, sa, sb, sc]
     refine tk 8 (oi := ⟨some 12, Op.binOp BinOp.add 3 (Operand.const (Value.int IntKind.i64 1)) (Operand.tmp 11) 3, 3, _, _, none⟩) (v := ?_) rfl ?_ ?_
     rotate_left
     ·(intro w9 hSw; go_simp; try with_reducible rfl)
     try simp only [Act.put, sa, sb, sc]
     refine tk 9 (oi := ⟨some 13, Op.slice 24 (Operand.tmp 9) none (some (Operand.tmp 12)) none, 24, _, _, none⟩) (v := ?_) rfl ?_ ?_
     rotate_left
     ·(intro w9 hSw; go_simp; try with_reducible rfl)
     try simp only [Act.put, sa, sb, sc]
     refine tk 10 (oi := ⟨some 14, Op.build 27 #[(0, Operand.tmp 8), (1, Operand.tmp 13)], 27, _, _, none⟩) (v := ?_) rfl ?_ ?_
     rotate_left
     ·(intro w9 hSw; go_simp; try with_reducible rfl)
     try simp only [Act.put, sa, sb, sc]
     refine wpAnyH_ready (rs := [12]) (by kernel_rfl) (by simp) ?_
     refine AllReadyH.cons (i := 12) (o := ⟨none, Op.store 27 (Operand.tmp 3) (Operand.tmp 14), 0, _, _, none⟩) rfl (fun K hK => ?_) AllReadyH.nil
     have hc := (unhide HP).c3
     obtain ⟨q0, q1, q2, f⟩ := hc
     have f0 := f 0
     have f1 := f 1
     have f2 := f 2
     clear f
     go_simp
     refine hK.out _ _ trivial (fun hHeld => ?_)
     clear hK K q0 q1 q2 f0 f1 f2
     try simp only [Act.put, sa, sb, sc]
     refine wpAnyH_done (by kernel_rfl) ?_ _
     go_wp2
     go_meet
     exact (unhide HP).fin _ _ (by omega) (by omega) hbB (Nat.le_refl _) (unhide HC)
   ·go_simp
    refine (below_c _ _ _ _ _ (by decide) _ (unhide HP).1.1).mono ?_
    rintro e wz2 ⟨y, rfl, y0, y1, y2, hl⟩
    obtain ⟨k, rfl⟩ : ∃ k : Nat, y = k := ⟨y.toNat, by omega⟩
    obtain ⟨k0, k5, kw⟩ := lim_5 k (by omega)
    have HP := hide ((unhide HP).kp hbB hl)
    clear hl y0 y1 y2
    refine hK.out _ _ trivial (fun hHeld => ?_)
    clear hK K
    try simp only [Act.put, sa, sb, sc]
    refine tk 3 (oi := ⟨some 7, Op.binOp BinOp.add 3 (Operand.const (Value.int IntKind.i64 1)) (Operand.tmp 6) 3, 3, _, _, none⟩) (v := ?_) rfl ?_ ?_
    rotate_left
    ·(intro w9 hSw; go_simp; try with_reducible rfl)
    try simp only [Act.put, sa, sb, sc]
    refine wpAnyH_ready (rs := [0, 7, 11]) (by kernel_rfl) (by simp) ?_
    refine AllReadyH.cons (i := 0) (o := ⟨some 4, Op.buildSlice 24 5 #[(0, Operand.const (Value.string { data := #[120] })), (1, Operand.const (Value.string { data := #[121] })), (2, Operand.const (Value.string { data := #[105] })), (3, Operand.const (Value.string { data := #[110] })), (4, Operand.const (Value.string { data := #[107] }))], 24, _, _, none⟩) rfl (fun K hK => ?_) (AllReadyH.cons (i := 7) (o := ⟨some 11, Op.call { callee := Callee.value (Operand.func 78), args := #[Operand.tmp 10, Operand.const (Value.int IntKind.i64 2)], argTypes := #[61, 3] }, 3, _, _, none⟩) rfl (fun K hK => ?_) (AllReadyH.cons (i := 11) (o := ⟨some 3, Op.alloc 27, 0, _, _, none⟩) rfl (fun K hK => ?_) AllReadyH.nil))
    ·go_simp
     have HP := hide (unhide HP).litV
     refine hK.out _ _ trivial (fun hHeld => ?_)
     clear hK K
     generalize wz2.alloc (Obj.cells #[.string ⟨#[120]⟩, .string ⟨#[121]⟩, .string ⟨#[105]⟩, .string ⟨#[110]⟩, .string ⟨#[107]⟩] 9) = wz3 at HP ⊢
     try simp only [Act.put, sa, sb, sc]
     refine tk 4 (oi := ⟨some 8, Op.slice 24 (Operand.tmp 4) none (some (Operand.tmp 7)) none, 24, _, _, none⟩) (v := ?_) rfl ?_ ?_
     rotate_left
     ·(intro w9 hSw; go_simp; try with_reducible rfl)
     try simp only [Act.put, sa, sb, sc]
     refine wpAnyH_ready (rs := [7, 11]) (by kernel_rfl) (by simp) ?_
     refine AllReadyH.cons (i := 7) (o := ⟨some 11, Op.call { callee := Callee.value (Operand.func 78), args := #[Operand.tmp 10, Operand.const (Value.int IntKind.i64 2)], argTypes := #[61, 3] }, 3, _, _, none⟩) rfl (fun K hK => ?_) (AllReadyH.cons (i := 11) (o := ⟨some 3, Op.alloc 27, 0, _, _, none⟩) rfl (fun K hK => ?_) AllReadyH.nil)
     ·go_simp
      refine (below_c _ _ _ _ _ (by decide) _ (unhide HP).1.1).mono ?_
      rintro e wz4 ⟨y, rfl, y0, y1, y2, hl⟩
      obtain ⟨j, rfl⟩ : ∃ k : Nat, y = k := ⟨y.toNat, by omega⟩
      obtain ⟨j0, j5, jw⟩ := lim_3 j (by omega)
      have HP := hide ((unhide HP).kp hbB hl)
      clear hl y0 y1 y2
      refine hK.out _ _ trivial (fun hHeld => ?_)
      clear hK K
      try simp only [Act.put, sa, sb, sc]
      refine tk 8 (oi := ⟨some 12, Op.binOp BinOp.add 3 (Operand.const (Value.int IntKind.i64 1)) (Operand.tmp 11) 3, 3, _, _, none⟩) (v := ?_) rfl ?_ ?_
      rotate_left
      ·(intro w9 hSw; go_simp; try with_reducible rfl)
      try simp only [Act.put, sa, sb, sc]
      refine tk 9 (oi := ⟨some 13, Op.slice 24 (Operand.tmp 9) none (some (Operand.tmp 12)) none, 24, _, _, none⟩) (v := ?_) rfl ?_ ?_
      rotate_left
      ·(intro w9 hSw; go_simp; try with_reducible rfl)
      try simp only [Act.put, sa, sb, sc]
      refine tk 10 (oi := ⟨some 14, Op.build 27 #[(0, Operand.tmp 8), (1, Operand.tmp 13)], 27, _, _, none⟩) (v := ?_) rfl ?_ ?_
      rotate_left
      ·(intro w9 hSw; go_simp; try with_reducible rfl)
      try simp only [Act.put, sa, sb, sc]
      refine wpAnyH_ready (rs := [11]) (by kernel_rfl) (by simp) ?_
      refine AllReadyH.cons (i := 11) (o := ⟨some 3, Op.alloc 27, 0, _, _, none⟩) rfl (fun K hK => ?_) AllReadyH.nil
      go_simp
      have HP := hide (unhide HP).box
      refine hK.out _ _ trivial (fun hHeld => ?_)
      clear hK K
      generalize wz4.alloc (Obj.cells #[.slice none 0 0, .slice none 0 0, .slice none 0 0] 27) = wz5 at HP ⊢
      try simp only [Act.put, sa, sb, sc]
      refine wpAnyH_ready (rs := [12]) (by kernel_rfl) (by simp) ?_
      refine AllReadyH.cons (i := 12) (o := ⟨none, Op.store 27 (Operand.tmp 3) (Operand.tmp 14), 0, _, _, none⟩) rfl (fun K hK => ?_) AllReadyH.nil
      have hc := (unhide HP).c3
      obtain ⟨q0, q1, q2, f⟩ := hc
      have f0 := f 0
      have f1 := f 1
      have f2 := f 2
      clear f
      go_simp
      refine hK.out _ _ trivial (fun hHeld => ?_)
      clear hK K q0 q1 q2 f0 f1 f2
      try simp only [Act.put, sa, sb, sc]
      refine wpAnyH_done (by kernel_rfl) ?_ _
      go_wp2
      go_meet
      exact (unhide HP).fin _ _ (by omega) (by omega) hbB (Nat.le_refl _) (unhide HC)
     ·go_simp
      have HP := hide (unhide HP).box
      refine hK.out _ _ trivial (fun hHeld => ?_)
      clear hK K
      generalize wz3.alloc (Obj.cells #[.slice none 0 0, .slice none 0 0, .slice none 0 0] 27) = wz4 at HP ⊢
      try simp only [Act.put, sa, sb, sc]
      refine wpAnyH_ready (rs := [7]) (by kernel_rfl) (by simp) ?_
      refine AllReadyH.cons (i := 7) (o := ⟨some 11, Op.call { callee := Callee.value (Operand.func 78), args := #[Operand.tmp 10, Operand.const (Value.int IntKind.i64 2)], argTypes := #[61, 3] }, 3, _, _, none⟩) rfl (fun K hK => ?_) AllReadyH.nil
      go_simp
      refine (below_c _ _ _ _ _ (by decide) _ (unhide HP).1.1).mono ?_
      rintro e wz5 ⟨y, rfl, y0, y1, y2, hl⟩
      obtain ⟨j, rfl⟩ : ∃ k : Nat, y = k := ⟨y.toNat, by omega⟩
      obtain ⟨j0, j5, jw⟩ := lim_3 j (by omega)
      have HP := hide ((unhide HP).kp hbB hl)
      clear hl y0 y1 y2
      refine hK.out _ _ trivial (fun hHeld => ?_)
      clear hK K
      try simp only [Act.put, sa, sb, sc]
      refine tk 8 (oi := ⟨some 12, Op.binOp BinOp.add 3 (Operand.const (Value.int IntKind.i64 1)) (Operand.tmp 11) 3, 3, _, _, none⟩) (v := ?_) rfl ?_ ?_
      rotate_left
      ·(intro w9 hSw; go_simp; try with_reducible rfl)
      try simp only [Act.put, sa, sb, sc]
      refine tk 9 (oi := ⟨some 13, Op.slice 24 (Operand.tmp 9) none (some (Operand.tmp 12)) none, 24, _, _, none⟩) (v := ?_) rfl ?_ ?_
      rotate_left
      ·(intro w9 hSw; go_simp; try with_reducible rfl)
      try simp only [Act.put, sa, sb, sc]
      refine tk 10 (oi := ⟨some 14, Op.build 27 #[(0, Operand.tmp 8), (1, Operand.tmp 13)], 27, _, _, none⟩) (v := ?_) rfl ?_ ?_
      rotate_left
      ·(intro w9 hSw; go_simp; try with_reducible rfl)
      try simp only [Act.put, sa, sb, sc]
      refine wpAnyH_ready (rs := [12]) (by kernel_rfl) (by simp) ?_
      refine AllReadyH.cons (i := 12) (o := ⟨none, Op.store 27 (Operand.tmp 3) (Operand.tmp 14), 0, _, _, none⟩) rfl (fun K hK => ?_) AllReadyH.nil
      have hc := (unhide HP).c3
      obtain ⟨q0, q1, q2, f⟩ := hc
      have f0 := f 0
      have f1 := f 1
      have f2 := f 2
      clear f
      go_simp
      refine hK.out _ _ trivial (fun hHeld => ?_)
      clear hK K q0 q1 q2 f0 f1 f2
      try simp only [Act.put, sa, sb, sc]
      refine wpAnyH_done (by kernel_rfl) ?_ _
      go_wp2
      go_meet
      exact (unhide HP).fin _ _ (by omega) (by omega) hbB (Nat.le_refl _) (unhide HC)
    ·go_simp
     refine (below_c _ _ _ _ _ (by decide) _ (unhide HP).1.1).mono ?_
     rintro e wz3 ⟨y, rfl, y0, y1, y2, hl⟩
     obtain ⟨j, rfl⟩ : ∃ k : Nat, y = k := ⟨y.toNat, by omega⟩
     obtain ⟨j0, j5, jw⟩ := lim_3 j (by omega)
     have HP := hide ((unhide HP).kp hbB hl)
     clear hl y0 y1 y2
     refine hK.out _ _ trivial (fun hHeld => ?_)
     clear hK K
     try simp only [Act.put, sa, sb, sc]
     refine tk 8 (oi := ⟨some 12, Op.binOp BinOp.add 3 (Operand.const (Value.int IntKind.i64 1)) (Operand.tmp 11) 3, 3, _, _, none⟩) (v := ?_) rfl ?_ ?_
     rotate_left
     ·(intro w9 hSw; go_simp; try with_reducible rfl)
     try simp only [Act.put, sa, sb, sc]
     refine tk 9 (oi := ⟨some 13, Op.slice 24 (Operand.tmp 9) none (some (Operand.tmp 12)) none, 24, _, _, none⟩) (v := ?_) rfl ?_ ?_
     rotate_left
     ·(intro w9 hSw; go_simp; try with_reducible rfl)
     try simp only [Act.put, sa, sb, sc]
     refine wpAnyH_ready (rs := [0, 11]) (by kernel_rfl) (by simp) ?_
     refine AllReadyH.cons (i := 0) (o := ⟨some 4, Op.buildSlice 24 5 #[(0, Operand.const (Value.string { data := #[120] })), (1, Operand.const (Value.string { data := #[121] })), (2, Operand.const (Value.string { data := #[105] })), (3, Operand.const (Value.string { data := #[110] })), (4, Operand.const (Value.string { data := #[107] }))], 24, _, _, none⟩) rfl (fun K hK => ?_) (AllReadyH.cons (i := 11) (o := ⟨some 3, Op.alloc 27, 0, _, _, none⟩) rfl (fun K hK => ?_) AllReadyH.nil)
     ·go_simp
      have HP := hide (unhide HP).litV
      refine hK.out _ _ trivial (fun hHeld => ?_)
      clear hK K
      generalize wz3.alloc (Obj.cells #[.string ⟨#[120]⟩, .string ⟨#[121]⟩, .string ⟨#[105]⟩, .string ⟨#[110]⟩, .string ⟨#[107]⟩] 9) = wz4 at HP ⊢
      try simp only [Act.put, sa, sb, sc]
      refine tk 4 (oi := ⟨some 8, Op.slice 24 (Operand.tmp 4) none (some (Operand.tmp 7)) none, 24, _, _, none⟩) (v := ?_) rfl ?_ ?_
      rotate_left
      ·(intro w9 hSw; go_simp; try with_reducible rfl)
      try simp only [Act.put, sa, sb, sc]
      refine tk 10 (oi := ⟨some 14, Op.build 27 #[(0, Operand.tmp 8), (1, Operand.tmp 13)], 27, _, _, none⟩) (v := ?_) rfl ?_ ?_
      rotate_left
      ·(intro w9 hSw; go_simp; try with_reducible rfl)
      try simp only [Act.put, sa, sb, sc]
      refine wpAnyH_ready (rs := [11]) (by kernel_rfl) (by simp) ?_
      refine AllReadyH.cons (i := 11) (o := ⟨some 3, Op.alloc 27, 0, _, _, none⟩) rfl (fun K hK => ?_) AllReadyH.nil
      go_simp
      have HP := hide (unhide HP).box
      refine hK.out _ _ trivial (fun hHeld => ?_)
      clear hK K
      generalize wz4.alloc (Obj.cells #[.slice none 0 0, .slice none 0 0, .slice none 0 0] 27) = wz5 at HP ⊢
      try simp only [Act.put, sa, sb, sc]
      refine wpAnyH_ready (rs := [12]) (by kernel_rfl) (by simp) ?_
      refine AllReadyH.cons (i := 12) (o := ⟨none, Op.store 27 (Operand.tmp 3) (Operand.tmp 14), 0, _, _, none⟩) rfl (fun K hK => ?_) AllReadyH.nil
      have hc := (unhide HP).c3
      obtain ⟨q0, q1, q2, f⟩ := hc
      have f0 := f 0
      have f1 := f 1
      have f2 := f 2
      clear f
      go_simp
      refine hK.out _ _ trivial (fun hHeld => ?_)
      clear hK K q0 q1 q2 f0 f1 f2
      try simp only [Act.put, sa, sb, sc]
      refine wpAnyH_done (by kernel_rfl) ?_ _
      go_wp2
      go_meet
      exact (unhide HP).fin _ _ (by omega) (by omega) hbB (Nat.le_refl _) (unhide HC)
     ·go_simp
      have HP := hide (unhide HP).box
      refine hK.out _ _ trivial (fun hHeld => ?_)
      clear hK K
      generalize wz3.alloc (Obj.cells #[.slice none 0 0, .slice none 0 0, .slice none 0 0] 27) = wz4 at HP ⊢
      try simp only [Act.put, sa, sb, sc]
      refine wpAnyH_ready (rs := [0]) (by kernel_rfl) (by simp) ?_
      refine AllReadyH.cons (i := 0) (o := ⟨some 4, Op.buildSlice 24 5 #[(0, Operand.const (Value.string { data := #[120] })), (1, Operand.const (Value.string { data := #[121] })), (2, Operand.const (Value.string { data := #[105] })), (3, Operand.const (Value.string { data := #[110] })), (4, Operand.const (Value.string { data := #[107] }))], 24, _, _, none⟩) rfl (fun K hK => ?_) AllReadyH.nil
      go_simp
      have HP := hide (unhide HP).litV
      refine hK.out _ _ trivial (fun hHeld => ?_)
      clear hK K
      generalize wz4.alloc (Obj.cells #[.string ⟨#[120]⟩, .string ⟨#[121]⟩, .string ⟨#[105]⟩, .string ⟨#[110]⟩, .string ⟨#[107]⟩] 9) = wz5 at HP ⊢
      try simp only [Act.put, sa, sb, sc]
      refine tk 4 (oi := ⟨some 8, Op.slice 24 (Operand.tmp 4) none (some (Operand.tmp 7)) none, 24, _, _, none⟩) (v := ?_) rfl ?_ ?_
      rotate_left
      ·(intro w9 hSw; go_simp; try with_reducible rfl)
      try simp only [Act.put, sa, sb, sc]
      refine tk 10 (oi := ⟨some 14, Op.build 27 #[(0, Operand.tmp 8), (1, Operand.tmp 13)], 27, _, _, none⟩) (v := ?_) rfl ?_ ?_
      rotate_left
      ·(intro w9 hSw; go_simp; try with_reducible rfl)
      try simp only [Act.put, sa, sb, sc]
      refine wpAnyH_ready (rs := [12]) (by kernel_rfl) (by simp) ?_
      refine AllReadyH.cons (i := 12) (o := ⟨none, Op.store 27 (Operand.tmp 3) (Operand.tmp 14), 0, _, _, none⟩) rfl (fun K hK => ?_) AllReadyH.nil
      have hc := (unhide HP).c3
      obtain ⟨q0, q1, q2, f⟩ := hc
      have f0 := f 0
      have f1 := f 1
      have f2 := f 2
      clear f
      go_simp
      refine hK.out _ _ trivial (fun hHeld => ?_)
      clear hK K q0 q1 q2 f0 f1 f2
      try simp only [Act.put, sa, sb, sc]
      refine wpAnyH_done (by kernel_rfl) ?_ _
      go_wp2
      go_meet
      exact (unhide HP).fin _ _ (by omega) (by omega) hbB (Nat.le_refl _) (unhide HC)
    ·go_simp
     have HP := hide (unhide HP).box
     refine hK.out _ _ trivial (fun hHeld => ?_)
     clear hK K
     generalize wz2.alloc (Obj.cells #[.slice none 0 0, .slice none 0 0, .slice none 0 0] 27) = wz3 at HP ⊢
     try simp only [Act.put, sa, sb, sc]
     refine wpAnyH_ready (rs := [0, 7]) (by kernel_rfl) (by simp) ?_
     refine AllReadyH.cons (i := 0) (o := ⟨some 4, Op.buildSlice 24 5 #[(0, Operand.const (Value.string { data := #[120] })), (1, Operand.const (Value.string { data := #[121] })), (2, Operand.const (Value.string { data := #[105] })), (3, Operand.const (Value.string { data := #[110] })), (4, Operand.const (Value.string { data := #[107] }))], 24, _, _, none⟩) rfl (fun K hK => ?_) (AllReadyH.cons (i := 7) (o := ⟨some 11, Op.call { callee := Callee.value (Operand.func 78), args := #[Operand.tmp 10, Operand.const (Value.int IntKind.i64 2)], argTypes := #[61, 3] }, 3, _, _, none⟩) rfl (fun K hK => ?_) AllReadyH.nil)
     ·go_simp
      have HP := hide (unhide HP).litV
      refine hK.out _ _ trivial (fun hHeld => ?_)
      clear hK K
      generalize wz3.alloc (Obj.cells #[.string ⟨#[120]⟩, .string ⟨#[121]⟩, .string ⟨#[105]⟩, .string ⟨#[110]⟩, .string ⟨#[107]⟩] 9) = wz4 at HP ⊢
      try simp only [Act.put, sa, sb, sc]
      refine tk 4 (oi := ⟨some 8, Op.slice 24 (Operand.tmp 4) none (some (Operand.tmp 7)) none, 24, _, _, none⟩) (v := ?_) rfl ?_ ?_
      rotate_left
      ·(intro w9 hSw; go_simp; try with_reducible rfl)
      try simp only [Act.put, sa, sb, sc]
      refine wpAnyH_ready (rs := [7]) (by kernel_rfl) (by simp) ?_
      refine AllReadyH.cons (i := 7) (o := ⟨some 11, Op.call { callee := Callee.value (Operand.func 78), args := #[Operand.tmp 10, Operand.const (Value.int IntKind.i64 2)], argTypes := #[61, 3] }, 3, _, _, none⟩) rfl (fun K hK => ?_) AllReadyH.nil
      go_simp
      refine (below_c _ _ _ _ _ (by decide) _ (unhide HP).1.1).mono ?_
      rintro e wz5 ⟨y, rfl, y0, y1, y2, hl⟩
      obtain ⟨j, rfl⟩ : ∃ k : Nat, y = k := ⟨y.toNat, by omega⟩
      obtain ⟨j0, j5, jw⟩ := lim_3 j (by omega)
      have HP := hide ((unhide HP).kp hbB hl)
      clear hl y0 y1 y2
      refine hK.out _ _ trivial (fun hHeld => ?_)
      clear hK K
      try simp only [Act.put, sa, sb, sc]
      refine tk 8 (oi := ⟨some 12, Op.binOp BinOp.add 3 (Operand.const (Value.int IntKind.i64 1)) (Operand.tmp 11) 3, 3, _, _, none⟩) (v := ?_) rfl ?_ ?_
      rotate_left
      ·(intro w9 hSw; go_simp; try with_reducible rfl)
      try simp only [Act.put, sa, sb, sc]
      refine tk 9 (oi := ⟨some 13, Op.slice 24 (Operand.tmp 9) none (some (Operand.tmp 12)) none, 24, _, _, none⟩) (v := ?_) rfl ?_ ?_
      rotate_left
      ·(intro w9 hSw; go_simp; try with_reducible rfl)
      try simp only [Act.put, sa, sb, sc]
      refine tk 10 (oi := ⟨some 14, Op.build 27 #[(0, Operand.tmp 8), (1, Operand.tmp 13)], 27, _, _, none⟩) (v := ?_) rfl ?_ ?_
      rotate_left
      ·(intro w9 hSw; go_simp; try with_reducible rfl)
      try simp only [Act.put, sa, sb, sc]
      refine wpAnyH_ready (rs := [12]) (by kernel_rfl) (by simp) ?_
      refine AllReadyH.cons (i := 12) (o := ⟨none, Op.store 27 (Operand.tmp 3) (Operand.tmp 14), 0, _, _, none⟩) rfl (fun K hK => ?_) AllReadyH.nil
      have hc := (unhide HP).c3
      obtain ⟨q0, q1, q2, f⟩ := hc
      have f0 := f 0
      have f1 := f 1
      have f2 := f 2
      clear f
      go_simp
      refine hK.out _ _ trivial (fun hHeld => ?_)
      clear hK K q0 q1 q2 f0 f1 f2
      try simp only [Act.put, sa, sb, sc]
      refine wpAnyH_done (by kernel_rfl) ?_ _
      go_wp2
      go_meet
      exact (unhide HP).fin _ _ (by omega) (by omega) hbB (Nat.le_refl _) (unhide HC)
     ·go_simp
      refine (below_c _ _ _ _ _ (by decide) _ (unhide HP).1.1).mono ?_
      rintro e wz4 ⟨y, rfl, y0, y1, y2, hl⟩
      obtain ⟨j, rfl⟩ : ∃ k : Nat, y = k := ⟨y.toNat, by omega⟩
      obtain ⟨j0, j5, jw⟩ := lim_3 j (by omega)
      have HP := hide ((unhide HP).kp hbB hl)
      clear hl y0 y1 y2
      refine hK.out _ _ trivial (fun hHeld => ?_)
      clear hK K
      try simp only [Act.put, sa, sb, sc]
      refine tk 8 (oi := ⟨some 12, Op.binOp BinOp.add 3 (Operand.const (Value.int IntKind.i64 1)) (Operand.tmp 11) 3, 3, _, _, none⟩) (v := ?_) rfl ?_ ?_
      rotate_left
      ·(intro w9 hSw; go_simp; try with_reducible rfl)
      try simp only [Act.put, sa, sb, sc]
      refine tk 9 (oi := ⟨some 13, Op.slice 24 (Operand.tmp 9) none (some (Operand.tmp 12)) none, 24, _, _, none⟩) (v := ?_) rfl ?_ ?_
      rotate_left
      ·(intro w9 hSw; go_simp; try with_reducible rfl)
      try simp only [Act.put, sa, sb, sc]
      refine wpAnyH_ready (rs := [0]) (by kernel_rfl) (by simp) ?_
      refine AllReadyH.cons (i := 0) (o := ⟨some 4, Op.buildSlice 24 5 #[(0, Operand.const (Value.string { data := #[120] })), (1, Operand.const (Value.string { data := #[121] })), (2, Operand.const (Value.string { data := #[105] })), (3, Operand.const (Value.string { data := #[110] })), (4, Operand.const (Value.string { data := #[107] }))], 24, _, _, none⟩) rfl (fun K hK => ?_) AllReadyH.nil
      go_simp
      have HP := hide (unhide HP).litV
      refine hK.out _ _ trivial (fun hHeld => ?_)
      clear hK K
      generalize wz4.alloc (Obj.cells #[.string ⟨#[120]⟩, .string ⟨#[121]⟩, .string ⟨#[105]⟩, .string ⟨#[110]⟩, .string ⟨#[107]⟩] 9) = wz5 at HP ⊢
      try simp only [Act.put, sa, sb, sc]
      refine tk 4 (oi := ⟨some 8, Op.slice 24 (Operand.tmp 4) none (some (Operand.tmp 7)) none, 24, _, _, none⟩) (v := ?_) rfl ?_ ?_
      rotate_left
      ·(intro w9 hSw; go_simp; try with_reducible rfl)
      try simp only [Act.put, sa, sb, sc]
      refine tk 10 (oi := ⟨some 14, Op.build 27 #[(0, Operand.tmp 8), (1, Operand.tmp 13)], 27, _, _, none⟩) (v := ?_) rfl ?_ ?_
      rotate_left
      ·(intro w9 hSw; go_simp; try with_reducible rfl)
      try simp only [Act.put, sa, sb, sc]
      refine wpAnyH_ready (rs := [12]) (by kernel_rfl) (by simp) ?_
      refine AllReadyH.cons (i := 12) (o := ⟨none, Op.store 27 (Operand.tmp 3) (Operand.tmp 14), 0, _, _, none⟩) rfl (fun K hK => ?_) AllReadyH.nil
      have hc := (unhide HP).c3
      obtain ⟨q0, q1, q2, f⟩ := hc
      have f0 := f 0
      have f1 := f 1
      have f2 := f 2
      clear f
      go_simp
      refine hK.out _ _ trivial (fun hHeld => ?_)
      clear hK K q0 q1 q2 f0 f1 f2
      try simp only [Act.put, sa, sb, sc]
      refine wpAnyH_done (by kernel_rfl) ?_ _
      go_wp2
      go_meet
      exact (unhide HP).fin _ _ (by omega) (by omega) hbB (Nat.le_refl _) (unhide HC)
   ·go_simp
    have HP := hide (unhide HP).box
    refine hK.out _ _ trivial (fun hHeld => ?_)
    clear hK K
    generalize wz1.alloc (Obj.cells #[.slice none 0 0, .slice none 0 0, .slice none 0 0] 27) = wz2 at HP ⊢
    try simp only [Act.put, sa, sb, sc]
    refine wpAnyH_ready (rs := [0, 2]) (by kernel_rfl) (by simp) ?_
    refine AllReadyH.cons (i := 0) (o := ⟨some 4, Op.buildSlice 24 5 #[(0, Operand.const (Value.string { data := #[120] })), (1, Operand.const (Value.string { data := #[121] })), (2, Operand.const (Value.string { data := #[105] })), (3, Operand.const (Value.string { data := #[110] })), (4, Operand.const (Value.string { data := #[107] }))], 24, _, _, none⟩) rfl (fun K hK => ?_) (AllReadyH.cons (i := 2) (o := ⟨some 6, Op.call { callee := Callee.value (Operand.func 78), args := #[Operand.tmp 5, Operand.const (Value.int IntKind.i64 4)], argTypes := #[61, 3] }, 3, _, _, none⟩) rfl (fun K hK => ?_) AllReadyH.nil)
    ·go_simp
     have HP := hide (unhide HP).litV
     refine hK.out _ _ trivial (fun hHeld => ?_)
     clear hK K
     generalize wz2.alloc (Obj.cells #[.string ⟨#[120]⟩, .string ⟨#[121]⟩, .string ⟨#[105]⟩, .string ⟨#[110]⟩, .string ⟨#[107]⟩] 9) = wz3 at HP ⊢
     try simp only [Act.put, sa, sb, sc]
     refine wpAnyH_ready (rs := [2]) (by kernel_rfl) (by simp) ?_
     refine AllReadyH.cons (i := 2) (o := ⟨some 6, Op.call { callee := Callee.value (Operand.func 78), args := #[Operand.tmp 5, Operand.const (Value.int IntKind.i64 4)], argTypes := #[61, 3] }, 3, _, _, none⟩) rfl (fun K hK => ?_) AllReadyH.nil
     go_simp
     refine (below_c _ _ _ _ _ (by decide) _ (unhide HP).1.1).mono ?_
     rintro e wz4 ⟨y, rfl, y0, y1, y2, hl⟩
     obtain ⟨k, rfl⟩ : ∃ k : Nat, y = k := ⟨y.toNat, by omega⟩
     obtain ⟨k0, k5, kw⟩ := lim_5 k (by omega)
     have HP := hide ((unhide HP).kp hbB hl)
     clear hl y0 y1 y2
     refine hK.out _ _ trivial (fun hHeld => ?_)
     clear hK K
     try simp only [Act.put, sa, sb, sc]
     refine tk 3 (oi := ⟨some 7, Op.binOp BinOp.add 3 (Operand.const (Value.int IntKind.i64 1)) (Operand.tmp 6) 3, 3, _, _, none⟩) (v := ?_) rfl ?_ ?_
     rotate_left
     ·(intro w9 hSw; go_simp; try with_reducible rfl)
     try simp only [Act.put, sa, sb, sc]
     refine tk 4 (oi := ⟨some 8, Op.slice 24 (Operand.tmp 4) none (some (Operand.tmp 7)) none, 24, _, _, none⟩) (v := ?_) rfl ?_ ?_
     rotate_left
     ·(intro w9 hSw; go_simp; try with_reducible rfl)
     try simp only [Act.put, sa, sb, sc]
     refine wpAnyH_ready (rs := [7]) (by kernel_rfl) (by simp) ?_
     refine AllReadyH.cons (i := 7) (o := ⟨some 11, Op.call { callee := Callee.value (Operand.func 78), args := #[Operand.tmp 10, Operand.const (Value.int IntKind.i64 2)], argTypes := #[61, 3] }, 3, _, _, none⟩) rfl (fun K hK => ?_) AllReadyH.nil
     go_simp
     refine (below_c _ _ _ _ _ (by decide) _ (unhide HP).1.1).mono ?_
     rintro e wz5 ⟨y, rfl, y0, y1, y2, hl⟩
     obtain ⟨j, rfl⟩ : ∃ k : Nat, y = k := ⟨y.toNat, by omega⟩
     obtain ⟨j0, j5, jw⟩ := lim_3 j (by omega)
     have HP := hide ((unhide HP).kp hbB hl)
     clear hl y0 y1 y2
     refine hK.out _ _ trivial (fun hHeld => ?_)
     clear hK K
     try simp only [Act.put, sa, sb, sc]
     refine tk 8 (oi := ⟨some 12, Op.binOp BinOp.add 3 (Operand.const (Value.int IntKind.i64 1)) (Operand.tmp 11) 3, 3, _, _, none⟩) (v := ?_) rfl ?_ ?_
     rotate_left
     ·(intro w9 hSw; go_simp; try with_reducible rfl)
     try simp only [Act.put, sa, sb, sc]
     refine tk 9 (oi := ⟨some 13, Op.slice 24 (Operand.tmp 9) none (some (Operand.tmp 12)) none, 24, _, _, none⟩) (v := ?_) rfl ?_ ?_
     rotate_left
     ·(intro w9 hSw; go_simp; try with_reducible rfl)
     try simp only [Act.put, sa, sb, sc]
     refine tk 10 (oi := ⟨some 14, Op.build 27 #[(0, Operand.tmp 8), (1, Operand.tmp 13)], 27, _, _, none⟩) (v := ?_) rfl ?_ ?_
     rotate_left
     ·(intro w9 hSw; go_simp; try with_reducible rfl)
     try simp only [Act.put, sa, sb, sc]
     refine wpAnyH_ready (rs := [12]) (by kernel_rfl) (by simp) ?_
     refine AllReadyH.cons (i := 12) (o := ⟨none, Op.store 27 (Operand.tmp 3) (Operand.tmp 14), 0, _, _, none⟩) rfl (fun K hK => ?_) AllReadyH.nil
     have hc := (unhide HP).c3
     obtain ⟨q0, q1, q2, f⟩ := hc
     have f0 := f 0
     have f1 := f 1
     have f2 := f 2
     clear f
     go_simp
     refine hK.out _ _ trivial (fun hHeld => ?_)
     clear hK K q0 q1 q2 f0 f1 f2
     try simp only [Act.put, sa, sb, sc]
     refine wpAnyH_done (by kernel_rfl) ?_ _
     go_wp2
     go_meet
     exact (unhide HP).fin _ _ (by omega) (by omega) hbB (Nat.le_refl _) (unhide HC)
    ·go_simp
     refine (below_c _ _ _ _ _ (by decide) _ (unhide HP).1.1).mono ?_
     rintro e wz3 ⟨y, rfl, y0, y1, y2, hl⟩
     obtain ⟨k, rfl⟩ : ∃ k : Nat, y = k := ⟨y.toNat, by omega⟩
     obtain ⟨k0, k5, kw⟩ := lim_5 k (by omega)
     have HP := hide ((unhide HP).kp hbB hl)
     clear hl y0 y1 y2
     refine hK.out _ _ trivial (fun hHeld => ?_)
     clear hK K
     try simp only [Act.put, sa, sb, sc]
     refine tk 3 (oi := ⟨some 7, Op.binOp BinOp.add 3 (Operand.const (Value.int IntKind.i64 1)) (Operand.tmp 6) 3, 3, _, _, none⟩) (v := ?_) rfl ?_ ?_
     rotate_left
     ·(intro w9 hSw; go_simp; try with_reducible rfl)
     try simp only [Act.put, sa, sb, sc]
     refine wpAnyH_ready (rs := [0, 7]) (by kernel_rfl) (by simp) ?_
     refine AllReadyH.cons (i := 0) (o := ⟨some 4, Op.buildSlice 24 5 #[(0, Operand.const (Value.string { data := #[120] })), (1, Operand.const (Value.string { data := #[121] })), (2, Operand.const (Value.string { data := #[105] })), (3, Operand.const (Value.string { data := #[110] })), (4, Operand.const (Value.string { data := #[107] }))], 24, _, _, none⟩) rfl (fun K hK => ?_) (AllReadyH.cons (i := 7) (o := ⟨some 11, Op.call { callee := Callee.value (Operand.func 78), args := #[Operand.tmp 10, Operand.const (Value.int IntKind.i64 2)], argTypes := #[61, 3] }, 3, _, _, none⟩) rfl (fun K hK => ?_) AllReadyH.nil)
     ·go_simp
      have HP := hide (unhide HP).litV
      refine hK.out _ _ trivial (fun hHeld => ?_)
      clear hK K
      generalize wz3.alloc (Obj.cells #[.string ⟨#[120]⟩, .string ⟨#[121]⟩, .string ⟨#[105]⟩, .string ⟨#[110]⟩, .string ⟨#[107]⟩] 9) = wz4 at HP ⊢
      try simp only [Act.put, sa, sb, sc]
      refine tk 4 (oi := ⟨some 8, Op.slice 24 (Operand.tmp 4) none (some (Operand.tmp 7)) none, 24, _, _, none⟩) (v := ?_) rfl ?_ ?_
      rotate_left
      ·(intro w9 hSw; go_simp; try with_reducible rfl)
      try simp only [Act.put, sa, sb, sc]
      refine wpAnyH_ready (rs := [7]) (by kernel_rfl) (by simp) ?_
      refine AllReadyH.cons (i := 7) (o := ⟨some 11, Op.call { callee := Callee.value (Operand.func 78), args := #[Operand.tmp 10, Operand.const (Value.int IntKind.i64 2)], argTypes := #[61, 3] }, 3, _, _, none⟩) rfl (fun K hK => ?_) AllReadyH.nil
      go_simp
      refine (below_c _ _ _ _ _ (by decide) _ (unhide HP).1.1).mono ?_
      rintro e wz5 ⟨y, rfl, y0, y1, y2, hl⟩
      obtain ⟨j, rfl⟩ : ∃ k : Nat, y = k := ⟨y.toNat, by omega⟩
      obtain ⟨j0, j5, jw⟩ := lim_3 j (by omega)
      have HP := hide ((unhide HP).kp hbB hl)
      clear hl y0 y1 y2
      refine hK.out _ _ trivial (fun hHeld => ?_)
      clear hK K
      try simp only [Act.put, sa, sb, sc]
      refine tk 8 (oi := ⟨some 12, Op.binOp BinOp.add 3 (Operand.const (Value.int IntKind.i64 1)) (Operand.tmp 11) 3, 3, _, _, none⟩) (v := ?_) rfl ?_ ?_
      rotate_left
      ·(intro w9 hSw; go_simp; try with_reducible rfl)
      try simp only [Act.put, sa, sb, sc]
      refine tk 9 (oi := ⟨some 13, Op.slice 24 (Operand.tmp 9) none (some (Operand.tmp 12)) none, 24, _, _, none⟩) (v := ?_) rfl ?_ ?_
      rotate_left
      ·(intro w9 hSw; go_simp; try with_reducible rfl)
      try simp only [Act.put, sa, sb, sc]
      refine tk 10 (oi := ⟨some 14, Op.build 27 #[(0, Operand.tmp 8), (1, Operand.tmp 13)], 27, _, _, none⟩) (v := ?_) rfl ?_ ?_
      rotate_left
      ·(intro w9 hSw; go_simp; try with_reducible rfl)
      try simp only [Act.put, sa, sb, sc]
      refine wpAnyH_ready (rs := [12]) (by kernel_rfl) (by simp) ?_
      refine AllReadyH.cons (i := 12) (o := ⟨none, Op.store 27 (Operand.tmp 3) (Operand.tmp 14), 0, _, _, none⟩) rfl (fun K hK => ?_) AllReadyH.nil
      have hc := (unhide HP).c3
      obtain ⟨q0, q1, q2, f⟩ := hc
      have f0 := f 0
      have f1 := f 1
      have f2 := f 2
      clear f
      go_simp
      refine hK.out _ _ trivial (fun hHeld => ?_)
      clear hK K q0 q1 q2 f0 f1 f2
      try simp only [Act.put, sa, sb, sc]
      refine wpAnyH_done (by kernel_rfl) ?_ _
      go_wp2
      go_meet
      exact (unhide HP).fin _ _ (by omega) (by omega) hbB (Nat.le_refl _) (unhide HC)
     ·go_simp
      refine (below_c _ _ _ _ _ (by decide) _ (unhide HP).1.1).mono ?_
      rintro e wz4 ⟨y, rfl, y0, y1, y2, hl⟩
      obtain ⟨j, rfl⟩ : ∃ k : Nat, y = k := ⟨y.toNat, by omega⟩
      obtain ⟨j0, j5, jw⟩ := lim_3 j (by omega)
      have HP := hide ((unhide HP).kp hbB hl)
      clear hl y0 y1 y2
      refine hK.out _ _ trivial (fun hHeld => ?_)
      clear hK K
      try simp only [Act.put, sa, sb, sc]
      refine tk 8 (oi := ⟨some 12, Op.binOp BinOp.add 3 (Operand.const (Value.int IntKind.i64 1)) (Operand.tmp 11) 3, 3, _, _, none⟩) (v := ?_) rfl ?_ ?_
      rotate_left
      ·(intro w9 hSw; go_simp; try with_reducible rfl)
      try simp only [Act.put, sa, sb, sc]
      refine tk 9 (oi := ⟨some 13, Op.slice 24 (Operand.tmp 9) none (some (Operand.tmp 12)) none, 24, _, _, none⟩) (v := ?_) rfl ?_ ?_
      rotate_left
      ·(intro w9 hSw; go_simp; try with_reducible rfl)
      try simp only [Act.put, sa, sb, sc]
      refine wpAnyH_ready (rs := [0]) (by kernel_rfl) (by simp) ?_
      refine AllReadyH.cons (i := 0) (o := ⟨some 4, Op.buildSlice 24 5 #[(0, Operand.const (Value.string { data := #[120] })), (1, Operand.const (Value.string { data := #[121] })), (2, Operand.const (Value.string { data := #[105] })), (3, Operand.const (Value.string { data := #[110] })), (4, Operand.const (Value.string { data := #[107] }))], 24, _, _, none⟩) rfl (fun K hK => ?_) AllReadyH.nil
      go_simp
      have HP := hide (unhide HP).litV
      refine hK.out _ _ trivial (fun hHeld => ?_)
      clear hK K
      generalize wz4.alloc (Obj.cells #[.string ⟨#[120]⟩, .string ⟨#[121]⟩, .string ⟨#[105]⟩, .string ⟨#[110]⟩, .string ⟨#[107]⟩] 9) = wz5 at HP ⊢
      try simp only [Act.put, sa, sb, sc]
      refine tk 4 (oi := ⟨some 8, Op.slice 24 (Operand.tmp 4) none (some (Operand.tmp 7)) none, 24, _, _, none⟩) (v := ?_) rfl ?_ ?_
      rotate_left
      ·(intro w9 hSw; go_simp; try with_reducible rfl)
      try simp only [Act.put, sa, sb, sc]
      refine tk 10 (oi := ⟨some 14, Op.build 27 #[(0, Operand.tmp 8), (1, Operand.tmp 13)], 27, _, _, none⟩) (v := ?_) rfl ?_ ?_
      rotate_left
      ·(intro w9 hSw; go_simp; try with_reducible rfl)
      try simp only [Act.put, sa, sb, sc]
      refine wpAnyH_ready (rs := [12]) (by kernel_rfl) (by simp) ?_
      refine AllReadyH.cons (i := 12) (o := ⟨none, Op.store 27 (Operand.tmp 3) (Operand.tmp 14), 0, _, _, none⟩) rfl (fun K hK => ?_) AllReadyH.nil
      have hc := (unhide HP).c3
      obtain ⟨q0, q1, q2, f⟩ := hc
      have f0 := f 0
      have f1 := f 1
      have f2 := f 2
      clear f
      go_simp
      refine hK.out _ _ trivial (fun hHeld => ?_)
      clear hK K q0 q1 q2 f0 f1 f2
      try simp only [Act.put, sa, sb, sc]
      refine wpAnyH_done (by kernel_rfl) ?_ _
      go_wp2
      go_meet
      exact (unhide HP).fin _ _ (by omega) (by omega) hbB (Nat.le_refl _) (unhide HC)
  ·go_simp
   have HP := hide (unhide HP).box
   refine hK.out _ _ trivial (fun hHeld => ?_)
   clear hK K
   generalize wz0.alloc (Obj.cells #[.slice none 0 0, .slice none 0 0, .slice none 0 0] 27) = wz1 at HP ⊢
   try simp only [Act.put, sa, sb, sc]
   refine wpAnyH_ready (rs := [0, 2, 5]) (by kernel_rfl) (by simp) ?_
   refine AllReadyH.cons (i := 0) (o := ⟨some 4, Op.buildSlice 24 5 #[(0, Operand.const (Value.string { data := #[120] })), (1, Operand.const (Value.string { data := #[121] })), (2, Operand.const (Value.string { data := #[105] })), (3, Operand.const (Value.string { data := #[110] })), (4, Operand.const (Value.string { data := #[107] }))], 24, _, _, none⟩) rfl (fun K hK => ?_) (AllReadyH.cons (i := 2) (o := ⟨some 6, Op.call { callee := Callee.value (Operand.func 78), args := #[Operand.tmp 5, Operand.const (Value.int IntKind.i64 4)], argTypes := #[61, 3] }, 3, _, _, none⟩) rfl (fun K hK => ?_) (AllReadyH.cons (i := 5) (o := ⟨some 9, Op.buildSlice 24 3 #[(0, Operand.const (Value.string { data := #[98] })), (1, Operand.const (Value.string { data := #[99] })), (2, Operand.const (Value.string { data := #[102] }))], 24, _, _, none⟩) rfl (fun K hK => ?_) AllReadyH.nil))
   ·go_simp
    have HP := hide (unhide HP).litV
    refine hK.out _ _ trivial (fun hHeld => ?_)
    clear hK K
    generalize wz1.alloc (Obj.cells #[.string ⟨#[120]⟩, .string ⟨#[121]⟩, .string ⟨#[105]⟩, .string ⟨#[110]⟩, .string ⟨#[107]⟩] 9) = wz2 at HP ⊢
    try simp only [Act.put, sa, sb, sc]
    refine wpAnyH_ready (rs := [2, 5]) (by kernel_rfl) (by simp) ?_
    refine AllReadyH.cons (i := 2) (o := ⟨some 6, Op.call { callee := Callee.value (Operand.func 78), args := #[Operand.tmp 5, Operand.const (Value.int IntKind.i64 4)], argTypes := #[61, 3] }, 3, _, _, none⟩) rfl (fun K hK => ?_) (AllReadyH.cons (i := 5) (o := ⟨some 9, Op.buildSlice 24 3 #[(0, Operand.const (Value.string { data := #[98] })), (1, Operand.const (Value.string { data := #[99] })), (2, Operand.const (Value.string { data := #[102] }))], 24, _, _, none⟩) rfl (fun K hK => ?_) AllReadyH.nil)
    ·go_simp
     refine (below_c _ _ _ _ _ (by decide) _ (unhide HP).1.1).mono ?_
     rintro e wz3 ⟨y, rfl, y0, y1, y2, hl⟩
     obtain ⟨k, rfl⟩ : ∃ k : Nat, y = k := ⟨y.toNat, by omega⟩
     obtain ⟨k0, k5, kw⟩ := lim_5 k (by omega)
     have HP := hide ((unhide HP).kp hbB hl)
     clear hl y0 y1 y2
     refine hK.out _ _ trivial (fun hHeld => ?_)
     clear hK K
     try simp only [Act.put, sa, sb, sc]
     refine tk 3 (oi := ⟨some 7, Op.binOp BinOp.add 3 (Operand.const (Value.int IntKind.i64 1)) (Operand.tmp 6) 3, 3, _, _, none⟩) (v := ?_) rfl ?_ ?_
     rotate_left
     ·(intro w9 hSw; go_simp; try with_reducible rfl)
     try simp only [Act.put, sa, sb, sc]
     refine tk 4 (oi := ⟨some 8, Op.slice 24 (Operand.tmp 4) none (some (Operand.tmp 7)) none, 24, _, _, none⟩) (v := ?_) rfl ?_ ?_
     rotate_left
     ·(intro w9 hSw; go_simp; try with_reducible rfl)
     try simp only [Act.put, sa, sb, sc]
     refine wpAnyH_ready (rs := [5, 7]) (by kernel_rfl) (by simp) ?_
     refine AllReadyH.cons (i := 5) (o := ⟨some 9, Op.buildSlice 24 3 #[(0, Operand.const (Value.string { data := #[98] })), (1, Operand.const (Value.string { data := #[99] })), (2, Operand.const (Value.string { data := #[102] }))], 24, _, _, none⟩) rfl (fun K hK => ?_) (AllReadyH.cons (i := 7) (o := ⟨some 11, Op.call { callee := Callee.value (Operand.func 78), args := #[Operand.tmp 10, Operand.const (Value.int IntKind.i64 2)], argTypes := #[61, 3] }, 3, _, _, none⟩) rfl (fun K hK => ?_) AllReadyH.nil)
     ·go_simp
      have HP := hide (unhide HP).litF
      refine hK.out _ _ trivial (fun hHeld => ?_)
      clear hK K
      generalize wz3.alloc (Obj.cells #[.string ⟨#[98]⟩, .string ⟨#[99]⟩, .string ⟨#[102]⟩] 9) = wz4 at HP ⊢
      try simp only [Act.put, sa, sb, sc]
      refine wpAnyH_ready (rs := [7]) (by kernel_rfl) (by simp) ?_
      refine AllReadyH.cons (i := 7) (o := ⟨some 11, Op.call { callee := Callee.value (Operand.func 78), args := #[Operand.tmp 10, Operand.const (Value.int IntKind.i64 2)], argTypes := #[61, 3] }, 3, _, _, none⟩) rfl (fun K hK => ?_) AllReadyH.nil
      go_simp
      refine (below_c _ _ _ _ _ (by decide) _ (unhide HP).1.1).mono ?_
      rintro e wz5 ⟨y, rfl, y0, y1, y2, hl⟩
      obtain ⟨j, rfl⟩ : ∃ k : Nat, y = k := ⟨y.toNat, by omega⟩
      obtain ⟨j0, j5, jw⟩ := lim_3 j (by omega)
      have HP := hide ((unhide HP).kp hbB hl)
      clear hl y0 y1 y2
      refine hK.out _ _ trivial (fun hHeld => ?_)
      clear hK K
      try simp only [Act.put, sa, sb, sc]
      refine tk 8 (oi := ⟨some 12, Op.binOp BinOp.add 3 (Operand.const (Value.int IntKind.i64 1)) (Operand.tmp 11) 3, 3, _, _, none⟩) (v := ?_) rfl ?_ ?_
      rotate_left
      ·(intro w9 hSw; go_simp; try with_reducible rfl)
      try simp only [Act.put, sa, sb, sc]
      refine tk 9 (oi := ⟨some 13, Op.slice 24 (Operand.tmp 9) none (some (Operand.tmp 12)) none, 24, _, _, none⟩) (v := ?_) rfl ?_ ?_
      rotate_left
      ·(intro w9 hSw; go_simp; try with_reducible rfl)
      try simp only [Act.put, sa, sb, sc]
      refine tk 10 (oi := ⟨some 14, Op.build 27 #[(0, Operand.tmp 8), (1, Operand.tmp 13)], 27, _, _, none⟩) (v := ?_) rfl ?_ ?_
      rotate_left
      ·(intro w9 hSw; go_simp; try with_reducible rfl)
      try simp only [Act.put, sa, sb, sc]
      refine wpAnyH_ready (rs := [12]) (by kernel_rfl) (by simp) ?_
      refine AllReadyH.cons (i := 12) (o := ⟨none, Op.store 27 (Operand.tmp 3) (Operand.tmp 14), 0, _, _, none⟩) rfl (fun K hK => ?_) AllReadyH.nil
      have hc := (unhide HP).c3
      obtain ⟨q0, q1, q2, f⟩ := hc
      have f0 := f 0
      have f1 := f 1
      have f2 := f 2
      clear f
      go_simp
      refine hK.out _ _ trivial (fun hHeld => ?_)
      clear hK K q0 q1 q2 f0 f1 f2
      try simp only [Act.put, sa, sb, sc]
      refine wpAnyH_done (by kernel_rfl) ?_ _
      go_wp2
      go_meet
      exact (unhide HP).fin _ _ (by omega) (by omega) hbB (Nat.le_refl _) (unhide HC)
     ·go_simp
      refine (below_c _ _ _ _ _ (by decide) _ (unhide HP).1.1).mono ?_
      rintro e wz4 ⟨y, rfl, y0, y1, y2, hl⟩
      obtain ⟨j, rfl⟩ : ∃ k : Nat, y = k := ⟨y.toNat, by omega⟩
      obtain ⟨j0, j5, jw⟩ := lim_3 j (by omega)
      have HP := hide ((unhide HP).kp hbB hl)
      clear hl y0 y1 y2
      refine hK.out _ _ trivial (fun hHeld => ?_)
      clear hK K
      try simp only [Act.put, sa, sb, sc]
      refine tk 8 (oi := ⟨some 12, Op.binOp BinOp.add 3 (Operand.const (Value.int IntKind.i64 1)) (Operand.tmp 11) 3, 3, _, _, none⟩) (v := ?_) rfl ?_ ?_
      rotate_left
      ·(intro w9 hSw; go_simp; try with_reducible rfl)
      try simp only [Act.put, sa, sb, sc]
      refine wpAnyH_ready (rs := [5]) (by kernel_rfl) (by simp) ?_
      refine AllReadyH.cons (i := 5) (o := ⟨some 9, Op.buildSlice 24 3 #[(0, Operand.const (Value.string { data := #[98] })), (1, Operand.const (Value.string { data := #[99] })), (2, Operand.const (Value.string { data := #[102] }))], 24, _, _, none⟩) rfl (fun K hK => ?_) AllReadyH.nil
      go_simp
      have HP := hide (unhide HP).litF
      refine hK.out _ _ trivial (fun hHeld => ?_)
      clear hK K
      generalize wz4.alloc (Obj.cells #[.string ⟨#[98]⟩, .string ⟨#[99]⟩, .string ⟨#[102]⟩] 9) = wz5 at HP ⊢
      try simp only [Act.put, sa, sb, sc]
      refine tk 9 (oi := ⟨some 13, Op.slice 24 (Operand.tmp 9) none (some (Operand.tmp 12)) none, 24, _, _, none⟩) (v := ?_) rfl ?_ ?_
      rotate_left
      ·(intro w9 hSw; go_simp; try with_reducible rfl)
      try simp only [Act.put, sa, sb, sc]
      refine tk 10 (oi := ⟨some 14, Op.build 27 #[(0, Operand.tmp 8), (1, Operand.tmp 13)], 27, _, _, none⟩) (v := ?_) rfl ?_ ?_
      rotate_left
      ·(intro w9 hSw; go_simp; try with_reducible rfl)
      try simp only [Act.put, sa, sb, sc]
      refine wpAnyH_ready (rs := [12]) (by kernel_rfl) (by simp) ?_
      refine AllReadyH.cons (i := 12) (o := ⟨none, Op.store 27 (Operand.tmp 3) (Operand.tmp 14), 0, _, _, none⟩) rfl (fun K hK => ?_) AllReadyH.nil
      have hc := (unhide HP).c3
      obtain ⟨q0, q1, q2, f⟩ := hc
      have f0 := f 0
      have f1 := f 1
      have f2 := f 2
      clear f
      go_simp
      refine hK.out _ _ trivial (fun hHeld => ?_)
      clear hK K q0 q1 q2 f0 f1 f2
      try simp only [Act.put, sa, sb, sc]
      refine wpAnyH_done (by kernel_rfl) ?_ _
      go_wp2
      go_meet
      exact (unhide HP).fin _ _ (by omega) (by omega) hbB (Nat.le_refl _) (unhide HC)
    ·go_simp
     have HP := hide (unhide HP).litF
     refine hK.out _ _ trivial (fun hHeld => ?_)
     clear hK K
     generalize wz2.alloc (Obj.cells #[.string ⟨#[98]⟩, .string ⟨#[99]⟩, .string ⟨#[102]⟩] 9) = wz3 at HP ⊢
     try simp only [Act.put, sa, sb, sc]
     refine wpAnyH_ready (rs := [2]) (by kernel_rfl) (by simp) ?_
     refine AllReadyH.cons (i := 2) (o := ⟨some 6, Op.call { callee := Callee.value (Operand.func 78), args := #[Operand.tmp 5, Operand.const (Value.int IntKind.i64 4)], argTypes := #[61, 3] }, 3, _, _, none⟩) rfl (fun K hK => ?_) AllReadyH.nil
     go_simp
     refine (below_c _ _ _ _ _ (by decide) _ (unhide HP).1.1).mono ?_
     rintro e wz4 ⟨y, rfl, y0, y1, y2, hl⟩
     obtain ⟨k, rfl⟩ : ∃ k : Nat, y = k := ⟨y.toNat, by omega⟩
     obtain ⟨k0, k5, kw⟩ := lim_5 k (by omega)
     have HP := hide ((unhide HP).kp hbB hl)
     clear hl y0 y1 y2
     refine hK.out _ _ trivial (fun hHeld => ?_)
     clear hK K
     try simp only [Act.put, sa, sb, sc]
     refine tk 3 (oi := ⟨some 7, Op.binOp BinOp.add 3 (Operand.const (Value.int IntKind.i64 1)) (Operand.tmp 6) 3, 3, _, _, none⟩) (v := ?_) rfl ?_ ?_
     rotate_left
     ·(intro w9 hSw; go_simp; try with_reducible rfl)
     try simp only [Act.put, sa, sb, sc]
     refine tk 4 (oi := ⟨some 8, Op.slice 24 (Operand.tmp 4) none (some (Operand.tmp 7)) none, 24, _, _, none⟩) (v := ?_) rfl ?_ ?_
     rotate_left
     ·(intro w9 hSw; go_simp; try with_reducible rfl)
     try simp only [Act.put, sa, sb, sc]
     refine wpAnyH_ready (rs := [7]) (by kernel_rfl) (by simp) ?_
     refine AllReadyH.cons (i := 7) (o := ⟨some 11, Op.call { callee := Callee.value (Operand.func 78), args := #[Operand.tmp 10, Operand.const (Value.int IntKind.i64 2)], argTypes := #[61, 3] }, 3, _, _, none⟩) rfl (fun K hK => ?_) AllReadyH.nil
     go_simp
     refine (below_c _ _ _ _ _ (by decide) _ (unhide HP).1.1).mono ?_
     rintro e wz5 ⟨y, rfl, y0, y1, y2, hl⟩
     obtain ⟨j, rfl⟩ : ∃ k : Nat, y = k := ⟨y.toNat, by omega⟩
     obtain ⟨j0, j5, jw⟩ := lim_3 j (by omega)
     have HP := hide ((unhide HP).kp hbB hl)
     clear hl y0 y1 y2
     refine hK.out _ _ trivial (fun hHeld => ?_)
     clear hK K
     try simp only [Act.put, sa, sb, sc]
     refine tk 8 (oi := ⟨some 12, Op.binOp BinOp.add 3 (Operand.const (Value.int IntKind.i64 1)) (Operand.tmp 11) 3, 3, _, _, none⟩) (v := ?_) rfl ?_ ?_
     rotate_left
     ·(intro w9 hSw; go_simp; try with_reducible rfl)
     try simp only [Act.put, sa, sb, sc]
     refine tk 9 (oi := ⟨some 13, Op.slice 24 (Operand.tmp 9) none (some (Operand.tmp 12)) none, 24, _, _, none⟩) (v := ?_) rfl ?_ ?_
     rotate_left
     ·(intro w9 hSw; go_simp; try with_reducible rfl)
     try simp only [Act.put, sa, sb, sc]
     refine tk 10 (oi := ⟨some 14, Op.build 27 #[(0, Operand.tmp 8), (1, Operand.tmp 13)], 27, _, _, none⟩) (v := ?_) rfl ?_ ?_
     rotate_left
     ·(intro w9 hSw; go_simp; try with_reducible rfl)
     try simp only [Act.put, sa, sb, sc]
     refine wpAnyH_ready (rs := [12]) (by kernel_rfl) (by simp) ?_
     refine AllReadyH.cons (i := 12) (o := ⟨none, Op.store 27 (Operand.tmp 3) (Operand.tmp 14), 0, _, _, none⟩) rfl (fun K hK => ?_) AllReadyH.nil
     have hc := (unhide HP).c3
     obtain ⟨q0, q1, q2, f⟩ := hc
     have f0 := f 0
     have f1 := f 1
     have f2 := f 2
     clear f
     go_simp
     refine hK.out _ _ trivial (fun hHeld => ?_)
     clear hK K q0 q1 q2 f0 f1 f2
     try simp only [Act.put, sa, sb, sc]
     refine wpAnyH_done (by kernel_rfl) ?_ _
     go_wp2
     go_meet
     exact (unhide HP).fin _ _ (by omega) (by omega) hbB (Nat.le_refl _) (unhide HC)
   ·go_simp
    refine (below_c _ _ _ _ _ (by decide) _ (unhide HP).1.1).mono ?_
    rintro e wz2 ⟨y, rfl, y0, y1, y2, hl⟩
    obtain ⟨k, rfl⟩ : ∃ k : Nat, y = k := ⟨y.toNat, by omega⟩
    obtain ⟨k0, k5, kw⟩ := lim_5 k (by omega)
    have HP := hide ((unhide HP).kp hbB hl)
    clear hl y0 y1 y2
    refine hK.out _ _ trivial (fun hHeld => ?_)
    clear hK K
    try simp only [Act.put, sa, sb, sc]
    refine tk 3 (oi := ⟨some 7, Op.binOp BinOp.add 3 (Operand.const (Value.int IntKind.i64 1)) (Operand.tmp 6) 3, 3, _, _, none⟩) (v := ?_) rfl ?_ ?_
    rotate_left
    ·(intro w9 hSw; go_simp; try with_reducible rfl)
    try simp only [Act.put, sa, sb, sc]
    refine wpAnyH_ready (rs := [0, 5, 7]) (by kernel_rfl) (by simp) ?_
    refine AllReadyH.cons (i := 0) (o := ⟨some 4, Op.buildSlice 24 5 #[(0, Operand.const (Value.string { data := #[120] })), (1, Operand.const (Value.string { data := #[121] })), (2, Operand.const (Value.string { data := #[105] })), (3, Operand.const (Value.string { data := #[110] })), (4, Operand.const (Value.string { data := #[107] }))], 24, _, _, none⟩) rfl (fun K hK => ?_) (AllReadyH.cons (i := 5) (o := ⟨some 9, Op.buildSlice 24 3 #[(0, Operand.const (Value.string { data := #[98] })), (1, Operand.const (Value.string { data := #[99] })), (2, Operand.const (Value.string { data := #[102] }))], 24, _, _, none⟩) rfl (fun K hK => ?_) (AllReadyH.cons (i := 7) (o := ⟨some 11, Op.call { callee := Callee.value (Operand.func 78), args := #[Operand.tmp 10, Operand.const (Value.int IntKind.i64 2)], argTypes := #[61, 3] }, 3, _, _, none⟩) rfl (fun K hK => ?_) AllReadyH.nil))
    ·go_simp
     have HP := hide (unhide HP).litV
     refine hK.out _ _ trivial (fun hHeld => ?_)
     clear hK K
     generalize wz2.alloc (Obj.cells #[.string ⟨#[120]⟩, .string ⟨#[121]⟩, .string ⟨#[105]⟩, .string ⟨#[110]⟩, .string ⟨#[107]⟩] 9) = wz3 at HP ⊢
     try simp only [Act.put, sa, sb, sc]
     refine tk 4 (oi := ⟨some 8, Op.slice 24 (Operand.tmp 4) none (some (Operand.tmp 7)) none, 24, _, _, none⟩) (v := ?_) rfl ?_ ?_
     rotate_left
     ·(intro w9 hSw; go_simp; try with_reducible rfl)
     try simp only [Act.put, sa, sb, sc]
     refine wpAnyH_ready (rs := [5, 7]) (by kernel_rfl) (by simp) ?_
     refine AllReadyH.cons (i := 5) (o := ⟨some 9, Op.buildSlice 24 3 #[(0, Operand.const (Value.string { data := #[98] })), (1, Operand.const (Value.string { data := #[99] })), (2, Operand.const (Value.string { data := #[102] }))], 24, _, _, none⟩) rfl (fun K hK => ?_) (AllReadyH.cons (i := 7) (o := ⟨some 11, Op.call { callee := Callee.value (Operand.func 78), args := #[Operand.tmp 10, Operand.const (Value.int IntKind.i64 2)], argTypes := #[61, 3] }, 3, _, _, none⟩) rfl (fun K hK => ?_) AllReadyH.nil)
     ·go_simp
      have HP := hide (unhide HP).litF
      refine hK.out _ _ trivial (fun hHeld => ?_)
      clear hK K
      generalize wz3.alloc (Obj.cells #[.string ⟨#[98]⟩, .string ⟨#[99]⟩, .string ⟨#[102]⟩] 9) = wz4 at HP ⊢
      try simp only [Act.put, sa, sb, sc]
      refine wpAnyH_ready (rs := [7]) (by kernel_rfl) (by simp) ?_
      refine AllReadyH.cons (i := 7) (o := ⟨some 11, Op.call { callee := Callee.value (Operand.func 78), args := #[Operand.tmp 10, Operand.const (Value.int IntKind.i64 2)], argTypes := #[61, 3] }, 3, _, _, none⟩) rfl (fun K hK => ?_) AllReadyH.nil
      go_simp
      refine (below_c _ _ _ _ _ (by decide) _ (unhide HP).1.1).mono ?_
      rintro e wz5 ⟨y, rfl, y0, y1, y2, hl⟩
      obtain ⟨j, rfl⟩ : ∃ k : Nat, y = k := ⟨y.toNat, by omega⟩
      obtain ⟨j0, j5, jw⟩ := lim_3 j (by omega)
      have HP := hide ((unhide HP).kp hbB hl)
      clear hl y0 y1 y2
      refine hK.out _ _ trivial (fun hHeld => ?_)
      clear hK K
      try simp only [Act.put, sa, sb, sc]
      refine tk 8 (oi := ⟨some 12, Op.binOp BinOp.add 3 (Operand.const (Value.int IntKind.i64 1)) (Operand.tmp 11) 3, 3, _, _, none⟩) (v := ?_) rfl ?_ ?_
      rotate_left
      ·(intro w9 hSw; go_simp; try with_reducible rfl)
      try simp only [Act.put, sa, sb, sc]
      refine tk 9 (oi := ⟨some 13, Op.slice 24 (Operand.tmp 9) none (some (Operand.tmp 12)) none, 24, _, _, none⟩) (v := ?_) rfl ?_ ?_
      rotate_left
      ·(intro w9 hSw; go_simp; try with_reducible rfl)
      try simp only [Act.put, sa, sb, sc]
      refine tk 10 (oi := ⟨some 14, Op.build 27 #[(0, Operand.tmp 8), (1, Operand.tmp 13)], 27, _, _, none⟩) (v := ?_) rfl ?_ ?_
      rotate_left
      ·(intro w9 hSw; go_simp; try with_reducible rfl)
      try simp only [Act.put, sa, sb, sc]
      refine wpAnyH_ready (rs := [12]) (by kernel_rfl) (by simp) ?_
      refine AllReadyH.cons (i := 12) (o := ⟨none, Op.store 27 (Operand.tmp 3) (Operand.tmp 14), 0, _, _, none⟩) rfl (fun K hK => ?_) AllReadyH.nil
      have hc := (unhide HP).c3
      obtain ⟨q0, q1, q2, f⟩ := hc
      have f0 := f 0
      have f1 := f 1
      have f2 := f 2
      clear f
      go_simp
      refine hK.out _ _ trivial (fun hHeld => ?_)
      clear hK K q0 q1 q2 f0 f1 f2
      try simp only [Act.put, sa, sb, sc]
      refine wpAnyH_done (by kernel_rfl) ?_ _
      go_wp2
      go_meet
      exact (unhide HP).fin _ _ (by omega) (by omega) hbB (Nat.le_refl _) (unhide HC)
     ·go_simp
      refine (below_c _ _ _ _ _ (by decide) _ (unhide HP).1.1).mono ?_
      rintro e wz4 ⟨y, rfl, y0, y1, y2, hl⟩
      obtain ⟨j, rfl⟩ : ∃ k : Nat, y = k := ⟨y.toNat, by omega⟩
      obtain ⟨j0, j5, jw⟩ := lim_3 j (by omega)
      have HP := hide ((unhide HP).kp hbB hl)
      clear hl y0 y1 y2
      refine hK.out _ _ trivial (fun hHeld => ?_)
      clear hK K
      try simp only [Act.put, sa, sb, sc]
      refine tk 8 (oi := ⟨some 12, Op.binOp BinOp.add 3 (Operand.const (Value.int IntKind.i64 1)) (Operand.tmp 11) 3, 3, _, _, none⟩) (v := ?_) rfl ?_ ?_
      rotate_left
      ·(intro w9 hSw; go_simp; try with_reducible rfl)
      try simp only [Act.put, sa, sb, sc]
      refine wpAnyH_ready (rs := [5]) (by kernel_rfl) (by simp) ?_
      refine AllReadyH.cons (i := 5) (o := ⟨some 9, Op.buildSlice 24 3 #[(0, Operand.const (Value.string { data := #[98] })), (1, Operand.const (Value.string { data := #[99] })), (2, Operand.const (Value.string { data := #[102] }))], 24, _, _, none⟩) rfl (fun K hK => ?_) AllReadyH.nil
      go_simp
      have HP := hide (unhide HP).litF
      refine hK.out _ _ trivial (fun hHeld => ?_)
      clear hK K
      generalize wz4.alloc (Obj.cells #[.string ⟨#[98]⟩, .string ⟨#[99]⟩, .string ⟨#[102]⟩] 9) = wz5 at HP ⊢
      try simp only [Act.put, sa, sb, sc]
      refine tk 9 (oi := ⟨some 13, Op.slice 24 (Operand.tmp 9) none (some (Operand.tmp 12)) none, 24, _, _, none⟩) (v := ?_) rfl ?_ ?_
      rotate_left
      ·(intro w9 hSw; go_simp; try with_reducible rfl)
      try simp only [Act.put, sa, sb, sc]
      refine tk 10 (oi := ⟨some 14, Op.build 27 #[(0, Operand.tmp 8), (1, Operand.tmp 13)], 27, _, _, none⟩) (v := ?_) rfl ?_ ?_
      rotate_left
      ·(intro w9 hSw; go_simp; try with_reducible rfl)
      try simp only [Act.put, sa, sb, sc]
      refine wpAnyH_ready (rs := [12]) (by kernel_rfl) (by simp) ?_
      refine AllReadyH.cons (i := 12) (o := ⟨none, Op.store 27 (Operand.tmp 3) (Operand.tmp 14), 0, _, _, none⟩) rfl (fun K hK => ?_) AllReadyH.nil
      have hc := (unhide HP).c3
      obtain ⟨q0, q1, q2, f⟩ := hc
      have f0 := f 0
      have f1 := f 1
      have f2 := f 2
      clear f
      go_simp
      refine hK.out _ _ trivial (fun hHeld => ?_)
      clear hK K q0 q1 q2 f0 f1 f2
      try simp only [Act.put, sa, sb, sc]
      refine wpAnyH_done (by kernel_rfl) ?_ _
      go_wp2
      go_meet
      exact (unhide HP).fin _ _ (by omega) (by omega) hbB (Nat.le_refl _) (unhide HC)
    ·go_simp
     have HP := hide (unhide HP).litF
     refine hK.out _ _ trivial (fun hHeld => ?_)
     clear hK K
     generalize wz2.alloc (Obj.cells #[.string ⟨#[98]⟩, .string ⟨#[99]⟩, .string ⟨#[102]⟩] 9) = wz3 at HP ⊢
     try simp only [Act.put, sa, sb, sc]
     refine wpAnyH_ready (rs := [0, 7]) (by kernel_rfl) (by simp) ?_
     refine AllReadyH.cons (i := 0) (o := ⟨some 4, Op.buildSlice 24 5 #[(0, Operand.const (Value.string { data := #[120] })), (1, Operand.const (Value.string { data := #[121] })), (2, Operand.const (Value.string { data := #[105] })), (3, Operand.const (Value.string { data := #[110] })), (4, Operand.const (Value.string { data := #[107] }))], 24, _, _, none⟩) rfl (fun K hK => ?_) (AllReadyH.cons (i := 7) (o := ⟨some 11, Op.call { callee := Callee.value (Operand.func 78), args := #[Operand.tmp 10, Operand.const (Value.int IntKind.i64 2)], argTypes := #[61, 3] }, 3, _, _, none⟩) rfl (fun K hK => ?_) AllReadyH.nil)
     ·go_simp
      have HP := hide (unhide HP).litV
      refine hK.out _ _ trivial (fun hHeld => ?_)
      clear hK K
      generalize wz3.alloc (Obj.cells #[.string ⟨#[120]⟩, .string ⟨#[121]⟩, .string ⟨#[105]⟩, .string ⟨#[110]⟩, .string ⟨#[107]⟩] 9) = wz4 at HP ⊢
      try simp only [Act.put, sa, sb, sc]
      refine tk 4 (oi := ⟨some 8, Op.slice 24 (Operand.tmp 4) none (some (Operand.tmp 7)) none, 24, _, _, none⟩) (v := ?_) rfl ?_ ?_
      rotate_left
      ·(intro w9 hSw; go_simp; try with_reducible rfl)
      try simp only [Act.put, sa, sb, sc]
      refine wpAnyH_ready (rs := [7]) (by kernel_rfl) (by simp) ?_
      refine AllReadyH.cons (i := 7) (o := ⟨some 11, Op.call { callee := Callee.value (Operand.func 78), args := #[Operand.tmp 10, Operand.const (Value.int IntKind.i64 2)], argTypes := #[61, 3] }, 3, _, _, none⟩) rfl (fun K hK => ?_) AllReadyH.nil
      go_simp
      refine (below_c _ _ _ _ _ (by decide) _ (unhide HP).1.1).mono ?_
      rintro e wz5 ⟨y, rfl, y0, y1, y2, hl⟩
      obtain ⟨j, rfl⟩ : ∃ k : Nat, y = k := ⟨y.toNat, by omega⟩
      obtain ⟨j0, j5, jw⟩ := lim_3 j (by omega)
      have HP := hide ((unhide HP).kp hbB hl)
      clear hl y0 y1 y2
      refine hK.out _ _ trivial (fun hHeld => ?_)
      clear hK K
      try simp only [Act.put, sa, sb, sc]
      refine tk 8 (oi := ⟨some 12, Op.binOp BinOp.add 3 (Operand.const (Value.int IntKind.i64 1)) (Operand.tmp 11) 3, 3, _, _, none⟩) (v := ?_) rfl ?_ ?_
      rotate_left
      ·(intro w9 hSw; go_simp; try with_reducible rfl)
      try simp only [Act.put, sa, sb, sc]
      refine tk 9 (oi := ⟨some 13, Op.slice 24 (Operand.tmp 9) none (some (Operand.tmp 12)) none, 24, _, _, none⟩) (v := ?_) rfl ?_ ?_
      rotate_left
      ·(intro w9 hSw; go_simp; try with_reducible rfl)
      try simp only [Act.put, sa, sb, sc]
      refine tk 10 (oi := ⟨some 14, Op.build 27 #[(0, Operand.tmp 8), (1, Operand.tmp 13)], 27, _, _, none⟩) (v := ?_) rfl ?_ ?_
      rotate_left
      ·(intro w9 hSw; go_simp; try with_reducible rfl)
      try simp only [Act.put, sa, sb, sc]
      refine wpAnyH_ready (rs := [12]) (by kernel_rfl) (by simp) ?_
      refine AllReadyH.cons (i := 12) (o := ⟨none, Op.store 27 (Operand.tmp 3) (Operand.tmp 14), 0, _, _, none⟩) rfl (fun K hK => ?_) AllReadyH.nil
      have hc := (unhide HP).c3
      obtain ⟨q0, q1, q2, f⟩ := hc
      have f0 := f 0
      have f1 := f 1
      have f2 := f 2
      clear f
      go_simp
      refine hK.out _ _ trivial (fun hHeld => ?_)
      clear hK K q0 q1 q2 f0 f1 f2
      try simp only [Act.put, sa, sb, sc]
      refine wpAnyH_done (by kernel_rfl) ?_ _
      go_wp2
      go_meet
      exact (unhide HP).fin _ _ (by omega) (by omega) hbB (Nat.le_refl _) (unhide HC)
     ·go_simp
      refine (below_c _ _ _ _ _ (by decide) _ (unhide HP).1.1).mono ?_
      rintro e wz4 ⟨y, rfl, y0, y1, y2, hl⟩
      obtain ⟨j, rfl⟩ : ∃ k : Nat, y = k := ⟨y.toNat, by omega⟩
      obtain ⟨j0, j5, jw⟩ := lim_3 j (by omega)
      have HP := hide ((unhide HP).kp hbB hl)
      clear hl y0 y1 y2
      refine hK.out _ _ trivial (fun hHeld => ?_)
      clear hK K
      try simp only [Act.put, sa, sb, sc]
      refine tk 8 (oi := ⟨some 12, Op.binOp BinOp.add 3 (Operand.const (Value.int IntKind.i64 1)) (Operand.tmp 11) 3, 3, _, _, none⟩) (v := ?_) rfl ?_ ?_
      rotate_left
      ·(intro w9 hSw; go_simp; try with_reducible rfl)
      try simp only [Act.put, sa, sb, sc]
      refine tk 9 (oi := ⟨some 13, Op.slice 24 (Operand.tmp 9) none (some (Operand.tmp 12)) none, 24, _, _, none⟩) (v := ?_) rfl ?_ ?_
      rotate_left
      ·(intro w9 hSw; go_simp; try with_reducible rfl)
      try simp only [Act.put, sa, sb, sc]
      refine wpAnyH_ready (rs := [0]) (by kernel_rfl) (by simp) ?_
      refine AllReadyH.cons (i := 0) (o := ⟨some 4, Op.buildSlice 24 5 #[(0, Operand.const (Value.string { data := #[120] })), (1, Operand.const (Value.string { data := #[121] })), (2, Operand.const (Value.string { data := #[105] })), (3, Operand.const (Value.string { data := #[110] })), (4, Operand.const (Value.string { data := #[107] }))], 24, _, _, none⟩) rfl (fun K hK => ?_) AllReadyH.nil
      go_simp
      have HP := hide (unhide HP).litV
      refine hK.out _ _ trivial (fun hHeld => ?_)
      clear hK K
      generalize wz4.alloc (Obj.cells #[.string ⟨#[120]⟩, .string ⟨#[121]⟩, .string ⟨#[105]⟩, .string ⟨#[110]⟩, .string ⟨#[107]⟩] 9) = wz5 at HP ⊢
      try simp only [Act.put, sa, sb, sc]
      refine tk 4 (oi := ⟨some 8, Op.slice 24 (Operand.tmp 4) none (some (Operand.tmp 7)) none, 24, _, _, none⟩) (v := ?_) rfl ?_ ?_
      rotate_left
      ·(intro w9 hSw; go_simp; try with_reducible rfl)
      try simp only [Act.put, sa, sb, sc]
      refine tk 10 (oi := ⟨some 14, Op.build 27 #[(0, Operand.tmp 8), (1, Operand.tmp 13)], 27, _, _, none⟩) (v := ?_) rfl ?_ ?_
      rotate_left
      ·(intro w9 hSw; go_simp; try with_reducible rfl)
      try simp only [Act.put, sa, sb, sc]
      refine wpAnyH_ready (rs := [12]) (by kernel_rfl) (by simp) ?_
      refine AllReadyH.cons (i := 12) (o := ⟨none, Op.store 27 (Operand.tmp 3) (Operand.tmp 14), 0, _, _, none⟩) rfl (fun K hK => ?_) AllReadyH.nil
      have hc := (unhide HP).c3
      obtain ⟨q0, q1, q2, f⟩ := hc
      have f0 := f 0
      have f1 := f 1
      have f2 := f 2
      clear f
      go_simp
      refine hK.out _ _ trivial (fun hHeld => ?_)
      clear hK K q0 q1 q2 f0 f1 f2
      try simp only [Act.put, sa, sb, sc]
      refine wpAnyH_done (by kernel_rfl) ?_ _
      go_wp2
      go_meet
      exact (unhide HP).fin _ _ (by omega) (by omega) hbB (Nat.le_refl _) (unhide HC)
    ·go_simp
     refine (below_c _ _ _ _ _ (by decide) _ (unhide HP).1.1).mono ?_
     rintro e wz3 ⟨y, rfl, y0, y1, y2, hl⟩
     obtain ⟨j, rfl⟩ : ∃ k : Nat, y = k := ⟨y.toNat, by omega⟩
     obtain ⟨j0, j5, jw⟩ := lim_3 j (by omega)
     have HP := hide ((unhide HP).kp hbB hl)
     clear hl y0 y1 y2
     refine hK.out _ _ trivial (fun hHeld => ?_)
     clear hK K
     try simp only [Act.put, sa, sb, sc]
     refine tk 8 (oi := ⟨some 12, Op.binOp BinOp.add 3 (Operand.const (Value.int IntKind.i64 1)) (Operand.tmp 11) 3, 3, _, _, none⟩) (v := ?_) rfl ?_ ?_
     rotate_left
     ·(intro w9 hSw; go_simp; try with_reducible rfl)
     try simp only [Act.put, sa, sb, sc]
     refine wpAnyH_ready (rs := [0, 5]) (by kernel_rfl) (by simp) ?_
     refine AllReadyH.cons (i := 0) (o := ⟨some 4, Op.buildSlice 24 5 #[(0, Operand.const (Value.string { data := #[120] })), (1, Operand.const (Value.string { data := #[121] })), (2, Operand.const (Value.string { data := #[105] })), (3, Operand.const (Value.string { data := #[110] })), (4, Operand.const (Value.string { data := #[107] }))], 24, _, _, none⟩) rfl (fun K hK => ?_) (AllReadyH.cons (i := 5) (o := ⟨some 9, Op.buildSlice 24 3 #[(0, Operand.const (Value.string { data := #[98] })), (1, Operand.const (Value.string { data := #[99] })), (2, Operand.const (Value.string { data := #[102] }))], 24, _, _, none⟩) rfl (fun K hK => ?_) AllReadyH.nil)
     ·go_simp
      have HP := hide (unhide HP).litV
      refine hK.out _ _ trivial (fun hHeld => ?_)
      clear hK K
      generalize wz3.alloc (Obj.cells #[.string ⟨#[120]⟩, .string ⟨#[121]⟩, .string ⟨#[105]⟩, .string ⟨#[110]⟩, .string ⟨#[107]⟩] 9) = wz4 at HP ⊢
      try simp only [Act.put, sa, sb, sc]
      refine tk 4 (oi := ⟨some 8, Op.slice 24 (Operand.tmp 4) none (some (Operand.tmp 7)) none, 24, _, _, none⟩) (v := ?_) rfl ?_ ?_
      rotate_left
      ·(intro w9 hSw; go_simp; try with_reducible rfl)
      try simp only [Act.put, sa, sb, sc]
      refine wpAnyH_ready (rs := [5]) (by kernel_rfl) (by simp) ?_
      refine AllReadyH.cons (i := 5) (o := ⟨some 9, Op.buildSlice 24 3 #[(0, Operand.const (Value.string { data := #[98] })), (1, Operand.const (Value.string { data := #[99] })), (2, Operand.const (Value.string { data := #[102] }))], 24, _, _, none⟩) rfl (fun K hK => ?_) AllReadyH.nil
      go_simp
      have HP := hide (unhide HP).litF
      refine hK.out _ _ trivial (fun hHeld => ?_)
      clear hK K
      generalize wz4.alloc (Obj.cells #[.string ⟨#[98]⟩, .string ⟨#[99]⟩, .string ⟨#[102]⟩] 9) = wz5 at HP ⊢
      try simp only [Act.put, sa, sb, sc]
      refine tk 9 (oi := ⟨some 13, Op.slice 24 (Operand.tmp 9) none (some (Operand.tmp 12)) none, 24, _, _, none⟩) (v := ?_) rfl ?_ ?_
      rotate_left
      ·(intro w9 hSw; go_simp; try with_reducible rfl)
      try simp only [Act.put, sa, sb, sc]
      refine tk 10 (oi := ⟨some 14, Op.build 27 #[(0, Operand.tmp 8), (1, Operand.tmp 13)], 27, _, _, none⟩) (v := ?_) rfl ?_ ?_
      rotate_left
      ·(intro w9 hSw; go_simp; try with_reducible rfl)
      try simp only [Act.put, sa, sb, sc]
      refine wpAnyH_ready (rs := [12]) (by kernel_rfl) (by simp) ?_
      refine AllReadyH.cons (i := 12) (o := ⟨none, Op.store 27 (Operand.tmp 3) (Operand.tmp 14), 0, _, _, none⟩) rfl (fun K hK => ?_) AllReadyH.nil
      have hc := (unhide HP).c3
      obtain ⟨q0, q1, q2, f⟩ := hc
      have f0 := f 0
      have f1 := f 1
      have f2 := f 2
      clear f
      go_simp
      refine hK.out _ _ trivial (fun hHeld => ?_)
      clear hK K q0 q1 q2 f0 f1 f2
      try simp only [Act.put, sa, sb, sc]
      refine wpAnyH_done (by kernel_rfl) ?_ _
      go_wp2
      go_meet
      exact (unhide HP).fin _ _ (by omega) (by omega) hbB (Nat.le_refl _) (unhide HC)
     ·go_simp
      have HP := hide (unhide HP).litF
      refine hK.out _ _ trivial (fun hHeld => ?_)
      clear hK K
      generalize wz3.alloc (Obj.cells #[.string ⟨#[98]⟩, .string ⟨#[99]⟩, .string ⟨#[102]⟩] 9) = wz4 at HP ⊢
      try simp only [Act.put, sa, sb, sc]
      refine tk 9 (oi := ⟨some 13, Op.slice 24 (Operand.tmp 9) none (some (Operand.tmp 12)) none, 24, _, _, none⟩) (v := ?_) rfl ?_ ?_
      rotate_left
      ·(intro w9 hSw; go_simp; try with_reducible rfl)
      try simp only [Act.put, sa, sb, sc]
      refine wpAnyH_ready (rs := [0]) (by kernel_rfl) (by simp) ?_
      refine AllReadyH.cons (i := 0) (o := ⟨some 4, Op.buildSlice 24 5 #[(0, Operand.const (Value.string { data := #[120] })), (1, Operand.const (Value.string { data := #[121] })), (2, Operand.const (Value.string { data := #[105] })), (3, Operand.const (Value.string { data := #[110] })), (4, Operand.const (Value.string { data := #[107] }))], 24, _, _, none⟩) rfl (fun K hK => ?_) AllReadyH.nil
      go_simp
      have HP := hide (unhide HP).litV
      refine hK.out _ _ trivial (fun hHeld => ?_)
      clear hK K
      generalize wz4.alloc (Obj.cells #[.string ⟨#[120]⟩, .string ⟨#[121]⟩, .string ⟨#[105]⟩, .string ⟨#[110]⟩, .string ⟨#[107]⟩] 9) = wz5 at HP ⊢
      try simp only [Act.put, sa, sb, sc]
      refine tk 4 (oi := ⟨some 8, Op.slice 24 (Operand.tmp 4) none (some (Operand.tmp 7)) none, 24, _, _, none⟩) (v := ?_) rfl ?_ ?_
      rotate_left
      ·(intro w9 hSw; go_simp; try with_reducible rfl)
      try simp only [Act.put, sa, sb, sc]
      refine tk 10 (oi := ⟨some 14, Op.build 27 #[(0, Operand.tmp 8), (1, Operand.tmp 13)], 27, _, _, none⟩) (v := ?_) rfl ?_ ?_
      rotate_left
      ·(intro w9 hSw; go_simp; try with_reducible rfl)
      try simp only [Act.put, sa, sb, sc]
      refine wpAnyH_ready (rs := [12]) (by kernel_rfl) (by simp) ?_
      refine AllReadyH.cons (i := 12) (o := ⟨none, Op.store 27 (Operand.tmp 3) (Operand.tmp 14), 0, _, _, none⟩) rfl (fun K hK => ?_) AllReadyH.nil
      have hc := (unhide HP).c3
      obtain ⟨q0, q1, q2, f⟩ := hc
      have f0 := f 0
      have f1 := f 1
      have f2 := f 2
      clear f
      go_simp
      refine hK.out _ _ trivial (fun hHeld => ?_)
      clear hK K q0 q1 q2 f0 f1 f2
      try simp only [Act.put, sa, sb, sc]
      refine wpAnyH_done (by kernel_rfl) ?_ _
      go_wp2
      go_meet
      exact (unhide HP).fin _ _ (by omega) (by omega) hbB (Nat.le_refl _) (unhide HC)
   ·go_simp
    have HP := hide (unhide HP).litF
    refine hK.out _ _ trivial (fun hHeld => ?_)
    clear hK K
    generalize wz1.alloc (Obj.cells #[.string ⟨#[98]⟩, .string ⟨#[99]⟩, .string ⟨#[102]⟩] 9) = wz2 at HP ⊢
    try simp only [Act.put, sa, sb, sc]
    refine wpAnyH_ready (rs := [0, 2]) (by kernel_rfl) (by simp) ?_
    refine AllReadyH.cons (i := 0) (o := ⟨some 4, Op.buildSlice 24 5 #[(0, Operand.const (Value.string { data := #[120] })), (1, Operand.const (Value.string { data := #[121] })), (2, Operand.const (Value.string { data := #[105] })), (3, Operand.const (Value.string { data := #[110] })), (4, Operand.const (Value.string { data := #[107] }))], 24, _, _, none⟩) rfl (fun K hK => ?_) (AllReadyH.cons (i := 2) (o := ⟨some 6, Op.call { callee := Callee.value (Operand.func 78), args := #[Operand.tmp 5, Operand.const (Value.int IntKind.i64 4)], argTypes := #[61, 3] }, 3, _, _, none⟩) rfl (fun K hK => ?_) AllReadyH.nil)
    ·go_simp
     have HP := hide (unhide HP).litV
     refine hK.out _ _ trivial (fun hHeld => ?_)
     clear hK K
     generalize wz2.alloc (Obj.cells #[.string ⟨#[120]⟩, .string ⟨#[121]⟩, .string ⟨#[105]⟩, .string ⟨#[110]⟩, .string ⟨#[107]⟩] 9) = wz3 at HP ⊢
     try simp only [Act.put, sa, sb, sc]
     refine wpAnyH_ready (rs := [2]) (by kernel_rfl) (by simp) ?_
     refine AllReadyH.cons (i := 2) (o := ⟨some 6, Op.call { callee := Callee.value (Operand.func 78), args := #[Operand.tmp 5, Operand.const (Value.int IntKind.i64 4)], argTypes := #[61, 3] }, 3, _, _, none⟩) rfl (fun K hK => ?_) AllReadyH.nil
     go_simp
     refine (below_c _ _ _ _ _ (by decide) _ (unhide HP).1.1).mono ?_
     rintro e wz4 ⟨y, rfl, y0, y1, y2, hl⟩
     obtain ⟨k, rfl⟩ : ∃ k : Nat, y = k := ⟨y.toNat, by omega⟩
     obtain ⟨k0, k5, kw⟩ := lim_5 k (by omega)
     have HP := hide ((unhide HP).kp hbB hl)
     clear hl y0 y1 y2
     refine hK.out _ _ trivial (fun hHeld => ?_)
     clear hK K
     try simp only [Act.put, sa, sb, sc]
     refine tk 3 (oi := ⟨some 7, Op.binOp BinOp.add 3 (Operand.const (Value.int IntKind.i64 1)) (Operand.tmp 6) 3, 3, _, _, none⟩) (v := ?_) rfl ?_ ?_
     rotate_left
     ·(intro w9 hSw; go_simp; try with_reducible rfl)
     try simp only [Act.put, sa, sb, sc]
     refine tk 4 (oi := ⟨some 8, Op.slice 24 (Operand.tmp 4) none (some (Operand.tmp 7)) none, 24, _, _, none⟩) (v := ?_) rfl ?_ ?_
     rotate_left
     ·(intro w9 hSw; go_simp; try with_reducible rfl)
     try simp only [Act.put, sa, sb, sc]
     refine wpAnyH_ready (rs := [7]) (by kernel_rfl) (by simp) ?_
     refine AllReadyH.cons (i := 7) (o := ⟨some 11, Op.call { callee := Callee.value (Operand.func 78), args := #[Operand.tmp 10, Operand.const (Value.int IntKind.i64 2)], argTypes := #[61, 3] }, 3, _, _, none⟩) rfl (fun K hK => ?_) AllReadyH.nil
     go_simp
     refine (below_c _ _ _ _ _ (by decide) _ (unhide HP).1.1).mono ?_
     rintro e wz5 ⟨y, rfl, y0, y1, y2, hl⟩
     obtain ⟨j, rfl⟩ : ∃ k : Nat, y = k := ⟨y.toNat, by omega⟩
     obtain ⟨j0, j5, jw⟩ := lim_3 j (by omega)
     have HP := hide ((unhide HP).kp hbB hl)
     clear hl y0 y1 y2
     refine hK.out _ _ trivial (fun hHeld => ?_)
     clear hK K
     try simp only [Act.put, sa, sb, sc]
     refine tk 8 (oi := ⟨some 12, Op.binOp BinOp.add 3 (Operand.const (Value.int IntKind.i64 1)) (Operand.tmp 11) 3, 3, _, _, none⟩) (v := ?_) rfl ?_ ?_
     rotate_left
     ·(intro w9 hSw; go_simp; try with_reducible rfl)
     try simp only [Act.put, sa, sb, sc]
     refine tk 9 (oi := ⟨some 13, Op.slice 24 (Operand.tmp 9) none (some (Operand.tmp 12)) none, 24, _, _, none⟩) (v := ?_) rfl ?_ ?_
     rotate_left
     ·(intro w9 hSw; go_simp; try with_reducible rfl)
     try simp only [Act.put, sa, sb, sc]
     refine tk 10 (oi := ⟨some 14, Op.build 27 #[(0, Operand.tmp 8), (1, Operand.tmp 13)], 27, _, _, none⟩) (v := ?_) rfl ?_ ?_
     rotate_left
     ·(intro w9 hSw; go_simp; try with_reducible rfl)
     try simp only [Act.put, sa, sb, sc]
     refine wpAnyH_ready (rs := [12]) (by kernel_rfl) (by simp) ?_
     refine AllReadyH.cons (i := 12) (o := ⟨none, Op.store 27 (Operand.tmp 3) (Operand.tmp 14), 0, _, _, none⟩) rfl (fun K hK => ?_) AllReadyH.nil
     have hc := (unhide HP).c3
     obtain ⟨q0, q1, q2, f⟩ := hc
     have f0 := f 0
     have f1 := f 1
     have f2 := f 2
     clear f
     go_simp
     refine hK.out _ _ trivial (fun hHeld => ?_)
     clear hK K q0 q1 q2 f0 f1 f2
     try simp only [Act.put, sa, sb, sc]
     refine wpAnyH_done (by kernel_rfl) ?_ _
     go_wp2
     go_meet
     exact (unhide HP).fin _ _ (by omega) (by omega) hbB (Nat.le_refl _) (unhide HC)
    ·go_simp
     refine (below_c _ _ _ _ _ (by decide) _ (unhide HP).1.1).mono ?_
     rintro e wz3 ⟨y, rfl, y0, y1, y2, hl⟩
     obtain ⟨k, rfl⟩ : ∃ k : Nat, y = k := ⟨y.toNat, by omega⟩
     obtain ⟨k0, k5, kw⟩ := lim_5 k (by omega)
     have HP := hide ((unhide HP).kp hbB hl)
     clear hl y0 y1 y2
     refine hK.out _ _ trivial (fun hHeld => ?_)
     clear hK K
     try simp only [Act.put, sa, sb, sc]
     refine tk 3 (oi := ⟨some 7, Op.binOp BinOp.add 3 (Operand.const (Value.int IntKind.i64 1)) (Operand.tmp 6) 3, 3, _, _, none⟩) (v := ?_) rfl ?_ ?_
     rotate_left
     ·(intro w9 hSw; go_simp; try with_reducible rfl)
     try simp only [Act.put, sa, sb, sc]
     refine wpAnyH_ready (rs := [0, 7]) (by kernel_rfl) (by simp) ?_
     refine AllReadyH.cons (i := 0) (o := ⟨some 4, Op.buildSlice 24 5 #[(0, Operand.const (Value.string { data := #[120] })), (1, Operand.const (Value.string { data := #[121] })), (2, Operand.const (Value.string { data := #[105] })), (3, Operand.const (Value.string { data := #[110] })), (4, Operand.const (Value.string { data := #[107] }))], 24, _, _, none⟩) rfl (fun K hK => ?_) (AllReadyH.cons (i := 7) (o := ⟨some 11, Op.call { callee := Callee.value (Operand.func 78), args := #[Operand.tmp 10, Operand.const (Value.int IntKind.i64 2)], argTypes := #[61, 3] }, 3, _, _, none⟩) rfl (fun K hK => ?_) AllReadyH.nil)
     ·go_simp
      have HP := hide (unhide HP).litV
      refine hK.out _ _ trivial (fun hHeld => ?_)
      clear hK K
      generalize wz3.alloc (Obj.cells #[.string ⟨#[120]⟩, .string ⟨#[121]⟩, .string ⟨#[105]⟩, .string ⟨#[110]⟩, .string ⟨#[107]⟩] 9) = wz4 at HP ⊢
      try simp only [Act.put, sa, sb, sc]
      refine tk 4 (oi := ⟨some 8, Op.slice 24 (Operand.tmp 4) none (some (Operand.tmp 7)) none, 24, _, _, none⟩) (v := ?_) rfl ?_ ?_
      rotate_left
      ·(intro w9 hSw; go_simp; try with_reducible rfl)
      try simp only [Act.put, sa, sb, sc]
      refine wpAnyH_ready (rs := [7]) (by kernel_rfl) (by simp) ?_
      refine AllReadyH.cons (i := 7) (o := ⟨some 11, Op.call { callee := Callee.value (Operand.func 78), args := #[Operand.tmp 10, Operand.const (Value.int IntKind.i64 2)], argTypes := #[61, 3] }, 3, _, _, none⟩) rfl (fun K hK => ?_) AllReadyH.nil
      go_simp
      refine (below_c _ _ _ _ _ (by decide) _ (unhide HP).1.1).mono ?_
      rintro e wz5 ⟨y, rfl, y0, y1, y2, hl⟩
      obtain ⟨j, rfl⟩ : ∃ k : Nat, y = k := ⟨y.toNat, by omega⟩
      obtain ⟨j0, j5, jw⟩ := lim_3 j (by omega)
      have HP := hide ((unhide HP).kp hbB hl)
      clear hl y0 y1 y2
      refine hK.out _ _ trivial (fun hHeld => ?_)
      clear hK K
      try simp only [Act.put, sa, sb, sc]
      refine tk 8 (oi := ⟨some 12, Op.binOp BinOp.add 3 (Operand.const (Value.int IntKind.i64 1)) (Operand.tmp 11) 3, 3, _, _, none⟩) (v := ?_) rfl ?_ ?_
      rotate_left
      ·(intro w9 hSw; go_simp; try with_reducible rfl)
      try simp only [Act.put, sa, sb, sc]
      refine tk 9 (oi := ⟨some 13, Op.slice 24 (Operand.tmp 9) none (some (Operand.tmp 12)) none, 24, _, _, none⟩) (v := ?_) rfl ?_ ?_
      rotate_left
      ·(intro w9 hSw; go_simp; try with_reducible rfl)
      try simp only [Act.put, sa, sb, sc]
      refine tk 10 (oi := ⟨some 14, Op.build 27 #[(0, Operand.tmp 8), (1, Operand.tmp 13)], 27, _, _, none⟩) (v := ?_) rfl ?_ ?_
      rotate_left
      ·(intro w9 hSw; go_simp; try with_reducible rfl)
      try simp only [Act.put, sa, sb, sc]
      refine wpAnyH_ready (rs := [12]) (by kernel_rfl) (by simp) ?_
      refine AllReadyH.cons (i := 12) (o := ⟨none, Op.store 27 (Operand.tmp 3) (Operand.tmp 14), 0, _, _, none⟩) rfl (fun K hK => ?_) AllReadyH.nil
      have hc := (unhide HP).c3
      obtain ⟨q0, q1, q2, f⟩ := hc
      have f0 := f 0
      have f1 := f 1
      have f2 := f 2
      clear f
      go_simp
      refine hK.out _ _ trivial (fun hHeld => ?_)
      clear hK K q0 q1 q2 f0 f1 f2
      try simp only [Act.put, sa, sb, sc]
      refine wpAnyH_done (by kernel_rfl) ?_ _
      go_wp2
      go_meet
      exact (unhide HP).fin _ _ (by omega) (by omega) hbB (Nat.le_refl _) (unhide HC)
     ·go_simp
      refine (below_c _ _ _ _ _ (by decide) _ (unhide HP).1.1).mono ?_
      rintro e wz4 ⟨y, rfl, y0, y1, y2, hl⟩
      obtain ⟨j, rfl⟩ : ∃ k : Nat, y = k := ⟨y.toNat, by omega⟩
      obtain ⟨j0, j5, jw⟩ := lim_3 j (by omega)
      have HP := hide ((unhide HP).kp hbB hl)
      clear hl y0 y1 y2
      refine hK.out _ _ trivial (fun hHeld => ?_)
      clear hK K
      try simp only [Act.put, sa, sb, sc]
      refine tk 8 (oi := ⟨some 12, Op.binOp BinOp.add 3 (Operand.const (Value.int IntKind.i64 1)) (Operand.tmp 11) 3, 3, _, _, none⟩) (v := ?_) rfl ?_ ?_
      rotate_left
      ·(intro w9 hSw; go_simp; try with_reducible rfl)
      try simp only [Act.put, sa, sb, sc]
      refine tk 9 (oi := ⟨some 13, Op.slice 24 (Operand.tmp 9) none (some (Operand.tmp 12)) none, 24, _, _, none⟩) (v := ?_) rfl ?_ ?_
      rotate_left
      ·(intro w9 hSw; go_simp; try with_reducible rfl)
      try simp only [Act.put, sa, sb, sc]
      refine wpAnyH_ready (rs := [0]) (by kernel_rfl) (by simp) ?_
      refine AllReadyH.cons (i := 0) (o := ⟨some 4, Op.buildSlice 24 5 #[(0, Operand.const (Value.string { data := #[120] })), (1, Operand.const (Value.string { data := #[121] })), (2, Operand.const (Value.string { data := #[105] })), (3, Operand.const (Value.string { data := #[110] })), (4, Operand.const (Value.string { data := #[107] }))], 24, _, _, none⟩) rfl (fun K hK => ?_) AllReadyH.nil
      go_simp
      have HP := hide (unhide HP).litV
      refine hK.out _ _ trivial (fun hHeld => ?_)
      clear hK K
      generalize wz4.alloc (Obj.cells #[.string ⟨#[120]⟩, .string ⟨#[121]⟩, .string ⟨#[105]⟩, .string ⟨#[110]⟩, .string ⟨#[107]⟩] 9) = wz5 at HP ⊢
      try simp only [Act.put, sa, sb, sc]
      refine tk 4 (oi := ⟨some 8, Op.slice 24 (Operand.tmp 4) none (some (Operand.tmp 7)) none, 24, _, _, none⟩) (v := ?_) rfl ?_ ?_
      rotate_left
      ·(intro w9 hSw; go_simp; try with_reducible rfl)
      try simp only [Act.put, sa, sb, sc]
      refine tk 10 (oi := ⟨some 14, Op.build 27 #[(0, Operand.tmp 8), (1, Operand.tmp 13)], 27, _, _, none⟩) (v := ?_) rfl ?_ ?_
      rotate_left
      ·(intro w9 hSw; go_simp; try with_reducible rfl)
      try simp only [Act.put, sa, sb, sc]
      refine wpAnyH_ready (rs := [12]) (by kernel_rfl) (by simp) ?_
      refine AllReadyH.cons (i := 12) (o := ⟨none, Op.store 27 (Operand.tmp 3) (Operand.tmp 14), 0, _, _, none⟩) rfl (fun K hK => ?_) AllReadyH.nil
      have hc := (unhide HP).c3
      obtain ⟨q0, q1, q2, f⟩ := hc
      have f0 := f 0
      have f1 := f 1
      have f2 := f 2
      clear f
      go_simp
      refine hK.out _ _ trivial (fun hHeld => ?_)
      clear hK K q0 q1 q2 f0 f1 f2
      try simp only [Act.put, sa, sb, sc]
      refine wpAnyH_done (by kernel_rfl) ?_ _
      go_wp2
      go_meet
      exact (unhide HP).fin _ _ (by omega) (by omega) hbB (Nat.le_refl _) (unhide HC)
 case rest =>
  obtain ⟨g3, g1, g2, n1, n2, rfl, hc3, hg3, hv, hf, hne1, hne2, hn1, hn2, hl⟩ := hcut
  have HX := hide hc3
  have HV := hide hv
  have HF := hide hf
  have HG := hide (And.intro hg3 (And.intro hne1 hne2))
  have HT := hide ((unhide HT).kp hl.2 (by omega))
  have HL := hide ((unhide HL0).trans hl)
  clear hc3 hg3 hv hf hne1 hne2 hl HP HL0
  go_wp2_with fail
  refine (once_c _ _ _ _ _ (by decide) (by decide) _ (unhide HL).1).mono ?_
  rintro e v1 ⟨q, rfl, hl⟩
  have HX := hide ((unhide HX).kp hl.2 (by have := (unhide HG).1; omega))
  have HV := hide ((unhide HV).kp hl.2 hbB)
  have HF := hide ((unhide HF).kp hl.2 hbB)
  have HT := hide ((unhide HT).kp hl.2 (by omega))
  have HL := hide ((unhide HL).trans hl)
  clear hl
  cases q
  ·have hv0 : g1 ≠ w.heap.size := by have := (unhide HV).2.1; omega
   have hf0 : g2 ≠ w.heap.size := by have := (unhide HF).2.1; omega
   go_wp2_with fail
   refine (once_c _ _ _ _ _ (by decide) (by decide) _ (unhide HL).1).mono ?_
   rintro e v5 ⟨q2, rfl, hl⟩
   have HX := hide ((unhide HX).kp hl.2 (by have := (unhide HG).1; omega))
   have HV := hide ((unhide HV).kp hl.2 hbB)
   have HF := hide ((unhide HF).kp hl.2 hbB)
   have HT := hide ((unhide HT).kp hl.2 (by omega))
   have HL := hide ((unhide HL).trans hl)
   clear hl
   cases q2
   ·have q0 := (unhide HX).1
    have q1 := (unhide HX).2.1
    have q2 := (unhide HX).2.2.1
    have f0 := (unhide HX).2.2.2 0
    have f1 := (unhide HX).2.2.2 1
    have f2 := (unhide HX).2.2.2 2
    have r0 := (unhide HT).1
    have r1 := (unhide HT).2.1
    have r2 := (unhide HT).2.2.1
    have p0 := (unhide HT).2.2.2 0
    have p1 := (unhide HT).2.2.2 1
    have p2 := (unhide HT).2.2.2 2
    have hgw : g3 ≠ w.heap.size := by have := (unhide HG).1; omega
    go_wp2
    refine bodyPost_ret (v := .agg #[.slice (some ⟨g1, 0, none⟩) n1 5, .slice (some ⟨g2, 0, none⟩) n2 3, .slice none ([] : List (ByteArray × Int)).length 0]) (by simp [results, Tryd.results33, go_sem, r0, r1, r2]) rfl ⟨some ⟨g1, 0, none⟩, some ⟨g2, 0, none⟩, none, 5, 3, 0, litV.take n1, litF.take n2, ([] : List (ByteArray × Int)), ?_, ?_, ?_, ?_, ?_, ?_, ?_, by simp, ?_, ?_⟩
    ·rw [List.length_take, List.length_take, show min n1 litV.length = n1 from Nat.min_eq_left (by have := hn1; exact this), show min n2 litF.length = n2 from Nat.min_eq_left (by have := hn2; exact this)]
     try rfl
    ·exact ((((unhide HV).set hv0 _).set hv0 _).set hv0 _).strs n1 (by decide)
    ·exact ((((unhide HF).set hf0 _).set hf0 _).set hf0 _).strs n2 (by decide)
    ·exact ⟨by simp, .inl rfl⟩
    ·intro x hx
     exact names_small n1 n2 ([] : List (ByteArray × Int)) (by simp) x hx
    ·rw [List.length_take]; have : litV.length = 5 := rfl; omega
    ·rw [List.length_take]; have : litF.length = 3 := rfl; omega
    ·intro x hx
     have w1 := (unhide HV).2.1
     have w2 := (unhide HF).2.1
     rcases hx with h | h | h
     ·cases h; show w.heap.size ≤ g1; omega
     ·cases h; show w.heap.size ≤ g2; omega
     ·first | (cases h; done) | (cases h; show w.heap.size ≤ g5; omega)
    ·exact (((unhide HL).set (Nat.le_refl _) hb (unhide HC0) _).set (Nat.le_refl _) hb (unhide HC0) _).set (Nat.le_refl _) hb (unhide HC0) _
   ·go_wp2_with fail
    refine (below_c _ _ _ _ _ (by decide) _ (unhide HL).1).mono ?_
    rintro e v6 ⟨y, rfl, y0, y1, y2, hl⟩
    have y3 : wrap64 (1 + y) = 1 + y := by unfold wrap64; omega
    have HX := hide ((unhide HX).kp hl.2 (by have := (unhide HG).1; omega))
    have HV := hide ((unhide HV).kp hl.2 hbB)
    have HF := hide ((unhide HF).kp hl.2 hbB)
    have HT := hide ((unhide HT).kp hl.2 (by omega))
    have HL := hide ((unhide HL).trans hl)
    clear hl y2
    have hgl : g3 < v6.heap.size := (unhide HX).lt
    have na := heap_alloc_new v6 (Obj.cells #[.string ⟨#[97]⟩, .int .i64 (1 + y)] 95)
    have hga : v6.heap.size ≠ g3 := by omega
    have q0 := (unhide HX).1
    have q1 := (unhide HX).2.1
    have q2 := (unhide HX).2.2.1
    have f0 := (unhide HX).2.2.2 0
    have f1 := (unhide HX).2.2.2 1
    have f2 := (unhide HX).2.2.2 2
    go_upto_region 6 with fail
    clear q0 q1 q2 f0 f1 f2 na
    have hg5 : v6.heap.size ≠ w.heap.size := by have := (unhide HT).lt; omega
    have hg6 : w.heap.size ≤ v6.heap.size := by have := (unhide HT).lt; omega
    have HX := hide (((unhide HX).set2 (.slice (some ⟨v6.heap.size, 0, none⟩) 1 1)).alloc (Obj.cells #[.string ⟨#[97]⟩, .int .i64 (1 + y)] 95))
    have HV := hide (((unhide HV).set (o := 2) (unhide HG).2.1 (.slice (some ⟨v6.heap.size, 0, none⟩) 1 1)).alloc (Obj.cells #[.string ⟨#[97]⟩, .int .i64 (1 + y)] 95))
    have HF := hide (((unhide HF).set (o := 2) (unhide HG).2.2 (.slice (some ⟨v6.heap.size, 0, none⟩) 1 1)).alloc (Obj.cells #[.string ⟨#[97]⟩, .int .i64 (1 + y)] 95))
    have HT := hide (((unhide HT).other (c := g3) (o := 2) (v := .slice (some ⟨v6.heap.size, 0, none⟩) 1 1) (by have := (unhide HG).1; omega)).alloc (Obj.cells #[.string ⟨#[97]⟩, .int .i64 (1 + y)] 95))
    have HL := hide (((unhide HL).set (c := g3) (o := 2) (by have := (unhide HG).1; omega) hb (unhide HC0) (.slice (some ⟨v6.heap.size, 0, none⟩) 1 1)).alloc (Obj.cells #[.string ⟨#[97]⟩, .int .i64 (1 + y)] 95))
    have HR := hide (arr_new (v6.setCell ⟨g3, 2, none⟩ (.slice (some ⟨v6.heap.size, 0, none⟩) 1 1)) v6.heap.size (by rw [size_setCell]) ⟨#[97]⟩ (1 + y) 95)
    generalize (v6.setCell ⟨g3, 2, none⟩ (.slice (some ⟨v6.heap.size, 0, none⟩) 1 1)).alloc (Obj.cells #[.string ⟨#[97]⟩, .int .i64 (1 + y)] 95) = v7 at HX HV HF HT HL HR ⊢
    generalize v6.heap.size = g5 at HX HR hg5 hg6 ⊢
    clear hgl hga y0 y1 y3
    have q0 := (unhide HX).1
    have q1 := (unhide HX).2.1
    have q2 := (unhide HX).2.2.1
    have f0 := (unhide HX).2.2.2 0
    have f1 := (unhide HX).2.2.2 1
    have f2 := (unhide HX).2.2.2 2
    have r0 := (unhide HT).1
    have r1 := (unhide HT).2.1
    have r2 := (unhide HT).2.2.1
    have p0 := (unhide HT).2.2.2 0
    have p1 := (unhide HT).2.2.2 1
    have p2 := (unhide HT).2.2.2 2
    have hgw : g3 ≠ w.heap.size := by have := (unhide HG).1; omega
    go_wp2
    refine bodyPost_ret (v := .agg #[.slice (some ⟨g1, 0, none⟩) n1 5, .slice (some ⟨g2, 0, none⟩) n2 3, .slice (some ⟨g5, 0, none⟩) [((⟨#[97]⟩ : ByteArray), 1 + y)].length 1]) (by simp [results, Tryd.results33, go_sem, r0, r1, r2]) rfl ⟨some ⟨g1, 0, none⟩, some ⟨g2, 0, none⟩, (some ⟨g5, 0, none⟩), 5, 3, 1, litV.take n1, litF.take n2, [((⟨#[97]⟩ : ByteArray), 1 + y)], ?_, ?_, ?_, ?_, ?_, ?_, ?_, by simp, ?_, ?_⟩
    ·rw [List.length_take, List.length_take, show min n1 litV.length = n1 from Nat.min_eq_left (by have := hn1; exact this), show min n2 litF.length = n2 from Nat.min_eq_left (by have := hn2; exact this)]
     try rfl
    ·exact ((((unhide HV).set hv0 _).set hv0 _).set hv0 _).strs n1 (by decide)
    ·exact ((((unhide HF).set hf0 _).set hf0 _).set hf0 _).strs n2 (by decide)
    ·exact arrs_set (arrs_set (arrs_set (unhide HR) hg5 _) hg5 _) hg5 _
    ·intro x hx
     exact names_small n1 n2 [((⟨#[97]⟩ : ByteArray), 1 + y)] (fun p hp => by simp at hp; subst hp; show (⟨#[97]⟩ : ByteArray).size ≤ 1048576; decide) x hx
    ·rw [List.length_take]; have : litV.length = 5 := rfl; omega
    ·rw [List.length_take]; have : litF.length = 3 := rfl; omega
    ·intro x hx
     have w1 := (unhide HV).2.1
     have w2 := (unhide HF).2.1
     rcases hx with h | h | h
     ·cases h; show w.heap.size ≤ g1; omega
     ·cases h; show w.heap.size ≤ g2; omega
     ·first | (cases h; done) | (cases h; show w.heap.size ≤ g5; omega)
    ·exact (((unhide HL).set (Nat.le_refl _) hb (unhide HC0) _).set (Nat.le_refl _) hb (unhide HC0) _).set (Nat.le_refl _) hb (unhide HC0) _
  ·go_wp2_with fail
   refine (below_c _ _ _ _ _ (by decide) _ ((unhide HL).1.alloc _)).mono ?_
   rintro e v2 ⟨y, rfl, y0, y1, y2, hl⟩
   obtain ⟨k, rfl⟩ : ∃ k : Nat, y = k := ⟨y.toNat, by omega⟩
   have hk3 : (k : Int) ≤ 3 := by omega
   have hn2 : k ≤ 3 := by omega
   have hgl := (unhide HX).lt
   have HF := hide ((LitS.new v1 u.heap.size litF 9 (by have := (unhide HX).lt; have := (unhide HG).1; omega)).kp hl.2 hbB)
   have HX := hide (((unhide HX).alloc _).kp hl.2 (by have := (unhide HG).1; omega))
   have HV := hide (((unhide HV).alloc _).kp hl.2 hbB)
   have HT := hide (((unhide HT).alloc _).kp hl.2 (by omega))
   have HL := hide (((unhide HL).alloc _).trans hl)
   have HG := hide (show u.heap.size ≤ g3 ∧ g1 ≠ g3 ∧ v1.heap.size ≠ g3 from ⟨(unhide HG).1, (unhide HG).2.1, by omega⟩)
   generalize v1.heap.size = g4 at HF HG ⊢
   clear hl y0 y1 y2 hgl
   have q0 := (unhide HX).1
   have q1 := (unhide HX).2.1
   have q2 := (unhide HX).2.2.1
   have f0 := (unhide HX).2.2.2 0
   have f1 := (unhide HX).2.2.2 1
   have f2 := (unhide HX).2.2.2 2
   go_upto_region 4 with fail
   have HX := hide ((unhide HX).set1 (.slice (some ⟨g4, 0, none⟩) k 3))
   have HV := hide ((unhide HV).set (o := 1) (unhide HG).2.1 (.slice (some ⟨g4, 0, none⟩) k 3))
   have HF := hide ((unhide HF).set (o := 1) (unhide HG).2.2 (.slice (some ⟨g4, 0, none⟩) k 3))
   have HT := hide ((unhide HT).other (c := g3) (o := 1) (v := .slice (some ⟨g4, 0, none⟩) k 3) (by have := (unhide HG).1; omega))
   have HL := hide ((unhide HL).set (c := g3) (o := 1) (by have := (unhide HG).1; omega) hb (unhide HC0) (.slice (some ⟨g4, 0, none⟩) k 3))
   generalize v2.setCell ⟨g3, 1, none⟩ (.slice (some ⟨g4, 0, none⟩) k 3) = v4 at HX HV HF HT HL ⊢
   clear q0 q1 q2 f0 f1 f2
   have hv0 : g1 ≠ w.heap.size := by have := (unhide HV).2.1; omega
   have hf0 : g4 ≠ w.heap.size := by have := (unhide HF).2.1; omega
   go_wp2_with fail
   refine (once_c _ _ _ _ _ (by decide) (by decide) _ (unhide HL).1).mono ?_
   rintro e v5 ⟨q2, rfl, hl⟩
   have HX := hide ((unhide HX).kp hl.2 (by have := (unhide HG).1; omega))
   have HV := hide ((unhide HV).kp hl.2 hbB)
   have HF := hide ((unhide HF).kp hl.2 hbB)
   have HT := hide ((unhide HT).kp hl.2 (by omega))
   have HL := hide ((unhide HL).trans hl)
   clear hl
   cases q2
   ·have q0 := (unhide HX).1
    have q1 := (unhide HX).2.1
    have q2 := (unhide HX).2.2.1
    have f0 := (unhide HX).2.2.2 0
    have f1 := (unhide HX).2.2.2 1
    have f2 := (unhide HX).2.2.2 2
    have r0 := (unhide HT).1
    have r1 := (unhide HT).2.1
    have r2 := (unhide HT).2.2.1
    have p0 := (unhide HT).2.2.2 0
    have p1 := (unhide HT).2.2.2 1
    have p2 := (unhide HT).2.2.2 2
    have hgw : g3 ≠ w.heap.size := by have := (unhide HG).1; omega
    go_wp2
    refine bodyPost_ret (v := .agg #[.slice (some ⟨g1, 0, none⟩) n1 5, .slice (some ⟨g4, 0, none⟩) k 3, .slice none ([] : List (ByteArray × Int)).length 0]) (by simp [results, Tryd.results33, go_sem, r0, r1, r2]) rfl ⟨some ⟨g1, 0, none⟩, some ⟨g4, 0, none⟩, none, 5, 3, 0, litV.take n1, litF.take k, ([] : List (ByteArray × Int)), ?_, ?_, ?_, ?_, ?_, ?_, ?_, by simp, ?_, ?_⟩
    ·rw [List.length_take, List.length_take, show min n1 litV.length = n1 from Nat.min_eq_left (by have := hn1; exact this), show min k litF.length = k from Nat.min_eq_left (by have := hn2; exact this)]
     try rfl
    ·exact ((((unhide HV).set hv0 _).set hv0 _).set hv0 _).strs n1 (by decide)
    ·exact ((((unhide HF).set hf0 _).set hf0 _).set hf0 _).strs k (by decide)
    ·exact ⟨by simp, .inl rfl⟩
    ·intro x hx
     exact names_small n1 k ([] : List (ByteArray × Int)) (by simp) x hx
    ·rw [List.length_take]; have : litV.length = 5 := rfl; omega
    ·rw [List.length_take]; have : litF.length = 3 := rfl; omega
    ·intro x hx
     have w1 := (unhide HV).2.1
     have w2 := (unhide HF).2.1
     rcases hx with h | h | h
     ·cases h; show w.heap.size ≤ g1; omega
     ·cases h; show w.heap.size ≤ g4; omega
     ·first | (cases h; done) | (cases h; show w.heap.size ≤ g5; omega)
    ·exact (((unhide HL).set (Nat.le_refl _) hb (unhide HC0) _).set (Nat.le_refl _) hb (unhide HC0) _).set (Nat.le_refl _) hb (unhide HC0) _
   ·go_wp2_with fail
    refine (below_c _ _ _ _ _ (by decide) _ (unhide HL).1).mono ?_
    rintro e v6 ⟨y, rfl, y0, y1, y2, hl⟩
    have y3 : wrap64 (1 + y) = 1 + y := by unfold wrap64; omega
    have HX := hide ((unhide HX).kp hl.2 (by have := (unhide HG).1; omega))
    have HV := hide ((unhide HV).kp hl.2 hbB)
    have HF := hide ((unhide HF).kp hl.2 hbB)
    have HT := hide ((unhide HT).kp hl.2 (by omega))
    have HL := hide ((unhide HL).trans hl)
    clear hl y2
    have hgl : g3 < v6.heap.size := (unhide HX).lt
    have na := heap_alloc_new v6 (Obj.cells #[.string ⟨#[97]⟩, .int .i64 (1 + y)] 95)
    have hga : v6.heap.size ≠ g3 := by omega
    have q0 := (unhide HX).1
    have q1 := (unhide HX).2.1
    have q2 := (unhide HX).2.2.1
    have f0 := (unhide HX).2.2.2 0
    have f1 := (unhide HX).2.2.2 1
    have f2 := (unhide HX).2.2.2 2
    go_upto_region 6 with fail
    clear q0 q1 q2 f0 f1 f2 na
    have hg5 : v6.heap.size ≠ w.heap.size := by have := (unhide HT).lt; omega
    have hg6 : w.heap.size ≤ v6.heap.size := by have := (unhide HT).lt; omega
    have HX := hide (((unhide HX).set2 (.slice (some ⟨v6.heap.size, 0, none⟩) 1 1)).alloc (Obj.cells #[.string ⟨#[97]⟩, .int .i64 (1 + y)] 95))
    have HV := hide (((unhide HV).set (o := 2) (unhide HG).2.1 (.slice (some ⟨v6.heap.size, 0, none⟩) 1 1)).alloc (Obj.cells #[.string ⟨#[97]⟩, .int .i64 (1 + y)] 95))
    have HF := hide (((unhide HF).set (o := 2) (unhide HG).2.2 (.slice (some ⟨v6.heap.size, 0, none⟩) 1 1)).alloc (Obj.cells #[.string ⟨#[97]⟩, .int .i64 (1 + y)] 95))
    have HT := hide (((unhide HT).other (c := g3) (o := 2) (v := .slice (some ⟨v6.heap.size, 0, none⟩) 1 1) (by have := (unhide HG).1; omega)).alloc (Obj.cells #[.string ⟨#[97]⟩, .int .i64 (1 + y)] 95))
    have HL := hide (((unhide HL).set (c := g3) (o := 2) (by have := (unhide HG).1; omega) hb (unhide HC0) (.slice (some ⟨v6.heap.size, 0, none⟩) 1 1)).alloc (Obj.cells #[.string ⟨#[97]⟩, .int .i64 (1 + y)] 95))
    have HR := hide (arr_new (v6.setCell ⟨g3, 2, none⟩ (.slice (some ⟨v6.heap.size, 0, none⟩) 1 1)) v6.heap.size (by rw [size_setCell]) ⟨#[97]⟩ (1 + y) 95)
    generalize (v6.setCell ⟨g3, 2, none⟩ (.slice (some ⟨v6.heap.size, 0, none⟩) 1 1)).alloc (Obj.cells #[.string ⟨#[97]⟩, .int .i64 (1 + y)] 95) = v7 at HX HV HF HT HL HR ⊢
    generalize v6.heap.size = g5 at HX HR hg5 hg6 ⊢
    clear hgl hga y0 y1 y3
    have q0 := (unhide HX).1
    have q1 := (unhide HX).2.1
    have q2 := (unhide HX).2.2.1
    have f0 := (unhide HX).2.2.2 0
    have f1 := (unhide HX).2.2.2 1
    have f2 := (unhide HX).2.2.2 2
    have r0 := (unhide HT).1
    have r1 := (unhide HT).2.1
    have r2 := (unhide HT).2.2.1
    have p0 := (unhide HT).2.2.2 0
    have p1 := (unhide HT).2.2.2 1
    have p2 := (unhide HT).2.2.2 2
    have hgw : g3 ≠ w.heap.size := by have := (unhide HG).1; omega
    go_wp2
    refine bodyPost_ret (v := .agg #[.slice (some ⟨g1, 0, none⟩) n1 5, .slice (some ⟨g4, 0, none⟩) k 3, .slice (some ⟨g5, 0, none⟩) [((⟨#[97]⟩ : ByteArray), 1 + y)].length 1]) (by simp [results, Tryd.results33, go_sem, r0, r1, r2]) rfl ⟨some ⟨g1, 0, none⟩, some ⟨g4, 0, none⟩, (some ⟨g5, 0, none⟩), 5, 3, 1, litV.take n1, litF.take k, [((⟨#[97]⟩ : ByteArray), 1 + y)], ?_, ?_, ?_, ?_, ?_, ?_, ?_, by simp, ?_, ?_⟩
    ·rw [List.length_take, List.length_take, show min n1 litV.length = n1 from Nat.min_eq_left (by have := hn1; exact this), show min k litF.length = k from Nat.min_eq_left (by have := hn2; exact this)]
     try rfl
    ·exact ((((unhide HV).set hv0 _).set hv0 _).set hv0 _).strs n1 (by decide)
    ·exact ((((unhide HF).set hf0 _).set hf0 _).set hf0 _).strs k (by decide)
    ·exact arrs_set (arrs_set (arrs_set (unhide HR) hg5 _) hg5 _) hg5 _
    ·intro x hx
     exact names_small n1 k [((⟨#[97]⟩ : ByteArray), 1 + y)] (fun p hp => by simp at hp; subst hp; show (⟨#[97]⟩ : ByteArray).size ≤ 1048576; decide) x hx
    ·rw [List.length_take]; have : litV.length = 5 := rfl; omega
    ·rw [List.length_take]; have : litF.length = 3 := rfl; omega
    ·intro x hx
     have w1 := (unhide HV).2.1
     have w2 := (unhide HF).2.1
     rcases hx with h | h | h
     ·cases h; show w.heap.size ≤ g1; omega
     ·cases h; show w.heap.size ≤ g4; omega
     ·first | (cases h; done) | (cases h; show w.heap.size ≤ g5; omega)
    ·exact (((unhide HL).set (Nat.le_refl _) hb (unhide HC0) _).set (Nat.le_refl _) hb (unhide HC0) _).set (Nat.le_refl _) hb (unhide HC0) _
end Go.Proofs.YtpdnnpnclgcpoaaDoor
