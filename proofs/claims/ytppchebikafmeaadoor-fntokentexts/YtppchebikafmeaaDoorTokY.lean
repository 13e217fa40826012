/- What is drawn of texts of alarms, from a code. -/
import Derived.Test.YtppchebikafmeaaDoorTokX
namespace Go.Proofs.YtppchebikafmeaaDoor
open Go.RowKit Go.Iv
set_option linter.unusedSimpArgs false
set_option linter.unusedVariables false

def pickS (c0 c1 c2 c3 : ByteArray) (y : Int) : ByteArray := if y = 0 then c0 else if y = 1 then c1 else if y = 2 then c2 else c3
theorem pickS_size (c0 c1 c2 c3 : ByteArray) (y : Int) (h0 : c0.size = 1) (h1 : c1.size = 1) (h2 : c2.size = 1) (h3 : c3.size = 1) : (pickS c0 c1 c2 c3 y).size = 1 := by
  unfold pickS; split
  · exact h0
  · split
    · exact h1
    · split
      · exact h2
      · exact h3
theorem pickS_cell (W : World) (c0 c1 c2 c3 : ByteArray) (ty : TypeId) (y : Int) (h0 : 0 ≤ y) (h1 : y < 4) : (W.alloc (.cells #[.string c0, .string c1, .string c2, .string c3] ty)).cell? ⟨W.heap.size, y.toNat, none⟩ = some (.string (pickS c0 c1 c2 c3 y)) := by
  have h : (W.alloc (.cells #[.string c0, .string c1, .string c2, .string c3] ty)).heap[W.heap.size]? = some (.cells #[.string c0, .string c1, .string c2, .string c3] ty) := heap_alloc_new W _
  rcases (show y = 0 ∨ y = 1 ∨ y = 2 ∨ y = 3 by omega) with rfl | rfl | rfl | rfl <;> (unfold World.cell?; rw [h]; simp [pickS])
theorem pickS_kept {W w2 : World} {b : Nat} {c0 c1 c2 c3 : ByteArray} {ty : TypeId} {y : Int} (k : Kp b (W.alloc (.cells #[.string c0, .string c1, .string c2, .string c3] ty)) w2) (hb : b < W.heap.size) (h0 : 0 ≤ y) (h1 : y < 4) :
    w2.cell? ⟨W.heap.size, y.toNat, none⟩ = some (.string (pickS c0 c1 c2 c3 y)) := by
  rw [World.cell?_of_block (w := W.alloc (.cells #[.string c0, .string c1, .string c2, .string c3] ty)) (k.block W.heap.size (by simp) (by omega))]
  exact pickS_cell W c0 c1 c2 c3 ty y h0 h1
/-- Some text, of so many bytes at most. -/
def StrR (n : Nat) (e : Ending) : Prop := ∃ t : ByteArray, e = .returned (.string t) ∧ t.size ≤ n
set_option maxRecDepth 20000 in
set_option maxHeartbeats 16000000 in
theorem hurt_c (b : Nat) (a : Option Addr) (len cap : Nat) (s : ByteArray) (hs : s.size ≤ 1000) (w : World) (h : Rdr w b a len cap) : Calls Tryd.prog 27 #[.pointer (some ⟨b, 0, none⟩), .string s] w fun e w' => StrR (s.size + 1) e ∧ Left b a len cap w w' := by
  have R := hide h
  have hs' : (s.size : Int) ≤ 1000 := by omega
  clear h
  go_enter Tryd.func27, Tryd.ntmps27
  go_wp2_with fail
  refine (below_c _ _ _ _ _ (by decide) _ (unhide R)).mono ?_
  rintro e w1 ⟨x, rfl, x0, x1, x2, hl⟩
  have HL := hide hl
  clear hl R x1 x2
  by_cases e1 : x = 1
  · have e1' : (x == 1) = true := by simpa using e1
    clear e1
    have z1 : wrap64 ((s.size : Int) + 1) = (s.size : Int) + 1 := by unfold wrap64; omega
    go_wp2_with fail
    refine (below_c _ _ _ _ _ (by omega) _ (unhide HL).1).mono ?_
    rintro e w2 ⟨r, rfl, r0, r1, r2, hl⟩
    have HL2 := hide ((unhide HL).trans hl)
    have r3 : r ≤ (s.size : Int) := by omega
    clear hl r1 r2
    go_wp2
    go_ret
    exact ⟨⟨_, rfl, by rw [ByteArray.size_extract]; omega⟩, unhide HL2⟩
  have e1' : (x == 1) = false := by simpa using e1
  by_cases e2 : x = 2
  · have e2' : (x == 2) = true := by simpa using e2
    clear e1 e2
    by_cases h0 : (0 : Int) < (s.size : Int)
    · go_wp2_with fail
      refine (below_c _ _ _ _ _ (by omega) _ (unhide HL).1).mono ?_
      rintro e w2 ⟨r, rfl, r0, r1, r2, hl⟩
      have HL2 := hide ((unhide HL).trans hl)
      obtain ⟨k, rfl⟩ : ∃ k : Nat, r = k := ⟨r.toNat, by omega⟩
      have hk : k < s.size := by omega
      have k1 : (k : Int) ≤ (s.size : Int) := by omega
      have k2 : (k : Int) + 1 ≤ (s.size : Int) := by omega
      have k3 : 0 ≤ (k : Int) + 1 := by omega
      have k4 : IntKind.i64.wrap ((k : Int) + 1) = (k : Int) + 1 := by rw [IntKind.wrap_i64]; omega
      have hst := hide (unhide HL2).1
      have hlt : b < w2.heap.size := (unhide HL2).1.lt
      clear hl r1 r2
      obtain ⟨A, hA⟩ : ∃ A, s.extract 0 k = A := ⟨_, rfl⟩
      obtain ⟨B, hB⟩ : ∃ B, s.extract (k + 1) s.size = B := ⟨_, rfl⟩
      have sA : A.size = k := by rw [← hA, ByteArray.size_extract]; omega
      have sB : B.size + k + 1 = s.size := by rw [← hB, ByteArray.size_extract]; omega
      have HAB := hide (And.intro sA sB)
      clear sA sB
      go_wp2
      refine wp_region_held_drew (S := fun u => Left b a len cap w2 u) (by kernel_rfl) (Left.drew (Left.refl (unhide hst))) (fun hHeld => ?_)
      refine wpAnyH_take (i := 0) (oi := { dst := some 26, op := Op.move (Operand.tmp 1), type := 9, pos := "l01_numbers.go:230", after := #[], guard := none }) (v := ?_) rfl (by kernel_rfl) (by kernel_rfl) (by kernel_rfl) (fun _ _ _ h => h) (Or.inl ⟨by rfl, ?_⟩) (by assumption) ?_
      rotate_left
      · (intro w9 hSw; (try dsimp only at hSw); go_simp; try with_reducible rfl)
      try simp only [Act.put, List.setIfInBounds_toArray, List.set_cons_zero, List.set_cons_succ]
      refine wpAnyH_take (i := 1) (oi := { dst := some 27, op := Op.move (Operand.tmp 5), type := 3, pos := "l01_numbers.go:230", after := #[], guard := none }) (v := ?_) rfl (by kernel_rfl) (by kernel_rfl) (by kernel_rfl) (fun _ _ _ h => h) (Or.inl ⟨by rfl, ?_⟩) (by assumption) ?_
      rotate_left
      · (intro w9 hSw; (try dsimp only at hSw); go_simp; try with_reducible rfl)
      try simp only [Act.put, List.setIfInBounds_toArray, List.set_cons_zero, List.set_cons_succ]
      refine wpAnyH_take (i := 2) (oi := { dst := some 28, op := Op.slice 9 (Operand.tmp 26) none (some (Operand.tmp 27)) none, type := 9, pos := "l01_numbers.go:230", after := #[{ on := 0, ground := Ground.data }, { on := 1, ground := Ground.data }], guard := none }) (v := ?_) rfl (by kernel_rfl) (by kernel_rfl) (by kernel_rfl) (fun _ _ _ h => h) (Or.inl ⟨by rfl, ?_⟩) (by assumption) ?_
      rotate_left
      · (intro w9 hSw; (try dsimp only at hSw); go_simp; try with_reducible rfl)
      try simp only [Act.put, List.setIfInBounds_toArray, List.set_cons_zero, List.set_cons_succ]
      refine wpAnyH_take (i := 4) (oi := { dst := some 30, op := Op.move (Operand.tmp 0), type := 43, pos := "l01_numbers.go:230", after := #[], guard := none }) (v := ?_) rfl (by kernel_rfl) (by kernel_rfl) (by kernel_rfl) (fun _ _ _ h => h) (Or.inl ⟨by rfl, ?_⟩) (by assumption) ?_
      rotate_left
      · (intro w9 hSw; (try dsimp only at hSw); go_simp; try with_reducible rfl)
      try simp only [Act.put, List.setIfInBounds_toArray, List.set_cons_zero, List.set_cons_succ]
      refine wpAnyH_take (i := 9) (oi := { dst := some 35, op := Op.move (Operand.tmp 1), type := 9, pos := "l01_numbers.go:230", after := #[], guard := none }) (v := ?_) rfl (by kernel_rfl) (by kernel_rfl) (by kernel_rfl) (fun _ _ _ h => h) (Or.inl ⟨by rfl, ?_⟩) (by assumption) ?_
      rotate_left
      · (intro w9 hSw; (try dsimp only at hSw); go_simp; try with_reducible rfl)
      try simp only [Act.put, List.setIfInBounds_toArray, List.set_cons_zero, List.set_cons_succ]
      refine wpAnyH_take (i := 10) (oi := { dst := some 36, op := Op.move (Operand.tmp 5), type := 3, pos := "l01_numbers.go:230", after := #[], guard := none }) (v := ?_) rfl (by kernel_rfl) (by kernel_rfl) (by kernel_rfl) (fun _ _ _ h => h) (Or.inl ⟨by rfl, ?_⟩) (by assumption) ?_
      rotate_left
      · (intro w9 hSw; (try dsimp only at hSw); go_simp; try with_reducible rfl)
      try simp only [Act.put, List.setIfInBounds_toArray, List.set_cons_zero, List.set_cons_succ]
      refine wpAnyH_take (i := 11) (oi := { dst := some 37, op := Op.binOp BinOp.add 3 (Operand.tmp 36) (Operand.const (Value.int IntKind.i64 1)) 3, type := 3, pos := "l01_numbers.go:230", after := #[{ on := 10, ground := Ground.data }], guard := none }) (v := ?_) rfl (by kernel_rfl) (by kernel_rfl) (by kernel_rfl) (fun _ _ _ h => h) (Or.inl ⟨by rfl, ?_⟩) (by assumption) ?_
      rotate_left
      · (intro w9 hSw; (try dsimp only at hSw); go_simp; try with_reducible rfl)
      try simp only [Act.put, List.setIfInBounds_toArray, List.set_cons_zero, List.set_cons_succ]
      refine wpAnyH_take (i := 12) (oi := { dst := some 38, op := Op.slice 9 (Operand.tmp 35) (some (Operand.tmp 37)) none none, type := 9, pos := "l01_numbers.go:230", after := #[{ on := 9, ground := Ground.data }, { on := 11, ground := Ground.data }], guard := none }) (v := ?_) rfl (by kernel_rfl) (by kernel_rfl) (by kernel_rfl) (fun _ _ _ h => h) (Or.inl ⟨by rfl, ?_⟩) (by assumption) ?_
      rotate_left
      · (intro w9 hSw; (try dsimp only at hSw); go_simp; try with_reducible rfl)
      try simp only [Act.put, List.setIfInBounds_toArray, List.set_cons_zero, List.set_cons_succ]
      refine wpAnyH_ready (rs := [3, 5]) (by kernel_rfl) (by simp) ?_
      refine AllReadyH.cons (i := 3) (o := { dst := some 29, op := Op.buildSlice 38 4 #[(0, Operand.const (Value.string { data := #[0] })), (1, Operand.const (Value.string { data := #[55] })), (2, Operand.const (Value.string { data := #[255] })), (3, Operand.const (Value.string { data := #[32] }))], type := 38, pos := "l01_numbers.go:230", after := #[], guard := none }) rfl (fun K hK => ?_) (AllReadyH.cons (i := 5) (o := { dst := some 31, op := Op.call { callee := Callee.value (Operand.func 26), args := #[Operand.tmp 30, Operand.const (Value.int IntKind.i64 4)], argTypes := #[43, 3] }, type := 3, pos := "l01_numbers.go:230", after := #[{ on := 4, ground := Ground.data }], guard := none }) rfl (fun K hK => ?_) AllReadyH.nil)
      · go_simp
        refine hK.out _ _ (Left.alloc hHeld _) (fun hHeld => ?_)
        clear hK K
        try simp only [Act.put, List.setIfInBounds_toArray, List.set_cons_zero, List.set_cons_succ]
        refine wpAnyH_ready (rs := [5]) (by kernel_rfl) (by simp) ?_
        refine AllReadyH.cons (i := 5) (o := { dst := some 31, op := Op.call { callee := Callee.value (Operand.func 26), args := #[Operand.tmp 30, Operand.const (Value.int IntKind.i64 4)], argTypes := #[43, 3] }, type := 3, pos := "l01_numbers.go:230", after := #[{ on := 4, ground := Ground.data }], guard := none }) rfl (fun K hK => ?_) AllReadyH.nil
        go_simp
        refine (below_c _ _ _ _ _ (by decide) _ (show Left b a len cap w2 _ from hHeld).1).mono ?_
        rintro e u9 ⟨y, rfl, y0, y1, y2, hl⟩
        have y3 : y < 4 := by omega
        have pk := pickS_kept hl.2.undrew hlt y0 y3
        have hll := Left.trans (show Left b a len cap w2 _ from hHeld) hl
        refine hK.out _ _ hll (fun hHeld => ?_)
        clear hK K hl y2
        try simp only [Act.put, List.setIfInBounds_toArray, List.set_cons_zero, List.set_cons_succ]
        refine wpAnyH_take (i := 6) (oi := { dst := some 32, op := Op.indexAddr 38 (Operand.tmp 29) (Operand.tmp 31), type := 0, pos := "l01_numbers.go:230", after := #[{ on := 3, ground := Ground.data }, { on := 5, ground := Ground.data }], guard := none }) (v := ?_) rfl (by kernel_rfl) (by kernel_rfl) (by kernel_rfl) (fun _ _ _ h => h) (Or.inl ⟨by rfl, ?_⟩) (by assumption) ?_
        rotate_left
        · (intro w9 hSw; (try dsimp only at hSw); go_simp; try with_reducible rfl)
        try simp only [Act.put, List.setIfInBounds_toArray, List.set_cons_zero, List.set_cons_succ]
        refine wpAnyH_ready (rs := [7]) (by kernel_rfl) (by simp) ?_
        refine AllReadyH.cons (i := 7) (o := { dst := some 33, op := Op.load 9 (Operand.tmp 32), type := 9, pos := "l01_numbers.go:230", after := #[{ on := 6, ground := Ground.data }], guard := none }) rfl (fun K hK => ?_) AllReadyH.nil
        go_simp
        have qs := hide (pickS_size ⟨#[0]⟩ ⟨#[55]⟩ ⟨#[255]⟩ ⟨#[32]⟩ y rfl rfl rfl rfl)
        generalize pickS ⟨#[0]⟩ ⟨#[55]⟩ ⟨#[255]⟩ ⟨#[32]⟩ y = C at qs pk ⊢
        have n1 : ¬ (9223372036854775807 < A.size + C.size) := by have := unhide qs; have := unhide HAB; omega
        have n2 : ¬ (9223372036854775807 < A.size + C.size + B.size) := by have := unhide qs; have := unhide HAB; omega
        refine hK.out _ _ hHeld (fun hHeld => ?_)
        clear hK K
        try simp only [Act.put, List.setIfInBounds_toArray, List.set_cons_zero, List.set_cons_succ]
        refine wpAnyH_take (i := 8) (oi := { dst := some 34, op := Op.binOp BinOp.add 9 (Operand.tmp 28) (Operand.tmp 33) 9, type := 9, pos := "l01_numbers.go:230", after := #[{ on := 2, ground := Ground.data }, { on := 7, ground := Ground.data }], guard := none }) (v := ?_) rfl (by kernel_rfl) (by kernel_rfl) (by kernel_rfl) (fun _ _ _ h => h) (Or.inl ⟨by rfl, ?_⟩) (by assumption) ?_
        rotate_left
        · (intro w9 hSw; (try dsimp only at hSw); go_simp; try with_reducible rfl)
        try simp only [Act.put, List.setIfInBounds_toArray, List.set_cons_zero, List.set_cons_succ]
        refine wpAnyH_take (i := 13) (oi := { dst := some 39, op := Op.binOp BinOp.add 9 (Operand.tmp 34) (Operand.tmp 38) 9, type := 9, pos := "l01_numbers.go:230", after := #[{ on := 8, ground := Ground.data }, { on := 12, ground := Ground.data }], guard := none }) (v := ?_) rfl (by kernel_rfl) (by kernel_rfl) (by kernel_rfl) (fun _ _ _ h => h) (Or.inl ⟨by rfl, ?_⟩) (by assumption) ?_
        rotate_left
        · (intro w9 hSw; (try dsimp only at hSw); go_simp; try with_reducible rfl)
        try simp only [Act.put, List.setIfInBounds_toArray, List.set_cons_zero, List.set_cons_succ]
        refine wpAnyH_take (i := 14) (oi := { dst := some 4, op := Op.assign (Operand.tmp 39), type := 9, pos := "l01_numbers.go:230", after := #[{ on := 13, ground := Ground.data }, { on := 5, ground := Ground.chain }, { on := 0, ground := Ground.phase }, { on := 1, ground := Ground.phase }, { on := 2, ground := Ground.phase }, { on := 3, ground := Ground.phase }, { on := 4, ground := Ground.phase }, { on := 5, ground := Ground.phase }, { on := 6, ground := Ground.phase }, { on := 7, ground := Ground.phase }, { on := 8, ground := Ground.phase }, { on := 9, ground := Ground.phase }, { on := 10, ground := Ground.phase }, { on := 11, ground := Ground.phase }, { on := 12, ground := Ground.phase }, { on := 13, ground := Ground.phase }], guard := none }) (v := ?_) rfl (by kernel_rfl) (by kernel_rfl) (by kernel_rfl) (fun _ _ _ h => h) (Or.inl ⟨by rfl, ?_⟩) (by assumption) ?_
        rotate_left
        · (intro w9 hSw; (try dsimp only at hSw); go_simp; try with_reducible rfl)
        try simp only [Act.put, List.setIfInBounds_toArray, List.set_cons_zero, List.set_cons_succ]
        refine wpAnyH_done (by kernel_rfl) ?_ _
        go_wp2
        go_ret
        exact ⟨⟨A ++ C ++ B, rfl, by rw [ByteArray.size_append, ByteArray.size_append]; have := unhide qs; have := unhide HAB; omega⟩, (unhide HL2).trans hHeld⟩
      · go_simp
        refine (below_c _ _ _ _ _ (by decide) _ (show Left b a len cap w2 _ from hHeld).1).mono ?_
        rintro e u9 ⟨y, rfl, y0, y1, y2, hl⟩
        have y3 : y < 4 := by omega
        have hll := Left.trans (show Left b a len cap w2 _ from hHeld) hl
        refine hK.out _ _ hll (fun hHeld => ?_)
        clear hK K hl y2
        try simp only [Act.put, List.setIfInBounds_toArray, List.set_cons_zero, List.set_cons_succ]
        refine wpAnyH_ready (rs := [3]) (by kernel_rfl) (by simp) ?_
        refine AllReadyH.cons (i := 3) (o := { dst := some 29, op := Op.buildSlice 38 4 #[(0, Operand.const (Value.string { data := #[0] })), (1, Operand.const (Value.string { data := #[55] })), (2, Operand.const (Value.string { data := #[255] })), (3, Operand.const (Value.string { data := #[32] }))], type := 38, pos := "l01_numbers.go:230", after := #[], guard := none }) rfl (fun K hK => ?_) AllReadyH.nil
        go_simp
        have pk := pickS_cell u9 ⟨#[0]⟩ ⟨#[55]⟩ ⟨#[255]⟩ ⟨#[32]⟩ 9 y y0 y3
        refine hK.out _ _ (Left.alloc hHeld _) (fun hHeld => ?_)
        clear hK K
        try simp only [Act.put, List.setIfInBounds_toArray, List.set_cons_zero, List.set_cons_succ]
        refine wpAnyH_take (i := 6) (oi := { dst := some 32, op := Op.indexAddr 38 (Operand.tmp 29) (Operand.tmp 31), type := 0, pos := "l01_numbers.go:230", after := #[{ on := 3, ground := Ground.data }, { on := 5, ground := Ground.data }], guard := none }) (v := ?_) rfl (by kernel_rfl) (by kernel_rfl) (by kernel_rfl) (fun _ _ _ h => h) (Or.inl ⟨by rfl, ?_⟩) (by assumption) ?_
        rotate_left
        · (intro w9 hSw; (try dsimp only at hSw); go_simp; try with_reducible rfl)
        try simp only [Act.put, List.setIfInBounds_toArray, List.set_cons_zero, List.set_cons_succ]
        refine wpAnyH_ready (rs := [7]) (by kernel_rfl) (by simp) ?_
        refine AllReadyH.cons (i := 7) (o := { dst := some 33, op := Op.load 9 (Operand.tmp 32), type := 9, pos := "l01_numbers.go:230", after := #[{ on := 6, ground := Ground.data }], guard := none }) rfl (fun K hK => ?_) AllReadyH.nil
        go_simp
        have qs := hide (pickS_size ⟨#[0]⟩ ⟨#[55]⟩ ⟨#[255]⟩ ⟨#[32]⟩ y rfl rfl rfl rfl)
        generalize pickS ⟨#[0]⟩ ⟨#[55]⟩ ⟨#[255]⟩ ⟨#[32]⟩ y = C at qs pk ⊢
        have n1 : ¬ (9223372036854775807 < A.size + C.size) := by have := unhide qs; have := unhide HAB; omega
        have n2 : ¬ (9223372036854775807 < A.size + C.size + B.size) := by have := unhide qs; have := unhide HAB; omega
        refine hK.out _ _ hHeld (fun hHeld => ?_)
        clear hK K
        try simp only [Act.put, List.setIfInBounds_toArray, List.set_cons_zero, List.set_cons_succ]
        refine wpAnyH_take (i := 8) (oi := { dst := some 34, op := Op.binOp BinOp.add 9 (Operand.tmp 28) (Operand.tmp 33) 9, type := 9, pos := "l01_numbers.go:230", after := #[{ on := 2, ground := Ground.data }, { on := 7, ground := Ground.data }], guard := none }) (v := ?_) rfl (by kernel_rfl) (by kernel_rfl) (by kernel_rfl) (fun _ _ _ h => h) (Or.inl ⟨by rfl, ?_⟩) (by assumption) ?_
        rotate_left
        · (intro w9 hSw; (try dsimp only at hSw); go_simp; try with_reducible rfl)
        try simp only [Act.put, List.setIfInBounds_toArray, List.set_cons_zero, List.set_cons_succ]
        refine wpAnyH_take (i := 13) (oi := { dst := some 39, op := Op.binOp BinOp.add 9 (Operand.tmp 34) (Operand.tmp 38) 9, type := 9, pos := "l01_numbers.go:230", after := #[{ on := 8, ground := Ground.data }, { on := 12, ground := Ground.data }], guard := none }) (v := ?_) rfl (by kernel_rfl) (by kernel_rfl) (by kernel_rfl) (fun _ _ _ h => h) (Or.inl ⟨by rfl, ?_⟩) (by assumption) ?_
        rotate_left
        · (intro w9 hSw; (try dsimp only at hSw); go_simp; try with_reducible rfl)
        try simp only [Act.put, List.setIfInBounds_toArray, List.set_cons_zero, List.set_cons_succ]
        refine wpAnyH_take (i := 14) (oi := { dst := some 4, op := Op.assign (Operand.tmp 39), type := 9, pos := "l01_numbers.go:230", after := #[{ on := 13, ground := Ground.data }, { on := 5, ground := Ground.chain }, { on := 0, ground := Ground.phase }, { on := 1, ground := Ground.phase }, { on := 2, ground := Ground.phase }, { on := 3, ground := Ground.phase }, { on := 4, ground := Ground.phase }, { on := 5, ground := Ground.phase }, { on := 6, ground := Ground.phase }, { on := 7, ground := Ground.phase }, { on := 8, ground := Ground.phase }, { on := 9, ground := Ground.phase }, { on := 10, ground := Ground.phase }, { on := 11, ground := Ground.phase }, { on := 12, ground := Ground.phase }, { on := 13, ground := Ground.phase }], guard := none }) (v := ?_) rfl (by kernel_rfl) (by kernel_rfl) (by kernel_rfl) (fun _ _ _ h => h) (Or.inl ⟨by rfl, ?_⟩) (by assumption) ?_
        rotate_left
        · (intro w9 hSw; (try dsimp only at hSw); go_simp; try with_reducible rfl)
        try simp only [Act.put, List.setIfInBounds_toArray, List.set_cons_zero, List.set_cons_succ]
        refine wpAnyH_done (by kernel_rfl) ?_ _
        go_wp2
        go_ret
        exact ⟨⟨A ++ C ++ B, rfl, by rw [ByteArray.size_append, ByteArray.size_append]; have := unhide qs; have := unhide HAB; omega⟩, (unhide HL2).trans hHeld⟩
    · go_wp2
      go_ret
      exact ⟨⟨s, rfl, by omega⟩, unhide HL⟩
  have e2' : (x == 2) = false := by simpa using e2
  by_cases e3 : x = 3
  · have e3' : (x == 3) = true := by simpa using e3
    clear e1 e2 e3
    have hlt : b < w1.heap.size := (unhide HL).1.lt
    go_wp2_with fail
    refine (below_c _ _ _ _ _ (by decide) _ ((unhide HL).1.alloc _)).mono ?_
    rintro e w2 ⟨y, rfl, y0, y1, y2, hl⟩
    have y3 : y < 4 := by omega
    have pk := pickS_kept hl.2 hlt y0 y3
    have HL2 := hide (((unhide HL).alloc _).trans hl)
    have qs := pickS_size ⟨#[0]⟩ ⟨#[49]⟩ ⟨#[10]⟩ ⟨#[32]⟩ y rfl rfl rfl rfl
    generalize pickS ⟨#[0]⟩ ⟨#[49]⟩ ⟨#[10]⟩ ⟨#[32]⟩ y = C at qs pk
    have n1 : ¬ (9223372036854775807 < s.size + C.size) := by omega
    clear hl HL y2
    go_wp2
    go_ret
    exact ⟨⟨_, rfl, by rw [ByteArray.size_append]; omega⟩, unhide HL2⟩
  have e3' : (x == 3) = false := by simpa using e3
  clear e1 e2 e3
  go_wp2
  go_ret
  exact ⟨⟨s, rfl, by omega⟩, unhide HL⟩
end Go.Proofs.YtppchebikafmeaaDoor
