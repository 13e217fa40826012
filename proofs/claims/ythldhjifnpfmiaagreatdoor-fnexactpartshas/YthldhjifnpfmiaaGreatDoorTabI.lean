/- Whether a table has a store. -/
import Derived.Test.YthldhjifnpfmiaaGreatDoorTabG
namespace Go.Proofs.YthldhjifnpfmiaaGreatDoor
open Go.RowKit
set_option linter.unusedSimpArgs false
set_option linter.unusedVariables false

/-- Two structs of three cells; below all is as it was. -/
@[reducible] def J6 (w0 : World) (a q : Nat) (x y z x1 y1 z1 : Value) (u : World) : Prop := u.cell? ⟨a, 0, none⟩ = some x ∧ u.cell? ⟨a, 1, none⟩ = some y ∧ u.cell? ⟨a, 2, none⟩ = some z ∧ u.cell? ⟨q, 0, none⟩ = some x1 ∧ u.cell? ⟨q, 1, none⟩ = some y1 ∧ u.cell? ⟨q, 2, none⟩ = some z1 ∧ Hid (B2 w0 a q x y z x1 y1 z1 u)
theorem J6.of {w0 u : World} {a q : Nat} {x y z x1 y1 z1 : Value} (h : B2 w0 a q x y z x1 y1 z1 u) : J6 w0 a q x y z x1 y1 z1 u := ⟨h.1.1, h.1.2.1, h.1.2.2.1, h.2.1.1, h.2.1.2.1, h.2.1.2.2.1, h⟩
theorem J6.call {w0 u v : World} {a q : Nat} {x y z x1 y1 z1 : Value} (k : J6 w0 a q x y z x1 y1 z1 u) (hb : Below u.heap.size u v) : J6 w0 a q x y z x1 y1 z1 v := J6.of ((unhide k.2.2.2.2.2.2).call hb)
theorem J6.bel {w0 u : World} {a q : Nat} {x y z x1 y1 z1 : Value} (k : J6 w0 a q x y z x1 y1 z1 u) : Below w0.heap.size w0 u := (unhide k.2.2.2.2.2.2).2.2
/-- And one more in a row. -/
@[reducible] def J9 (w0 : World) (a q b p : Nat) (x y z x1 y1 z1 x2 y2 z2 : Value) (u : World) : Prop := u.cell? ⟨a, 0, none⟩ = some x ∧ u.cell? ⟨a, 1, none⟩ = some y ∧ u.cell? ⟨a, 2, none⟩ = some z ∧ u.cell? ⟨q, 0, none⟩ = some x1 ∧ u.cell? ⟨q, 1, none⟩ = some y1 ∧ u.cell? ⟨q, 2, none⟩ = some z1 ∧ u.cell? ⟨b, p, none⟩ = some x2 ∧ u.cell? ⟨b, p + 1, none⟩ = some y2 ∧ u.cell? ⟨b, p + 2, none⟩ = some z2 ∧ Hid (B2 w0 a q x y z x1 y1 z1 u)
theorem J9.of {w0 u : World} {a q b p : Nat} {x y z x1 y1 z1 x2 y2 z2 : Value} (h : B2 w0 a q x y z x1 y1 z1 u) (h1 : u.cell? ⟨b, p, none⟩ = some x2) (h2 : u.cell? ⟨b, p + 1, none⟩ = some y2) (h3 : u.cell? ⟨b, p + 2, none⟩ = some z2) : J9 w0 a q b p x y z x1 y1 z1 x2 y2 z2 u := ⟨h.1.1, h.1.2.1, h.1.2.2.1, h.2.1.1, h.2.1.2.1, h.2.1.2.2.1, h1, h2, h3, h⟩
theorem J9.call {w0 u v : World} {a q b p : Nat} {x y z x1 y1 z1 x2 y2 z2 : Value} (k : J9 w0 a q b p x y z x1 y1 z1 x2 y2 z2 u) (hb : Below u.heap.size u v) : J9 w0 a q b p x y z x1 y1 z1 x2 y2 z2 v :=
  J9.of ((unhide k.2.2.2.2.2.2.2.2.2).call hb) ((hb.cell (World.block_lt_of_cell? u _ k.2.2.2.2.2.2.1)).trans k.2.2.2.2.2.2.1) ((hb.cell (World.block_lt_of_cell? u _ k.2.2.2.2.2.2.2.1)).trans k.2.2.2.2.2.2.2.1) ((hb.cell (World.block_lt_of_cell? u _ k.2.2.2.2.2.2.2.2.1)).trans k.2.2.2.2.2.2.2.2.1)
theorem J9.bel {w0 u : World} {a q b p : Nat} {x y z x1 y1 z1 x2 y2 z2 : Value} (k : J9 w0 a q b p x y z x1 y1 z1 x2 y2 z2 u) : Below w0.heap.size w0 u := (unhide k.2.2.2.2.2.2.2.2.2).2.2
def leafE (es : List ER) (bs : List Bool) : ER := es.getD (leafN bs).toNat (false, [], [])
def hasT (es : List ER) (is : List Int) (bs : List Bool) (js : List (List Int)) : Bool := (leafE es bs).1 && hasIn (leafE es bs).2.1 (leafE es bs).2.2 is js
def thasB (vs fs : List ByteArray) (rs : List (ByteArray × Int)) (es : List ER) (is : List Int) (bs : List Bool) (js : List (List Int)) : Bool := tabB vs fs rs es && (storeB vs fs rs is bs js && hasT es is bs js)
theorem sto_flags {vs fs : List ByteArray} {rs : List (ByteArray × Int)} {is : List Int} {bs : List Bool} {js : List (List Int)} (h : storeB vs fs rs is bs js = true) : bs.length = fs.length ∧ fs.length ≤ 3 := by
  unfold storeB at h
  rw [Bool.and_eq_true] at h
  exact ⟨(of_decide_eq_true h.2).2.1, (declB_len h.1).2.1⟩
set_option maxRecDepth 20000 in
set_option maxHeartbeats 1000000 in
theorem iTableHas_c (a1 a2 a3 c1 c2 c3 : Nat) (vs fs : List ByteArray) (rs : List (ByteArray × Int)) (b d : Nat) (es : List ER) (g1 g2 g3 f1 f2 f3 : Nat) (is : List Int) (bs : List Bool) (js : List (List Int)) (w : World) (hw : KW w) (hv : Strs w (some ⟨a1, 0, none⟩) vs) (hf : Strs w (some ⟨a2, 0, none⟩) fs) (hr : Arrs w (some ⟨a3, 0, none⟩) rs)
    (hz : ∀ x ∈ namesOf vs fs rs, x.size ≤ 1048576) (he : OwnE w b es) (hi : Ints w (some ⟨g1, 0, none⟩) is) (hb : Bools w (some ⟨g2, 0, none⟩) bs) (hj : Mats w (some ⟨g3, 0, none⟩) js) :
    Calls Tryz.prog 41 #[.agg #[.slice (some ⟨a1, 0, none⟩) vs.length c1, .slice (some ⟨a2, 0, none⟩) fs.length c2, .slice (some ⟨a3, 0, none⟩) rs.length c3], .slice (some ⟨b, 0, none⟩) es.length d, .agg #[.slice (some ⟨g1, 0, none⟩) is.length f1, .slice (some ⟨g2, 0, none⟩) bs.length f2, .slice (some ⟨g3, 0, none⟩) js.length f3]] w fun e w' => e = .returned (.bool (thasB vs fs rs es is bs js)) ∧ Below w.heap.size w w' := by
  have HW := hide hw
  have HV := hide hv
  have HF := hide hf
  have HR := hide hr
  have HZ := hide hz
  have HE := hide he
  have HI := hide hi
  have HBo := hide hb
  have HJ := hide hj
  have HS := hide (B2.new w (.slice (some ⟨a1, 0, none⟩) vs.length c1) (.slice (some ⟨a2, 0, none⟩) fs.length c2) (.slice (some ⟨a3, 0, none⟩) rs.length c3) (.slice (some ⟨g1, 0, none⟩) is.length f1) (.slice (some ⟨g2, 0, none⟩) bs.length f2) (.slice (some ⟨g3, 0, none⟩) js.length f3) 40 46)
  obtain ⟨r, hr'⟩ : ∃ r, r = thasB vs fs rs es is bs js := ⟨_, rfl⟩
  rw [← hr']
  have HRR := hide hr'
  clear hv hf hr hz he hi hb hj hr' hw
  cases t1 : tabB vs fs rs es
  · have T1 := hide t1
    have E : Hid (r = false) := by unfold Hid; rw [unhide HRR, thasB, unhide T1]; rfl
    clear t1
    go_enter Tryz.func41, Tryz.ntmps41
    go_wp2_with fail
    generalize (w.alloc (Obj.cells #[.slice (some ⟨a1, 0, none⟩) vs.length c1, .slice (some ⟨a2, 0, none⟩) fs.length c2, .slice (some ⟨a3, 0, none⟩) rs.length c3] 40)).alloc (Obj.cells #[.slice (some ⟨g1, 0, none⟩) is.length f1, .slice (some ⟨g2, 0, none⟩) bs.length f2, .slice (some ⟨g3, 0, none⟩) js.length f3] 46) = u at HS ⊢
    refine wp_region_held_drew (S := (J6 w w.heap.size (w.heap.size + 1) (.slice (some ⟨a1, 0, none⟩) vs.length c1) (.slice (some ⟨a2, 0, none⟩) fs.length c2) (.slice (some ⟨a3, 0, none⟩) rs.length c3) (.slice (some ⟨g1, 0, none⟩) is.length f1) (.slice (some ⟨g2, 0, none⟩) bs.length f2) (.slice (some ⟨g3, 0, none⟩) js.length f3))) (by kernel_rfl) (J6.of ((unhide HS).call (Below.refl _ _).drew)) (fun hHeld => ?_)
    refine wpAnyH_take (i := 0) (oi := { dst := some 7, op := Op.load 40 (Operand.tmp 3), type := 40, pos := "l08_trees.go:47", after := #[], guard := none }) (v := ?_) rfl (by kernel_rfl) (by kernel_rfl) (by kernel_rfl) (fun _ _ _ h => h) (Or.inl ⟨by rfl, ?_⟩) (by assumption) ?_
    rotate_left
    · (intro w hSw; (try dsimp only at hSw); go_simp; try with_reducible rfl)
    try simp only [Act.put, List.setIfInBounds_toArray, List.set_cons_zero, List.set_cons_succ]
    refine wpAnyH_take (i := 1) (oi := { dst := some 8, op := Op.move (Operand.tmp 1), type := 70, pos := "l08_trees.go:47", after := #[], guard := none }) (v := ?_) rfl (by kernel_rfl) (by kernel_rfl) (by kernel_rfl) (fun _ _ _ h => h) (Or.inl ⟨by rfl, ?_⟩) (by assumption) ?_
    rotate_left
    · (intro w hSw; (try dsimp only at hSw); go_simp; try with_reducible rfl)
    try simp only [Act.put, List.setIfInBounds_toArray, List.set_cons_zero, List.set_cons_succ]
    refine wpAnyH_ready (rs := [2]) (by kernel_rfl) (by simp) ?_
    refine AllReadyH.cons (i := 2) (o := { dst := some 9, op := Op.call { callee := Callee.value (Operand.func 61), args := #[Operand.tmp 7, Operand.tmp 8], argTypes := #[40, 70] }, type := 4, pos := "l08_trees.go:47", after := #[{ on := 0, ground := Ground.data }, { on := 1, ground := Ground.data }], guard := none }) rfl (fun K hK => ?_) AllReadyH.nil
    go_simp
    refine (iTableOk_c a1 a2 a3 c1 c2 c3 vs fs rs b d es _ ((unhide HW).call hHeld.bel) ((unhide HV).call hHeld.bel) ((unhide HF).call hHeld.bel) ((unhide HR).call hHeld.bel) (unhide HZ) ((unhide HE).call hHeld.bel)).mono ?_
    rintro e w3 ⟨rfl, hb⟩
    rw [unhide T1]
    refine hK.out _ _ (J6.call hHeld hb) (fun hHeld => ?_)
    clear hK K
    try simp only [Act.put, List.setIfInBounds_toArray, List.set_cons_zero, List.set_cons_succ]
    refine wpAnyH_take (i := 3) (oi := { dst := some 10, op := Op.move (Operand.tmp 9), type := 4, pos := "l08_trees.go:47", after := #[{ on := 2, ground := Ground.data }, { on := 2, ground := Ground.chain }], guard := none }) (v := ?_) rfl (by kernel_rfl) (by kernel_rfl) (by kernel_rfl) (fun _ _ _ h => h) (Or.inl ⟨by rfl, ?_⟩) (by assumption) ?_
    rotate_left
    · (intro w hSw; (try dsimp only at hSw); go_simp; try with_reducible rfl)
    try simp only [Act.put, List.setIfInBounds_toArray, List.set_cons_zero, List.set_cons_succ]
    refine wpAnyH_take (i := 4) (oi := { dst := some 11, op := Op.load 40 (Operand.tmp 3), type := 40, pos := "l08_trees.go:47", after := #[{ on := 3, ground := Ground.guard }], guard := some (3, true) }) (v := undef) rfl (by kernel_rfl) (by kernel_rfl) (by kernel_rfl) (fun _ _ _ h => h) (Or.inr ⟨by rfl, rfl⟩) (by assumption) ?_
    try simp only [Act.put, List.setIfInBounds_toArray, List.set_cons_zero, List.set_cons_succ]
    refine wpAnyH_take (i := 5) (oi := { dst := some 12, op := Op.load 46 (Operand.tmp 5), type := 46, pos := "l08_trees.go:47", after := #[{ on := 3, ground := Ground.guard }], guard := some (3, true) }) (v := undef) rfl (by kernel_rfl) (by kernel_rfl) (by kernel_rfl) (fun _ _ _ h => h) (Or.inr ⟨by rfl, rfl⟩) (by assumption) ?_
    try simp only [Act.put, List.setIfInBounds_toArray, List.set_cons_zero, List.set_cons_succ]
    refine wpAnyH_take (i := 6) (oi := { dst := some 13, op := Op.call { callee := Callee.value (Operand.func 65), args := #[Operand.tmp 11, Operand.tmp 12], argTypes := #[40, 46] }, type := 4, pos := "l08_trees.go:47", after := #[{ on := 4, ground := Ground.data }, { on := 5, ground := Ground.data }, { on := 3, ground := Ground.chain }, { on := 3, ground := Ground.guard }], guard := some (3, true) }) (v := undef) rfl (by kernel_rfl) (by kernel_rfl) (by kernel_rfl) (fun _ _ _ h => h) (Or.inr ⟨by rfl, rfl⟩) (by assumption) ?_
    try simp only [Act.put, List.setIfInBounds_toArray, List.set_cons_zero, List.set_cons_succ]
    refine wpAnyH_take (i := 7) (oi := { dst := some 14, op := Op.pick (Operand.tmp 10) (Operand.tmp 13) (Operand.const (Value.bool false)), type := 4, pos := "l08_trees.go:47", after := #[{ on := 3, ground := Ground.data }, { on := 6, ground := Ground.data }], guard := none }) (v := ?_) rfl (by kernel_rfl) (by kernel_rfl) (by kernel_rfl) (fun _ _ _ h => h) (Or.inl ⟨by rfl, ?_⟩) (by assumption) ?_
    rotate_left
    · (intro w hSw; (try dsimp only at hSw); go_simp; try with_reducible rfl)
    try simp only [Act.put, List.setIfInBounds_toArray, List.set_cons_zero, List.set_cons_succ]
    refine wpAnyH_take (i := 8) (oi := { dst := some 15, op := Op.move (Operand.tmp 14), type := 4, pos := "l08_trees.go:47", after := #[{ on := 7, ground := Ground.data }, { on := 6, ground := Ground.chain }], guard := none }) (v := ?_) rfl (by kernel_rfl) (by kernel_rfl) (by kernel_rfl) (fun _ _ _ h => h) (Or.inl ⟨by rfl, ?_⟩) (by assumption) ?_
    rotate_left
    · (intro w hSw; (try dsimp only at hSw); go_simp; try with_reducible rfl)
    try simp only [Act.put, List.setIfInBounds_toArray, List.set_cons_zero, List.set_cons_succ]
    refine wpAnyH_take (i := 9) (oi := { dst := some 16, op := Op.load 40 (Operand.tmp 3), type := 40, pos := "l08_trees.go:47", after := #[{ on := 8, ground := Ground.guard }], guard := some (8, true) }) (v := undef) rfl (by kernel_rfl) (by kernel_rfl) (by kernel_rfl) (fun _ _ _ h => h) (Or.inr ⟨by rfl, rfl⟩) (by assumption) ?_
    try simp only [Act.put, List.setIfInBounds_toArray, List.set_cons_zero, List.set_cons_succ]
    refine wpAnyH_take (i := 10) (oi := { dst := some 17, op := Op.move (Operand.tmp 1), type := 70, pos := "l08_trees.go:47", after := #[{ on := 8, ground := Ground.guard }], guard := some (8, true) }) (v := undef) rfl (by kernel_rfl) (by kernel_rfl) (by kernel_rfl) (fun _ _ _ h => h) (Or.inr ⟨by rfl, rfl⟩) (by assumption) ?_
    try simp only [Act.put, List.setIfInBounds_toArray, List.set_cons_zero, List.set_cons_succ]
    refine wpAnyH_take (i := 11) (oi := { dst := some 18, op := Op.load 46 (Operand.tmp 5), type := 46, pos := "l08_trees.go:47", after := #[{ on := 8, ground := Ground.guard }], guard := some (8, true) }) (v := undef) rfl (by kernel_rfl) (by kernel_rfl) (by kernel_rfl) (fun _ _ _ h => h) (Or.inr ⟨by rfl, rfl⟩) (by assumption) ?_
    try simp only [Act.put, List.setIfInBounds_toArray, List.set_cons_zero, List.set_cons_succ]
    refine wpAnyH_take (i := 12) (oi := { dst := some 19, op := Op.call { callee := Callee.value (Operand.func 67), args := #[Operand.tmp 18], argTypes := #[46] }, type := 2, pos := "l08_trees.go:47", after := #[{ on := 11, ground := Ground.data }, { on := 8, ground := Ground.chain }, { on := 8, ground := Ground.guard }], guard := some (8, true) }) (v := undef) rfl (by kernel_rfl) (by kernel_rfl) (by kernel_rfl) (fun _ _ _ h => h) (Or.inr ⟨by rfl, rfl⟩) (by assumption) ?_
    try simp only [Act.put, List.setIfInBounds_toArray, List.set_cons_zero, List.set_cons_succ]
    refine wpAnyH_take (i := 13) (oi := { dst := some 20, op := Op.indexAddr 70 (Operand.tmp 17) (Operand.tmp 19), type := 0, pos := "l08_trees.go:47", after := #[{ on := 10, ground := Ground.data }, { on := 12, ground := Ground.data }, { on := 8, ground := Ground.guard }], guard := some (8, true) }) (v := undef) rfl (by kernel_rfl) (by kernel_rfl) (by kernel_rfl) (fun _ _ _ h => h) (Or.inr ⟨by rfl, rfl⟩) (by assumption) ?_
    try simp only [Act.put, List.setIfInBounds_toArray, List.set_cons_zero, List.set_cons_succ]
    refine wpAnyH_take (i := 14) (oi := { dst := some 21, op := Op.load 69 (Operand.tmp 20), type := 69, pos := "l08_trees.go:47", after := #[{ on := 13, ground := Ground.data }, { on := 8, ground := Ground.guard }], guard := some (8, true) }) (v := undef) rfl (by kernel_rfl) (by kernel_rfl) (by kernel_rfl) (fun _ _ _ h => h) (Or.inr ⟨by rfl, rfl⟩) (by assumption) ?_
    try simp only [Act.put, List.setIfInBounds_toArray, List.set_cons_zero, List.set_cons_succ]
    refine wpAnyH_take (i := 15) (oi := { dst := some 22, op := Op.load 46 (Operand.tmp 5), type := 46, pos := "l08_trees.go:47", after := #[{ on := 8, ground := Ground.guard }], guard := some (8, true) }) (v := undef) rfl (by kernel_rfl) (by kernel_rfl) (by kernel_rfl) (fun _ _ _ h => h) (Or.inr ⟨by rfl, rfl⟩) (by assumption) ?_
    try simp only [Act.put, List.setIfInBounds_toArray, List.set_cons_zero, List.set_cons_succ]
    refine wpAnyH_take (i := 16) (oi := { dst := some 23, op := Op.call { callee := Callee.value (Operand.func 66), args := #[Operand.tmp 16, Operand.tmp 21, Operand.tmp 22], argTypes := #[40, 69, 46] }, type := 4, pos := "l08_trees.go:47", after := #[{ on := 9, ground := Ground.data }, { on := 14, ground := Ground.data }, { on := 15, ground := Ground.data }, { on := 12, ground := Ground.chain }, { on := 8, ground := Ground.guard }], guard := some (8, true) }) (v := undef) rfl (by kernel_rfl) (by kernel_rfl) (by kernel_rfl) (fun _ _ _ h => h) (Or.inr ⟨by rfl, rfl⟩) (by assumption) ?_
    try simp only [Act.put, List.setIfInBounds_toArray, List.set_cons_zero, List.set_cons_succ]
    refine wpAnyH_take (i := 17) (oi := { dst := some 24, op := Op.pick (Operand.tmp 15) (Operand.tmp 23) (Operand.const (Value.bool false)), type := 4, pos := "l08_trees.go:47", after := #[{ on := 8, ground := Ground.data }, { on := 16, ground := Ground.data }], guard := none }) (v := ?_) rfl (by kernel_rfl) (by kernel_rfl) (by kernel_rfl) (fun _ _ _ h => h) (Or.inl ⟨by rfl, ?_⟩) (by assumption) ?_
    rotate_left
    · (intro w hSw; (try dsimp only at hSw); go_simp; try with_reducible rfl)
    try simp only [Act.put, List.setIfInBounds_toArray, List.set_cons_zero, List.set_cons_succ]
    refine wpAnyH_take (i := 18) (oi := { dst := some 6, op := Op.assign (Operand.tmp 24), type := 4, pos := "l08_trees.go:47", after := #[{ on := 17, ground := Ground.data }, { on := 16, ground := Ground.chain }, { on := 0, ground := Ground.phase }, { on := 1, ground := Ground.phase }, { on := 2, ground := Ground.phase }, { on := 3, ground := Ground.phase }, { on := 4, ground := Ground.phase }, { on := 5, ground := Ground.phase }, { on := 6, ground := Ground.phase }, { on := 7, ground := Ground.phase }, { on := 8, ground := Ground.phase }, { on := 9, ground := Ground.phase }, { on := 10, ground := Ground.phase }, { on := 11, ground := Ground.phase }, { on := 12, ground := Ground.phase }, { on := 13, ground := Ground.phase }, { on := 14, ground := Ground.phase }, { on := 15, ground := Ground.phase }, { on := 16, ground := Ground.phase }, { on := 17, ground := Ground.phase }], guard := none }) (v := ?_) rfl (by kernel_rfl) (by kernel_rfl) (by kernel_rfl) (fun _ _ _ h => h) (Or.inl ⟨by rfl, ?_⟩) (by assumption) ?_
    rotate_left
    · (intro w hSw; (try dsimp only at hSw); go_simp; try with_reducible rfl)
    try simp only [Act.put, List.setIfInBounds_toArray, List.set_cons_zero, List.set_cons_succ]
    refine wpAnyH_done (by kernel_rfl) ?_ _
    go_wp2
    go_ret
    exact ⟨by rw [unhide E]; rfl, hHeld.bel⟩
  · have T1 := hide t1
    clear t1
    cases t2 : storeB vs fs rs is bs js
    · have T2 := hide t2
      have E : Hid (r = false) := by unfold Hid; rw [unhide HRR, thasB, unhide T1, unhide T2]; rfl
      clear t2
      go_enter Tryz.func41, Tryz.ntmps41
      go_wp2_with fail
      generalize (w.alloc (Obj.cells #[.slice (some ⟨a1, 0, none⟩) vs.length c1, .slice (some ⟨a2, 0, none⟩) fs.length c2, .slice (some ⟨a3, 0, none⟩) rs.length c3] 40)).alloc (Obj.cells #[.slice (some ⟨g1, 0, none⟩) is.length f1, .slice (some ⟨g2, 0, none⟩) bs.length f2, .slice (some ⟨g3, 0, none⟩) js.length f3] 46) = u at HS ⊢
      refine wp_region_held_drew (S := (J6 w w.heap.size (w.heap.size + 1) (.slice (some ⟨a1, 0, none⟩) vs.length c1) (.slice (some ⟨a2, 0, none⟩) fs.length c2) (.slice (some ⟨a3, 0, none⟩) rs.length c3) (.slice (some ⟨g1, 0, none⟩) is.length f1) (.slice (some ⟨g2, 0, none⟩) bs.length f2) (.slice (some ⟨g3, 0, none⟩) js.length f3))) (by kernel_rfl) (J6.of ((unhide HS).call (Below.refl _ _).drew)) (fun hHeld => ?_)
      refine wpAnyH_take (i := 0) (oi := { dst := some 7, op := Op.load 40 (Operand.tmp 3), type := 40, pos := "l08_trees.go:47", after := #[], guard := none }) (v := ?_) rfl (by kernel_rfl) (by kernel_rfl) (by kernel_rfl) (fun _ _ _ h => h) (Or.inl ⟨by rfl, ?_⟩) (by assumption) ?_
      rotate_left
      · (intro w hSw; (try dsimp only at hSw); go_simp; try with_reducible rfl)
      try simp only [Act.put, List.setIfInBounds_toArray, List.set_cons_zero, List.set_cons_succ]
      refine wpAnyH_take (i := 1) (oi := { dst := some 8, op := Op.move (Operand.tmp 1), type := 70, pos := "l08_trees.go:47", after := #[], guard := none }) (v := ?_) rfl (by kernel_rfl) (by kernel_rfl) (by kernel_rfl) (fun _ _ _ h => h) (Or.inl ⟨by rfl, ?_⟩) (by assumption) ?_
      rotate_left
      · (intro w hSw; (try dsimp only at hSw); go_simp; try with_reducible rfl)
      try simp only [Act.put, List.setIfInBounds_toArray, List.set_cons_zero, List.set_cons_succ]
      refine wpAnyH_ready (rs := [2]) (by kernel_rfl) (by simp) ?_
      refine AllReadyH.cons (i := 2) (o := { dst := some 9, op := Op.call { callee := Callee.value (Operand.func 61), args := #[Operand.tmp 7, Operand.tmp 8], argTypes := #[40, 70] }, type := 4, pos := "l08_trees.go:47", after := #[{ on := 0, ground := Ground.data }, { on := 1, ground := Ground.data }], guard := none }) rfl (fun K hK => ?_) AllReadyH.nil
      go_simp
      refine (iTableOk_c a1 a2 a3 c1 c2 c3 vs fs rs b d es _ ((unhide HW).call hHeld.bel) ((unhide HV).call hHeld.bel) ((unhide HF).call hHeld.bel) ((unhide HR).call hHeld.bel) (unhide HZ) ((unhide HE).call hHeld.bel)).mono ?_
      rintro e w3 ⟨rfl, hb⟩
      rw [unhide T1]
      refine hK.out _ _ (J6.call hHeld hb) (fun hHeld => ?_)
      clear hK K
      try simp only [Act.put, List.setIfInBounds_toArray, List.set_cons_zero, List.set_cons_succ]
      refine wpAnyH_take (i := 3) (oi := { dst := some 10, op := Op.move (Operand.tmp 9), type := 4, pos := "l08_trees.go:47", after := #[{ on := 2, ground := Ground.data }, { on := 2, ground := Ground.chain }], guard := none }) (v := ?_) rfl (by kernel_rfl) (by kernel_rfl) (by kernel_rfl) (fun _ _ _ h => h) (Or.inl ⟨by rfl, ?_⟩) (by assumption) ?_
      rotate_left
      · (intro w hSw; (try dsimp only at hSw); go_simp; try with_reducible rfl)
      try simp only [Act.put, List.setIfInBounds_toArray, List.set_cons_zero, List.set_cons_succ]
      refine wpAnyH_take (i := 4) (oi := { dst := some 11, op := Op.load 40 (Operand.tmp 3), type := 40, pos := "l08_trees.go:47", after := #[{ on := 3, ground := Ground.guard }], guard := some (3, true) }) (v := ?_) rfl (by kernel_rfl) (by kernel_rfl) (by kernel_rfl) (fun _ _ _ h => h) (Or.inl ⟨by rfl, ?_⟩) (by assumption) ?_
      rotate_left
      · (intro w hSw; (try dsimp only at hSw); go_simp; try with_reducible rfl)
      try simp only [Act.put, List.setIfInBounds_toArray, List.set_cons_zero, List.set_cons_succ]
      refine wpAnyH_take (i := 5) (oi := { dst := some 12, op := Op.load 46 (Operand.tmp 5), type := 46, pos := "l08_trees.go:47", after := #[{ on := 3, ground := Ground.guard }], guard := some (3, true) }) (v := ?_) rfl (by kernel_rfl) (by kernel_rfl) (by kernel_rfl) (fun _ _ _ h => h) (Or.inl ⟨by rfl, ?_⟩) (by assumption) ?_
      rotate_left
      · (intro w hSw; (try dsimp only at hSw); go_simp; try with_reducible rfl)
      try simp only [Act.put, List.setIfInBounds_toArray, List.set_cons_zero, List.set_cons_succ]
      refine wpAnyH_ready (rs := [6]) (by kernel_rfl) (by simp) ?_
      refine AllReadyH.cons (i := 6) (o := { dst := some 13, op := Op.call { callee := Callee.value (Operand.func 65), args := #[Operand.tmp 11, Operand.tmp 12], argTypes := #[40, 46] }, type := 4, pos := "l08_trees.go:47", after := #[{ on := 4, ground := Ground.data }, { on := 5, ground := Ground.data }, { on := 3, ground := Ground.chain }, { on := 3, ground := Ground.guard }], guard := some (3, true) }) rfl (fun K hK => ?_) AllReadyH.nil
      go_simp
      refine (iStoreOk_c a1 a2 a3 c1 c2 c3 vs fs rs g1 g2 g3 f1 f2 f3 is bs js _ ((unhide HW).call hHeld.bel) ((unhide HV).call hHeld.bel) ((unhide HF).call hHeld.bel) ((unhide HR).call hHeld.bel) (unhide HZ) ((unhide HJ).call hHeld.bel)).mono ?_
      rintro e w3 ⟨rfl, hb⟩
      rw [unhide T2]
      refine hK.out _ _ (J6.call hHeld hb) (fun hHeld => ?_)
      clear hK K
      try simp only [Act.put, List.setIfInBounds_toArray, List.set_cons_zero, List.set_cons_succ]
      refine wpAnyH_take (i := 7) (oi := { dst := some 14, op := Op.pick (Operand.tmp 10) (Operand.tmp 13) (Operand.const (Value.bool false)), type := 4, pos := "l08_trees.go:47", after := #[{ on := 3, ground := Ground.data }, { on := 6, ground := Ground.data }], guard := none }) (v := ?_) rfl (by kernel_rfl) (by kernel_rfl) (by kernel_rfl) (fun _ _ _ h => h) (Or.inl ⟨by rfl, ?_⟩) (by assumption) ?_
      rotate_left
      · (intro w hSw; (try dsimp only at hSw); go_simp; try with_reducible rfl)
      try simp only [Act.put, List.setIfInBounds_toArray, List.set_cons_zero, List.set_cons_succ]
      refine wpAnyH_take (i := 8) (oi := { dst := some 15, op := Op.move (Operand.tmp 14), type := 4, pos := "l08_trees.go:47", after := #[{ on := 7, ground := Ground.data }, { on := 6, ground := Ground.chain }], guard := none }) (v := ?_) rfl (by kernel_rfl) (by kernel_rfl) (by kernel_rfl) (fun _ _ _ h => h) (Or.inl ⟨by rfl, ?_⟩) (by assumption) ?_
      rotate_left
      · (intro w hSw; (try dsimp only at hSw); go_simp; try with_reducible rfl)
      try simp only [Act.put, List.setIfInBounds_toArray, List.set_cons_zero, List.set_cons_succ]
      refine wpAnyH_take (i := 9) (oi := { dst := some 16, op := Op.load 40 (Operand.tmp 3), type := 40, pos := "l08_trees.go:47", after := #[{ on := 8, ground := Ground.guard }], guard := some (8, true) }) (v := undef) rfl (by kernel_rfl) (by kernel_rfl) (by kernel_rfl) (fun _ _ _ h => h) (Or.inr ⟨by rfl, rfl⟩) (by assumption) ?_
      try simp only [Act.put, List.setIfInBounds_toArray, List.set_cons_zero, List.set_cons_succ]
      refine wpAnyH_take (i := 10) (oi := { dst := some 17, op := Op.move (Operand.tmp 1), type := 70, pos := "l08_trees.go:47", after := #[{ on := 8, ground := Ground.guard }], guard := some (8, true) }) (v := undef) rfl (by kernel_rfl) (by kernel_rfl) (by kernel_rfl) (fun _ _ _ h => h) (Or.inr ⟨by rfl, rfl⟩) (by assumption) ?_
      try simp only [Act.put, List.setIfInBounds_toArray, List.set_cons_zero, List.set_cons_succ]
      refine wpAnyH_take (i := 11) (oi := { dst := some 18, op := Op.load 46 (Operand.tmp 5), type := 46, pos := "l08_trees.go:47", after := #[{ on := 8, ground := Ground.guard }], guard := some (8, true) }) (v := undef) rfl (by kernel_rfl) (by kernel_rfl) (by kernel_rfl) (fun _ _ _ h => h) (Or.inr ⟨by rfl, rfl⟩) (by assumption) ?_
      try simp only [Act.put, List.setIfInBounds_toArray, List.set_cons_zero, List.set_cons_succ]
      refine wpAnyH_take (i := 12) (oi := { dst := some 19, op := Op.call { callee := Callee.value (Operand.func 67), args := #[Operand.tmp 18], argTypes := #[46] }, type := 2, pos := "l08_trees.go:47", after := #[{ on := 11, ground := Ground.data }, { on := 8, ground := Ground.chain }, { on := 8, ground := Ground.guard }], guard := some (8, true) }) (v := undef) rfl (by kernel_rfl) (by kernel_rfl) (by kernel_rfl) (fun _ _ _ h => h) (Or.inr ⟨by rfl, rfl⟩) (by assumption) ?_
      try simp only [Act.put, List.setIfInBounds_toArray, List.set_cons_zero, List.set_cons_succ]
      refine wpAnyH_take (i := 13) (oi := { dst := some 20, op := Op.indexAddr 70 (Operand.tmp 17) (Operand.tmp 19), type := 0, pos := "l08_trees.go:47", after := #[{ on := 10, ground := Ground.data }, { on := 12, ground := Ground.data }, { on := 8, ground := Ground.guard }], guard := some (8, true) }) (v := undef) rfl (by kernel_rfl) (by kernel_rfl) (by kernel_rfl) (fun _ _ _ h => h) (Or.inr ⟨by rfl, rfl⟩) (by assumption) ?_
      try simp only [Act.put, List.setIfInBounds_toArray, List.set_cons_zero, List.set_cons_succ]
      refine wpAnyH_take (i := 14) (oi := { dst := some 21, op := Op.load 69 (Operand.tmp 20), type := 69, pos := "l08_trees.go:47", after := #[{ on := 13, ground := Ground.data }, { on := 8, ground := Ground.guard }], guard := some (8, true) }) (v := undef) rfl (by kernel_rfl) (by kernel_rfl) (by kernel_rfl) (fun _ _ _ h => h) (Or.inr ⟨by rfl, rfl⟩) (by assumption) ?_
      try simp only [Act.put, List.setIfInBounds_toArray, List.set_cons_zero, List.set_cons_succ]
      refine wpAnyH_take (i := 15) (oi := { dst := some 22, op := Op.load 46 (Operand.tmp 5), type := 46, pos := "l08_trees.go:47", after := #[{ on := 8, ground := Ground.guard }], guard := some (8, true) }) (v := undef) rfl (by kernel_rfl) (by kernel_rfl) (by kernel_rfl) (fun _ _ _ h => h) (Or.inr ⟨by rfl, rfl⟩) (by assumption) ?_
      try simp only [Act.put, List.setIfInBounds_toArray, List.set_cons_zero, List.set_cons_succ]
      refine wpAnyH_take (i := 16) (oi := { dst := some 23, op := Op.call { callee := Callee.value (Operand.func 66), args := #[Operand.tmp 16, Operand.tmp 21, Operand.tmp 22], argTypes := #[40, 69, 46] }, type := 4, pos := "l08_trees.go:47", after := #[{ on := 9, ground := Ground.data }, { on := 14, ground := Ground.data }, { on := 15, ground := Ground.data }, { on := 12, ground := Ground.chain }, { on := 8, ground := Ground.guard }], guard := some (8, true) }) (v := undef) rfl (by kernel_rfl) (by kernel_rfl) (by kernel_rfl) (fun _ _ _ h => h) (Or.inr ⟨by rfl, rfl⟩) (by assumption) ?_
      try simp only [Act.put, List.setIfInBounds_toArray, List.set_cons_zero, List.set_cons_succ]
      refine wpAnyH_take (i := 17) (oi := { dst := some 24, op := Op.pick (Operand.tmp 15) (Operand.tmp 23) (Operand.const (Value.bool false)), type := 4, pos := "l08_trees.go:47", after := #[{ on := 8, ground := Ground.data }, { on := 16, ground := Ground.data }], guard := none }) (v := ?_) rfl (by kernel_rfl) (by kernel_rfl) (by kernel_rfl) (fun _ _ _ h => h) (Or.inl ⟨by rfl, ?_⟩) (by assumption) ?_
      rotate_left
      · (intro w hSw; (try dsimp only at hSw); go_simp; try with_reducible rfl)
      try simp only [Act.put, List.setIfInBounds_toArray, List.set_cons_zero, List.set_cons_succ]
      refine wpAnyH_take (i := 18) (oi := { dst := some 6, op := Op.assign (Operand.tmp 24), type := 4, pos := "l08_trees.go:47", after := #[{ on := 17, ground := Ground.data }, { on := 16, ground := Ground.chain }, { on := 0, ground := Ground.phase }, { on := 1, ground := Ground.phase }, { on := 2, ground := Ground.phase }, { on := 3, ground := Ground.phase }, { on := 4, ground := Ground.phase }, { on := 5, ground := Ground.phase }, { on := 6, ground := Ground.phase }, { on := 7, ground := Ground.phase }, { on := 8, ground := Ground.phase }, { on := 9, ground := Ground.phase }, { on := 10, ground := Ground.phase }, { on := 11, ground := Ground.phase }, { on := 12, ground := Ground.phase }, { on := 13, ground := Ground.phase }, { on := 14, ground := Ground.phase }, { on := 15, ground := Ground.phase }, { on := 16, ground := Ground.phase }, { on := 17, ground := Ground.phase }], guard := none }) (v := ?_) rfl (by kernel_rfl) (by kernel_rfl) (by kernel_rfl) (fun _ _ _ h => h) (Or.inl ⟨by rfl, ?_⟩) (by assumption) ?_
      rotate_left
      · (intro w hSw; (try dsimp only at hSw); go_simp; try with_reducible rfl)
      try simp only [Act.put, List.setIfInBounds_toArray, List.set_cons_zero, List.set_cons_succ]
      refine wpAnyH_done (by kernel_rfl) ?_ _
      go_wp2
      go_ret
      exact ⟨by rw [unhide E]; rfl, hHeld.bel⟩
    · have T2 := hide t2
      clear t2
      have H3 : Hid (bs.length ≤ 3) := by unfold Hid; have := sto_flags (unhide T2); omega
      have hlf := leafN_lt bs
      have hlen : ((2 : Int) ^ bs.length) = (es.length : Int) := by rw [tab_len (unhide T1), (sto_flags (unhide T2)).1]; simp
      obtain ⟨N, hN⟩ : ∃ N : Nat, leafN bs = (N : Int) := ⟨(leafN bs).toNat, by omega⟩
      have hNl : N < es.length := by rw [hN, hlen] at hlf; omega
      have HN := hide hN
      have hNl' : (N : Int) < (es.length : Int) := by omega
      have hel := (unhide HE).1
      have hle : leafE es bs = es[N] := by
        unfold leafE
        rw [hN, Int.toNat_natCast, List.getD_eq_getElem?_getD, List.getElem?_eq_getElem hNl, Option.getD_some]
      have EV := hide (tab_env (unhide T1) N hNl)
      have ER' : Hid (r = (es[N].1 && hasIn es[N].2.1 es[N].2.2 is js)) := by unfold Hid; rw [unhide HRR, thasB, unhide T1, unhide T2, Bool.true_and, Bool.true_and, hasT, hle]
      have HK2 : Hid (AtE w b N es[N]) := (unhide HE).2.1 N hNl
      clear hlf hlen hN hle
      obtain ⟨e1, e2, _, _, q1, q2, q3, i1, i2⟩ := unhide HK2
      have I1 := hide i1.1
      have I2 := hide i2.1
      have C1 := hide q1
      have C2 := hide q2
      have C3' := hide q3
      clear i1 i2 q1 q2 q3 HK2
      generalize es[N].1 = li at C1 EV ER'
      generalize es[N].2.1 = xs at C2 I1 EV ER'
      generalize es[N].2.2 = ys at C3' I2 EV ER'
      have EL := hide (has_lens (unhide EV) (unhide T2))
      have EQ : Hid (hasD vs fs rs li xs ys is bs js = r) := by unfold Hid; rw [unhide ER']; unfold hasD; rw [unhide EV, unhide T2]; rfl
      have kk := (unhide HS).2.2
      have HS9 := hide (J9.of (unhide HS) ((kk.cell (World.block_lt_of_cell? w _ (unhide C1))).trans (unhide C1)) ((kk.cell (World.block_lt_of_cell? w _ (unhide C2))).trans (unhide C2)) ((kk.cell (World.block_lt_of_cell? w _ (unhide C3'))).trans (unhide C3')))
      clear kk
      go_enter Tryz.func41, Tryz.ntmps41
      go_wp2_with fail
      generalize (w.alloc (Obj.cells #[.slice (some ⟨a1, 0, none⟩) vs.length c1, .slice (some ⟨a2, 0, none⟩) fs.length c2, .slice (some ⟨a3, 0, none⟩) rs.length c3] 40)).alloc (Obj.cells #[.slice (some ⟨g1, 0, none⟩) is.length f1, .slice (some ⟨g2, 0, none⟩) bs.length f2, .slice (some ⟨g3, 0, none⟩) js.length f3] 46) = u at HS HS9 ⊢
      refine wp_region_held_drew (S := (J9 w w.heap.size (w.heap.size + 1) b (N * 3) (.slice (some ⟨a1, 0, none⟩) vs.length c1) (.slice (some ⟨a2, 0, none⟩) fs.length c2) (.slice (some ⟨a3, 0, none⟩) rs.length c3) (.slice (some ⟨g1, 0, none⟩) is.length f1) (.slice (some ⟨g2, 0, none⟩) bs.length f2) (.slice (some ⟨g3, 0, none⟩) js.length f3) (.bool li) (.slice (some ⟨e1, 0, none⟩) xs.length xs.length) (.slice (some ⟨e2, 0, none⟩) ys.length ys.length))) (by kernel_rfl) (J9.call (unhide HS9) (Below.refl _ _).drew) (fun hHeld => ?_)
      refine wpAnyH_take (i := 0) (oi := { dst := some 7, op := Op.load 40 (Operand.tmp 3), type := 40, pos := "l08_trees.go:47", after := #[], guard := none }) (v := ?_) rfl (by kernel_rfl) (by kernel_rfl) (by kernel_rfl) (fun _ _ _ h => h) (Or.inl ⟨by rfl, ?_⟩) (by assumption) ?_
      rotate_left
      · (intro w hSw; (try dsimp only at hSw); go_simp; try with_reducible rfl)
      try simp only [Act.put, List.setIfInBounds_toArray, List.set_cons_zero, List.set_cons_succ]
      refine wpAnyH_take (i := 1) (oi := { dst := some 8, op := Op.move (Operand.tmp 1), type := 70, pos := "l08_trees.go:47", after := #[], guard := none }) (v := ?_) rfl (by kernel_rfl) (by kernel_rfl) (by kernel_rfl) (fun _ _ _ h => h) (Or.inl ⟨by rfl, ?_⟩) (by assumption) ?_
      rotate_left
      · (intro w hSw; (try dsimp only at hSw); go_simp; try with_reducible rfl)
      try simp only [Act.put, List.setIfInBounds_toArray, List.set_cons_zero, List.set_cons_succ]
      refine wpAnyH_ready (rs := [2]) (by kernel_rfl) (by simp) ?_
      refine AllReadyH.cons (i := 2) (o := { dst := some 9, op := Op.call { callee := Callee.value (Operand.func 61), args := #[Operand.tmp 7, Operand.tmp 8], argTypes := #[40, 70] }, type := 4, pos := "l08_trees.go:47", after := #[{ on := 0, ground := Ground.data }, { on := 1, ground := Ground.data }], guard := none }) rfl (fun K hK => ?_) AllReadyH.nil
      go_simp
      refine (iTableOk_c a1 a2 a3 c1 c2 c3 vs fs rs b d es _ ((unhide HW).call hHeld.bel) ((unhide HV).call hHeld.bel) ((unhide HF).call hHeld.bel) ((unhide HR).call hHeld.bel) (unhide HZ) ((unhide HE).call hHeld.bel)).mono ?_
      rintro e w3 ⟨rfl, hb⟩
      rw [unhide T1]
      refine hK.out _ _ (J9.call hHeld hb) (fun hHeld => ?_)
      clear hK K
      try simp only [Act.put, List.setIfInBounds_toArray, List.set_cons_zero, List.set_cons_succ]
      refine wpAnyH_take (i := 3) (oi := { dst := some 10, op := Op.move (Operand.tmp 9), type := 4, pos := "l08_trees.go:47", after := #[{ on := 2, ground := Ground.data }, { on := 2, ground := Ground.chain }], guard := none }) (v := ?_) rfl (by kernel_rfl) (by kernel_rfl) (by kernel_rfl) (fun _ _ _ h => h) (Or.inl ⟨by rfl, ?_⟩) (by assumption) ?_
      rotate_left
      · (intro w hSw; (try dsimp only at hSw); go_simp; try with_reducible rfl)
      try simp only [Act.put, List.setIfInBounds_toArray, List.set_cons_zero, List.set_cons_succ]
      refine wpAnyH_take (i := 4) (oi := { dst := some 11, op := Op.load 40 (Operand.tmp 3), type := 40, pos := "l08_trees.go:47", after := #[{ on := 3, ground := Ground.guard }], guard := some (3, true) }) (v := ?_) rfl (by kernel_rfl) (by kernel_rfl) (by kernel_rfl) (fun _ _ _ h => h) (Or.inl ⟨by rfl, ?_⟩) (by assumption) ?_
      rotate_left
      · (intro w hSw; (try dsimp only at hSw); go_simp; try with_reducible rfl)
      try simp only [Act.put, List.setIfInBounds_toArray, List.set_cons_zero, List.set_cons_succ]
      refine wpAnyH_take (i := 5) (oi := { dst := some 12, op := Op.load 46 (Operand.tmp 5), type := 46, pos := "l08_trees.go:47", after := #[{ on := 3, ground := Ground.guard }], guard := some (3, true) }) (v := ?_) rfl (by kernel_rfl) (by kernel_rfl) (by kernel_rfl) (fun _ _ _ h => h) (Or.inl ⟨by rfl, ?_⟩) (by assumption) ?_
      rotate_left
      · (intro w hSw; (try dsimp only at hSw); go_simp; try with_reducible rfl)
      try simp only [Act.put, List.setIfInBounds_toArray, List.set_cons_zero, List.set_cons_succ]
      refine wpAnyH_ready (rs := [6]) (by kernel_rfl) (by simp) ?_
      refine AllReadyH.cons (i := 6) (o := { dst := some 13, op := Op.call { callee := Callee.value (Operand.func 65), args := #[Operand.tmp 11, Operand.tmp 12], argTypes := #[40, 46] }, type := 4, pos := "l08_trees.go:47", after := #[{ on := 4, ground := Ground.data }, { on := 5, ground := Ground.data }, { on := 3, ground := Ground.chain }, { on := 3, ground := Ground.guard }], guard := some (3, true) }) rfl (fun K hK => ?_) AllReadyH.nil
      go_simp
      refine (iStoreOk_c a1 a2 a3 c1 c2 c3 vs fs rs g1 g2 g3 f1 f2 f3 is bs js _ ((unhide HW).call hHeld.bel) ((unhide HV).call hHeld.bel) ((unhide HF).call hHeld.bel) ((unhide HR).call hHeld.bel) (unhide HZ) ((unhide HJ).call hHeld.bel)).mono ?_
      rintro e w3 ⟨rfl, hb⟩
      rw [unhide T2]
      refine hK.out _ _ (J9.call hHeld hb) (fun hHeld => ?_)
      clear hK K
      try simp only [Act.put, List.setIfInBounds_toArray, List.set_cons_zero, List.set_cons_succ]
      refine wpAnyH_take (i := 7) (oi := { dst := some 14, op := Op.pick (Operand.tmp 10) (Operand.tmp 13) (Operand.const (Value.bool false)), type := 4, pos := "l08_trees.go:47", after := #[{ on := 3, ground := Ground.data }, { on := 6, ground := Ground.data }], guard := none }) (v := ?_) rfl (by kernel_rfl) (by kernel_rfl) (by kernel_rfl) (fun _ _ _ h => h) (Or.inl ⟨by rfl, ?_⟩) (by assumption) ?_
      rotate_left
      · (intro w hSw; (try dsimp only at hSw); go_simp; try with_reducible rfl)
      try simp only [Act.put, List.setIfInBounds_toArray, List.set_cons_zero, List.set_cons_succ]
      refine wpAnyH_take (i := 8) (oi := { dst := some 15, op := Op.move (Operand.tmp 14), type := 4, pos := "l08_trees.go:47", after := #[{ on := 7, ground := Ground.data }, { on := 6, ground := Ground.chain }], guard := none }) (v := ?_) rfl (by kernel_rfl) (by kernel_rfl) (by kernel_rfl) (fun _ _ _ h => h) (Or.inl ⟨by rfl, ?_⟩) (by assumption) ?_
      rotate_left
      · (intro w hSw; (try dsimp only at hSw); go_simp; try with_reducible rfl)
      try simp only [Act.put, List.setIfInBounds_toArray, List.set_cons_zero, List.set_cons_succ]
      refine wpAnyH_take (i := 9) (oi := { dst := some 16, op := Op.load 40 (Operand.tmp 3), type := 40, pos := "l08_trees.go:47", after := #[{ on := 8, ground := Ground.guard }], guard := some (8, true) }) (v := ?_) rfl (by kernel_rfl) (by kernel_rfl) (by kernel_rfl) (fun _ _ _ h => h) (Or.inl ⟨by rfl, ?_⟩) (by assumption) ?_
      rotate_left
      · (intro w hSw; (try dsimp only at hSw); go_simp; try with_reducible rfl)
      try simp only [Act.put, List.setIfInBounds_toArray, List.set_cons_zero, List.set_cons_succ]
      refine wpAnyH_take (i := 10) (oi := { dst := some 17, op := Op.move (Operand.tmp 1), type := 70, pos := "l08_trees.go:47", after := #[{ on := 8, ground := Ground.guard }], guard := some (8, true) }) (v := ?_) rfl (by kernel_rfl) (by kernel_rfl) (by kernel_rfl) (fun _ _ _ h => h) (Or.inl ⟨by rfl, ?_⟩) (by assumption) ?_
      rotate_left
      · (intro w hSw; (try dsimp only at hSw); go_simp; try with_reducible rfl)
      try simp only [Act.put, List.setIfInBounds_toArray, List.set_cons_zero, List.set_cons_succ]
      refine wpAnyH_take (i := 11) (oi := { dst := some 18, op := Op.load 46 (Operand.tmp 5), type := 46, pos := "l08_trees.go:47", after := #[{ on := 8, ground := Ground.guard }], guard := some (8, true) }) (v := ?_) rfl (by kernel_rfl) (by kernel_rfl) (by kernel_rfl) (fun _ _ _ h => h) (Or.inl ⟨by rfl, ?_⟩) (by assumption) ?_
      rotate_left
      · (intro w hSw; (try dsimp only at hSw); go_simp; try with_reducible rfl)
      try simp only [Act.put, List.setIfInBounds_toArray, List.set_cons_zero, List.set_cons_succ]
      refine wpAnyH_take (i := 15) (oi := { dst := some 22, op := Op.load 46 (Operand.tmp 5), type := 46, pos := "l08_trees.go:47", after := #[{ on := 8, ground := Ground.guard }], guard := some (8, true) }) (v := ?_) rfl (by kernel_rfl) (by kernel_rfl) (by kernel_rfl) (fun _ _ _ h => h) (Or.inl ⟨by rfl, ?_⟩) (by assumption) ?_
      rotate_left
      · (intro w hSw; (try dsimp only at hSw); go_simp; try with_reducible rfl)
      try simp only [Act.put, List.setIfInBounds_toArray, List.set_cons_zero, List.set_cons_succ]
      refine wpAnyH_ready (rs := [12]) (by kernel_rfl) (by simp) ?_
      refine AllReadyH.cons (i := 12) (o := { dst := some 19, op := Op.call { callee := Callee.value (Operand.func 67), args := #[Operand.tmp 18], argTypes := #[46] }, type := 2, pos := "l08_trees.go:47", after := #[{ on := 11, ground := Ground.data }, { on := 8, ground := Ground.chain }, { on := 8, ground := Ground.guard }], guard := some (8, true) }) rfl (fun K hK => ?_) AllReadyH.nil
      go_simp
      refine (leafOf_c _ _ g2 f2 bs _ ((unhide HBo).call hHeld.bel) (unhide H3)).mono ?_
      rintro e w3 ⟨rfl, hb⟩
      rw [unhide HN]
      refine hK.out _ _ (J9.call hHeld hb) (fun hHeld => ?_)
      clear hK K
      try simp only [Act.put, List.setIfInBounds_toArray, List.set_cons_zero, List.set_cons_succ]
      refine wpAnyH_take (i := 13) (oi := { dst := some 20, op := Op.indexAddr 70 (Operand.tmp 17) (Operand.tmp 19), type := 0, pos := "l08_trees.go:47", after := #[{ on := 10, ground := Ground.data }, { on := 12, ground := Ground.data }, { on := 8, ground := Ground.guard }], guard := some (8, true) }) (v := ?_) rfl (by kernel_rfl) (by kernel_rfl) (by kernel_rfl) (fun _ _ _ h => h) (Or.inl ⟨by rfl, ?_⟩) (by assumption) ?_
      rotate_left
      · (intro w hSw; (try dsimp only at hSw); go_simp; try with_reducible rfl)
      try simp only [Act.put, List.setIfInBounds_toArray, List.set_cons_zero, List.set_cons_succ]
      refine wpAnyH_take (i := 14) (oi := { dst := some 21, op := Op.load 69 (Operand.tmp 20), type := 69, pos := "l08_trees.go:47", after := #[{ on := 13, ground := Ground.data }, { on := 8, ground := Ground.guard }], guard := some (8, true) }) (v := ?_) rfl (by kernel_rfl) (by kernel_rfl) (by kernel_rfl) (fun _ _ _ h => h) (Or.inl ⟨by rfl, ?_⟩) (by assumption) ?_
      rotate_left
      · (intro w hSw; (try dsimp only at hSw); go_simp; try with_reducible rfl)
      try simp only [Act.put, List.setIfInBounds_toArray, List.set_cons_zero, List.set_cons_succ]
      refine wpAnyH_ready (rs := [16]) (by kernel_rfl) (by simp) ?_
      refine AllReadyH.cons (i := 16) (o := { dst := some 23, op := Op.call { callee := Callee.value (Operand.func 66), args := #[Operand.tmp 16, Operand.tmp 21, Operand.tmp 22], argTypes := #[40, 69, 46] }, type := 4, pos := "l08_trees.go:47", after := #[{ on := 9, ground := Ground.data }, { on := 14, ground := Ground.data }, { on := 15, ground := Ground.data }, { on := 12, ground := Ground.chain }, { on := 8, ground := Ground.guard }], guard := some (8, true) }) rfl (fun K hK => ?_) AllReadyH.nil
      go_simp
      refine (iEnvHas_c a1 a2 a3 c1 c2 c3 vs fs rs li e1 e2 xs.length ys.length xs ys g1 g2 g3 f1 f2 f3 is bs js _ ((unhide HW).call hHeld.bel) ((unhide HV).call hHeld.bel) ((unhide HF).call hHeld.bel) ((unhide HR).call hHeld.bel) (unhide HZ) ((unhide I1).call hHeld.bel) ((unhide I2).call hHeld.bel) ((unhide HI).call hHeld.bel) ((unhide HJ).call hHeld.bel)).mono ?_
      rintro e w3 ⟨rfl, hb⟩
      rw [unhide EQ]
      refine hK.out _ _ (J9.call hHeld hb) (fun hHeld => ?_)
      clear hK K
      try simp only [Act.put, List.setIfInBounds_toArray, List.set_cons_zero, List.set_cons_succ]
      refine wpAnyH_take (i := 17) (oi := { dst := some 24, op := Op.pick (Operand.tmp 15) (Operand.tmp 23) (Operand.const (Value.bool false)), type := 4, pos := "l08_trees.go:47", after := #[{ on := 8, ground := Ground.data }, { on := 16, ground := Ground.data }], guard := none }) (v := ?_) rfl (by kernel_rfl) (by kernel_rfl) (by kernel_rfl) (fun _ _ _ h => h) (Or.inl ⟨by rfl, ?_⟩) (by assumption) ?_
      rotate_left
      · (intro w hSw; (try dsimp only at hSw); go_simp; try with_reducible rfl)
      try simp only [Act.put, List.setIfInBounds_toArray, List.set_cons_zero, List.set_cons_succ]
      refine wpAnyH_take (i := 18) (oi := { dst := some 6, op := Op.assign (Operand.tmp 24), type := 4, pos := "l08_trees.go:47", after := #[{ on := 17, ground := Ground.data }, { on := 16, ground := Ground.chain }, { on := 0, ground := Ground.phase }, { on := 1, ground := Ground.phase }, { on := 2, ground := Ground.phase }, { on := 3, ground := Ground.phase }, { on := 4, ground := Ground.phase }, { on := 5, ground := Ground.phase }, { on := 6, ground := Ground.phase }, { on := 7, ground := Ground.phase }, { on := 8, ground := Ground.phase }, { on := 9, ground := Ground.phase }, { on := 10, ground := Ground.phase }, { on := 11, ground := Ground.phase }, { on := 12, ground := Ground.phase }, { on := 13, ground := Ground.phase }, { on := 14, ground := Ground.phase }, { on := 15, ground := Ground.phase }, { on := 16, ground := Ground.phase }, { on := 17, ground := Ground.phase }], guard := none }) (v := ?_) rfl (by kernel_rfl) (by kernel_rfl) (by kernel_rfl) (fun _ _ _ h => h) (Or.inl ⟨by rfl, ?_⟩) (by assumption) ?_
      rotate_left
      · (intro w hSw; (try dsimp only at hSw); go_simp; try with_reducible rfl)
      try simp only [Act.put, List.setIfInBounds_toArray, List.set_cons_zero, List.set_cons_succ]
      refine wpAnyH_done (by kernel_rfl) ?_ _
      go_wp2
      go_ret
      exact ⟨rfl, hHeld.bel⟩
end Go.Proofs.YthldhjifnpfmiaaGreatDoor
