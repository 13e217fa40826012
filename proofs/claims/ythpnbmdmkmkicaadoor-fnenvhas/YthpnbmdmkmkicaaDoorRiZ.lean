/- Texts that go together: RwtC, RinC, DhsC. -/
import Derived.Test.YthpnbmdmkmkicaaDoorMeZ
import Derived.Test.YthpnbmdmkmkicaaDoorDrwE
import Derived.Test.YthpnbmdmkmkicaaDoorInsM
import Derived.Test.YthpnbmdmkmkicaaDoorDjnC
/- A number within an interval, drawn. -/
namespace Go.Proofs.YthpnbmdmkmkicaaDoor
open Go.RowKit Go.Iv
set_option linter.unusedSimpArgs false
set_option linter.unusedVariables false

theorem CI.kpR {u v : World} {g b : Nat} {x y : Int} (h : CI u g x y) (k : Kp b u v) (hne : g ≠ b) : CI v g x y := by
  have hg := k.block g h.2.2.2 hne
  exact ⟨(World.cell?_of_block (w := u) hg).trans h.1, (World.cell?_of_block (w := u) hg).trans h.2.1, fun o => (World.frozen?_of_block (w := u) hg).trans (h.2.2.1 o), Nat.lt_of_lt_of_le h.2.2.2 k.size⟩
set_option maxRecDepth 20000 in
set_option maxHeartbeats 4000000 in
theorem rwithin_c (b : Nat) (a : Option Addr) (len cap : Nat) (l g : Int) (w : World) (h : Rdr w b a len cap) :
    Calls Tryd.prog 62 #[.pointer (some ⟨b, 0, none⟩), .agg #[.int .i64 l, .int .i64 g]] w fun e w' => (∃ n : Int, e = .returned (.int .i64 n)) ∧ Left b a len cap w w' := by
  have hbw := h.lt
  have HL := hide ((Left.refl h).alloc (Obj.cells #[.int .i64 l, .int .i64 g] 47))
  have HB := hide (CI.new w l g 47)
  clear h
  go_enter Tryd.func62, Tryd.ntmps62
  go_upto_region 1 with fail
  generalize w.alloc (Obj.cells #[.int .i64 l, .int .i64 g] 47) = u at HB HL ⊢
  have b0 := (unhide HB).1
  have b1 := (unhide HB).2.1
  go_wp2_with fail
  generalize IntKind.u64.wrap (IntKind.u64.wrap g - IntKind.u64.wrap l) = N
  refine (below_c b a len cap 4 (by decide) _ (unhide HL).1).mono ?_
  rintro e u1 ⟨r, rfl, r0, r1, r2, hl⟩
  have HL := hide ((unhide HL).trans hl)
  have HB := hide ((unhide HB).kpR hl.2 (by omega))
  clear hl b0 b1 r0 r1 r2
  have b0 := (unhide HB).1
  have b1 := (unhide HB).2.1
  by_cases q0 : r = 0
  · have e0 : (r == 0) = true := by simp [q0]
    go_wp2
    go_ret
    exact ⟨⟨l, rfl⟩, unhide HL⟩
  have e0 : (r == 0) = false := by simp [q0]
  by_cases q1 : r = 1
  · have e1 : (r == 1) = true := by simp [q1]
    go_wp2
    go_ret
    exact ⟨⟨g, rfl⟩, unhide HL⟩
  have e1 : (r == 1) = false := by simp [q1]
  go_upto_region 7 with fail
  clear e0 e1 q0 q1
  obtain ⟨M, hM⟩ : ∃ M, IntKind.u64.wrap (N + 1) = M := ⟨_, rfl⟩
  by_cases hfull : M = 0
  · subst hfull
    clear b0 b1
    go_wp2_with fail
    refine (word_c b a len cap _ (unhide HL).1).mono ?_
    rintro e u2 ⟨x, rfl, x0, x1, hl⟩
    have HL := hide ((unhide HL).trans hl)
    clear hl x0 x1
    go_wp2
    go_ret
    exact ⟨⟨_, rfl⟩, unhide HL⟩
  have hz : (M == 0) = false := by simp [hfull]
  go_upto_region 9 with fail
  clear b1
  have HL := hide ((unhide HL).drew)
  obtain ⟨wz, hwz⟩ : ∃ x, x = u1.drew := ⟨_, rfl⟩
  rw [← hwz] at HL
  refine wp_region_held_drew (S := fun u9 => u9.cell? ⟨w.heap.size, 0, none⟩ = some (.int .i64 l)) (by kernel_rfl) b0 (fun hHeld => ?_)
  rw [← hwz] at hHeld ⊢
  clear hwz
  refine wpAnyH_take (i := 0) (oi := ⟨some 29, Op.fieldAddr 47 (Operand.tmp 3) 0, 0, _, _, none⟩) (v := ?_) rfl (by kernel_rfl) (by kernel_rfl) (by kernel_rfl) (fun _ _ _ h => h) (Or.inl ⟨by rfl, ?_⟩) (by assumption) ?_
  rotate_left
  · (intro w9 hSw; (try dsimp only at hSw); go_simp; try with_reducible rfl)
  try simp only [Act.put, List.setIfInBounds_toArray, List.set_cons_zero, List.set_cons_succ]
  refine wpAnyH_take (i := 1) (oi := ⟨some 30, Op.load 2 (Operand.tmp 29), 2, _, _, none⟩) (v := ?_) rfl (by kernel_rfl) (by kernel_rfl) (by kernel_rfl) (fun _ _ _ h => h) (Or.inl ⟨by rfl, ?_⟩) (by assumption) ?_
  rotate_left
  · (intro w9 hSw; (try dsimp only at hSw); go_simp; try with_reducible rfl)
  try simp only [Act.put, List.setIfInBounds_toArray, List.set_cons_zero, List.set_cons_succ]
  refine wpAnyH_take (i := 2) (oi := ⟨some 31, Op.convert 2 96 (Operand.tmp 30), 96, _, _, none⟩) (v := ?_) rfl (by kernel_rfl) (by kernel_rfl) (by kernel_rfl) (fun _ _ _ h => h) (Or.inl ⟨by rfl, ?_⟩) (by assumption) ?_
  rotate_left
  · (intro w9 hSw; (try dsimp only at hSw); go_simp; try with_reducible rfl)
  try simp only [Act.put, List.setIfInBounds_toArray, List.set_cons_zero, List.set_cons_succ]
  refine wpAnyH_take (i := 3) (oi := ⟨some 32, Op.move (Operand.tmp 0), 60, _, _, none⟩) (v := ?_) rfl (by kernel_rfl) (by kernel_rfl) (by kernel_rfl) (fun _ _ _ h => h) (Or.inl ⟨by rfl, ?_⟩) (by assumption) ?_
  rotate_left
  · (intro w9 hSw; (try dsimp only at hSw); go_simp; try with_reducible rfl)
  try simp only [Act.put, List.setIfInBounds_toArray, List.set_cons_zero, List.set_cons_succ]
  refine wpAnyH_take (i := 5) (oi := ⟨some 34, Op.move (Operand.tmp 5), 96, _, _, none⟩) (v := ?_) rfl (by kernel_rfl) (by kernel_rfl) (by kernel_rfl) (fun _ _ _ h => h) (Or.inl ⟨by rfl, ?_⟩) (by assumption) ?_
  rotate_left
  · (intro w9 hSw; (try dsimp only at hSw); go_simp; try with_reducible rfl)
  try simp only [Act.put, List.setIfInBounds_toArray, List.set_cons_zero, List.set_cons_succ]
  refine wpAnyH_take (i := 6) (oi := ⟨some 35, Op.binOp BinOp.add 96 (Operand.tmp 34) (Operand.const (Value.int IntKind.u64 1)) 96, 96, _, _, none⟩) (v := ?_) rfl (by kernel_rfl) (by kernel_rfl) (by kernel_rfl) (fun _ _ _ h => h) (Or.inl ⟨by rfl, ?_⟩) (by assumption) ?_
  rotate_left
  · (intro w9 hSw; (try dsimp only at hSw); go_simp; try with_reducible rfl)
  try simp only [Act.put, List.setIfInBounds_toArray, List.set_cons_zero, List.set_cons_succ]
  refine wpAnyH_ready (rs := [4]) (by kernel_rfl) (by simp) ?_
  refine AllReadyH.cons (i := 4) (o := ⟨some 33, Op.call { callee := Callee.value (Operand.func 63), args := #[Operand.tmp 32], argTypes := #[60] }, 96, _, _, none⟩) rfl (fun K hK => ?_) AllReadyH.nil
  go_simp
  refine (word_c b a len cap _ (unhide HL).1).mono ?_
  rintro e u2 ⟨x, rfl, x0, x1, hl⟩
  have hq : u2.cell? ⟨w.heap.size, 0, none⟩ = some (.int .i64 l) := (World.cell?_of_block (w := wz) (hl.2.block w.heap.size (World.block_lt_of_cell? wz _ hHeld) (by omega))).trans hHeld
  have HL := hide ((unhide HL).trans hl)
  clear hl x0 x1 hHeld
  refine hK.out _ _ hq (fun hHeld => ?_)
  clear hK K hq
  try simp only [Act.put, List.setIfInBounds_toArray, List.set_cons_zero, List.set_cons_succ]
  refine wpAnyH_take (i := 7) (oi := ⟨some 36, Op.binOp BinOp.rem 96 (Operand.tmp 33) (Operand.tmp 35) 96, 96, _, _, none⟩) (v := ?_) rfl (by kernel_rfl) (by kernel_rfl) (by kernel_rfl) (fun _ _ _ h => h) (Or.inl ⟨by rfl, ?_⟩) (by assumption) ?_
  rotate_left
  · (intro w9 hSw; (try dsimp only at hSw); go_simp; try with_reducible rfl)
  try simp only [Act.put, List.setIfInBounds_toArray, List.set_cons_zero, List.set_cons_succ]
  refine wpAnyH_take (i := 8) (oi := ⟨some 37, Op.binOp BinOp.add 96 (Operand.tmp 31) (Operand.tmp 36) 96, 96, _, _, none⟩) (v := ?_) rfl (by kernel_rfl) (by kernel_rfl) (by kernel_rfl) (fun _ _ _ h => h) (Or.inl ⟨by rfl, ?_⟩) (by assumption) ?_
  rotate_left
  · (intro w9 hSw; (try dsimp only at hSw); go_simp; try with_reducible rfl)
  try simp only [Act.put, List.setIfInBounds_toArray, List.set_cons_zero, List.set_cons_succ]
  refine wpAnyH_take (i := 9) (oi := ⟨some 38, Op.convert 96 2 (Operand.tmp 37), 2, _, _, none⟩) (v := ?_) rfl (by kernel_rfl) (by kernel_rfl) (by kernel_rfl) (fun _ _ _ h => h) (Or.inl ⟨by rfl, ?_⟩) (by assumption) ?_
  rotate_left
  · (intro w9 hSw; (try dsimp only at hSw); go_simp; try with_reducible rfl)
  try simp only [Act.put, List.setIfInBounds_toArray, List.set_cons_zero, List.set_cons_succ]
  refine wpAnyH_take (i := 10) (oi := ⟨some 4, Op.assign (Operand.tmp 38), 2, _, _, none⟩) (v := ?_) rfl (by kernel_rfl) (by kernel_rfl) (by kernel_rfl) (fun _ _ _ h => h) (Or.inl ⟨by rfl, ?_⟩) (by assumption) ?_
  rotate_left
  · (intro w9 hSw; (try dsimp only at hSw); go_simp; try with_reducible rfl)
  try simp only [Act.put, List.setIfInBounds_toArray, List.set_cons_zero, List.set_cons_succ]
  refine wpAnyH_done (by kernel_rfl) ?_ _
  go_wp2
  go_ret
  exact ⟨⟨_, rfl⟩, unhide HL⟩
end Go.Proofs.YthpnbmdmkmkicaaDoor

/- A store of numbers of bounds, drawn. -/
namespace Go.Proofs.YthpnbmdmkmkicaaDoor
open Go.RowKit Go.Iv
set_option linter.unusedSimpArgs false
set_option linter.unusedVariables false

theorem Left.callR {u w v : World} {b len cap : Nat} {a : Option Addr} (h : Left b a len cap u w) (k : Below w.heap.size w v) : Left b a len cap u v := by
  obtain ⟨⟨⟨p, hp, hh⟩, hc, hn⟩, q⟩ := h
  exact ⟨⟨⟨p, hp, (k.block b (Array.getElem?_eq_some_iff.1 hh).1).trans hh⟩, hc.below k, hn⟩, ⟨k.os.trans q.os, k.tape.trans q.tape, k.output.trans q.output, Nat.le_trans q.size k.size, fun i hi hne => (k.block i (Nat.lt_of_lt_of_le hi q.size)).trans (q.block i hi hne)⟩⟩
theorem OwnI.at4 {u v : World} {g : Nat} {xs : List Int} (h : OwnI u g xs) (hb : v.heap[g]? = u.heap[g]?) (hs : u.heap.size ≤ v.heap.size) : OwnI v g xs := by
  refine ⟨⟨h.1.1, ?_⟩, fun o => (World.frozen?_of_block (w := u) hb).trans (h.2.1 o), Nat.lt_of_lt_of_le h.2.2 hs⟩
  rcases h.1.2 with h0 | ⟨cb, co, e, hc⟩
  · exact .inl h0
  · cases e
    exact .inr ⟨g, 0, rfl, fun i hi => (World.cell?_of_block (w := u) hb).trans (hc i hi)⟩
theorem OwnB.at4 {u v : World} {g : Nat} {xs : List Bool} (h : OwnB u g xs) (hb : v.heap[g]? = u.heap[g]?) (hs : u.heap.size ≤ v.heap.size) : OwnB v g xs := by
  refine ⟨⟨h.1.1, ?_⟩, fun o => (World.frozen?_of_block (w := u) hb).trans (h.2.1 o), Nat.lt_of_lt_of_le h.2.2 hs⟩
  rcases h.1.2 with h0 | ⟨cb, co, e, hc⟩
  · exact .inl h0
  · cases e
    exact .inr ⟨g, 0, rfl, fun i hi => (World.cell?_of_block (w := u) hb).trans (hc i hi)⟩
theorem StW.at4 {u v : World} {B B1 T cc : Nat} {oa ob oc : Option Addr} {gs : List Nat} {is : List Int} {bs : List Bool} {js : List (List Int)} (h : StW u B B1 T oa ob oc cc gs is bs js) (hb : ∀ g, B ≤ g → g < u.heap.size → v.heap[g]? = u.heap[g]?) (hs : u.heap.size ≤ v.heap.size) : StW v B B1 T oa ob oc cc gs is bs js := by
  obtain ⟨h1, h2, h3, h4, h5, h6⟩ := h
  refine ⟨?_, ?_, ?_, h4, h5, Nat.le_trans h6 hs⟩
  · rcases h1 with q | ⟨g, e, p1, p2, p3⟩
    · exact .inl q
    · exact .inr ⟨g, e, p1, p2.at4 (hb g p1.1 p2.2.2) hs, p3⟩
  · rcases h2 with q | ⟨g, e, p1, p2⟩
    · exact .inl q
    · exact .inr ⟨g, e, p1, p2.at4 (hb g p1.1 p2.2.2) hs⟩
  · rcases h3 with q | h3
    · exact .inl q
    · refine .inr ⟨h3.1, own_at h3.2.1 (fun g hg => hb g (Nat.le_trans h4 (h3.2.1.lt g hg).1) (h3.2.1.lt g hg).2), h3.2.2.1, fun i q1 q2 => ⟨(h3.2.2.2.1 i q1 q2).1, (h3.2.2.2.1 i q1 q2).2.1, (h3.2.2.2.1 i q1 q2).2.2.1, (h3.2.2.2.1 i q1 q2).2.2.2.at4 (hb _ (Nat.le_trans h4 (h3.2.2.2.1 i q1 q2).1) (h3.2.2.2.1 i q1 q2).2.2.2.2.2) hs⟩, h3.2.2.2.2.1, Nat.le_trans h3.2.2.2.2.2 hs⟩
theorem StW.kp {u v : World} {B B1 T cc b : Nat} {oa ob oc : Option Addr} {gs : List Nat} {is : List Int} {bs : List Bool} {js : List (List Int)} (h : StW u B B1 T oa ob oc cc gs is bs js) (k : Kp b u v) (hb : b < B) : StW v B B1 T oa ob oc cc gs is bs js := h.at4 (fun g h1 h2 => k.block g h2 (by omega)) k.size
/-- The boxes beside the reader. -/
def InQ (w0 : World) (b : Nat) (a : Option Addr) (len cap q : Nat) (x0 y0 z0 x1 y1 z1 x2 y2 z2 : Value) (u : World) : Prop :=
  C3 u w0.heap.size x0 y0 z0 ∧ C3 u (w0.heap.size + 1) x1 y1 z1 ∧ C3 u (w0.heap.size + 2) (.slice none 0 0) (.slice none 0 0) (.slice none 0 0) ∧ C3 u q x2 y2 z2 ∧ Left b a len cap w0 u
theorem InQ.kp {w0 u v : World} {b len cap q : Nat} {a : Option Addr} {x0 y0 z0 x1 y1 z1 x2 y2 z2 : Value} (h : InQ w0 b a len cap q x0 y0 z0 x1 y1 z1 x2 y2 z2 u) (k : Left b a len cap u v) (hb : b < w0.heap.size) (hq : q ≠ b) : InQ w0 b a len cap q x0 y0 z0 x1 y1 z1 x2 y2 z2 v :=
  ⟨h.1.kp k.2 (by omega), h.2.1.kp k.2 (by omega), h.2.2.1.kp k.2 (by omega), h.2.2.2.1.kp k.2 hq, h.2.2.2.2.trans k⟩
theorem InQ.far {w0 u : World} {b len cap q c o : Nat} {a : Option Addr} {x0 y0 z0 x1 y1 z1 x2 y2 z2 x : Value} (h : InQ w0 b a len cap q x0 y0 z0 x1 y1 z1 x2 y2 z2 u) (h1 : w0.heap.size + 2 < c) (h2 : c ≠ q) (hb : b < w0.heap.size) (hcode : ∀ x, a = some x → 0 < len → x.block < w0.heap.size) : InQ w0 b a len cap q x0 y0 z0 x1 y1 z1 x2 y2 z2 (u.setCell ⟨c, o, none⟩ x) :=
  ⟨h.1.other (by omega), h.2.1.other (by omega), h.2.2.1.other (by omega), h.2.2.2.1.other h2, h.2.2.2.2.set (by omega) hb hcode _⟩
theorem InQ.drew {w0 u : World} {b len cap q : Nat} {a : Option Addr} {x0 y0 z0 x1 y1 z1 x2 y2 z2 : Value} (h : InQ w0 b a len cap q x0 y0 z0 x1 y1 z1 x2 y2 z2 u) : InQ w0 b a len cap q x0 y0 z0 x1 y1 z1 x2 y2 z2 u.drew := ⟨h.1, h.2.1, h.2.2.1, h.2.2.2.1, h.2.2.2.2.drew⟩
/-- How long such a store's rows are. -/
def InN (n1 n2 n3 : Nat) (is : List Int) (bs : List Bool) (js : List (List Int)) : Prop := is.length = n1 ∧ bs.length = n2 ∧ js.length = n3 ∧ ∀ k, (h : k < js.length) → (js[k]).length ≤ 16
theorem InN.set3 {n1 n2 n3 : Nat} {is : List Int} {bs : List Bool} {js : List (List Int)} (h : InN n1 n2 n3 is bs js) (k t : Nat) (hk : k < js.length) (v : Int) : InN n1 n2 n3 is bs (js.set k ((js[k]).set t v)) := by
  refine ⟨h.1, h.2.1, by rw [List.length_set]; exact h.2.2.1, fun i h1 => ?_⟩
  have h1' := h1
  rw [List.length_set] at h1'
  by_cases e : i = k
  · subst e; rw [List.getElem_set_self, List.length_set]; exact h.2.2.2 i h1'
  · rw [List.getElem_set_ne (by omega)]; exact h.2.2.2 i h1'
theorem sn_lens (vs fs : List ByteArray) (rs : List (ByteArray × Int)) : ∃ n1 n2 n3, InN n1 n2 n3 (snI vs fs rs) (snB vs fs rs) (snJ vs fs rs) ∧ n1 ≤ 5 ∧ n2 ≤ 3 ∧ n3 ≤ 2 ∧ n1 ≤ vs.length ∧ n3 ≤ rs.length := by
  cases hd : declB vs fs rs
  · rw [(sn_no hd).1, (sn_no hd).2.1, (sn_no hd).2.2]
    exact ⟨0, 0, 0, ⟨rfl, rfl, rfl, fun k h => absurd h (Nat.not_lt_zero _)⟩, by omega, by omega, by omega, by omega, by omega⟩
  · rw [(sn_yes hd).1, (sn_yes hd).2.1, (sn_yes hd).2.2]
    have q : declP vs fs rs := of_decide_eq_true hd
    refine ⟨vs.length, fs.length, rs.length, ⟨zI_len _, by simp [zB], rowsZ_len rs, fun k h => ?_⟩, q.1, q.2.1, q.2.2.1, Nat.le_refl _, Nat.le_refl _⟩
    have hk : k < rs.length := by rw [rowsZ_len] at h; exact h
    obtain ⟨s, e1, e2, e3⟩ := decl_size hd k hk
    have e : (rowsZ rs)[k] = zI rs[k].2.toNat := by simp [rowsZ]
    rw [e, zI_len, e3]
    exact e2
theorem snB_len {n1 n2 n3 : Nat} {is : List Int} {bs : List Bool} {js : List (List Int)} (h : InN n1 n2 n3 is bs js) : is.length = n1 ∧ bs.length = n2 ∧ js.length = n3 := ⟨h.1, h.2.1, h.2.2.1⟩
set_option maxRecDepth 20000 in
set_option maxHeartbeats 32000000 in
theorem rinside_c (b : Nat) (a : Option Addr) (len cap : Nat) (a1 a2 a3 : Option Addr) (c1 c2 c3 : Nat) (vs fs : List ByteArray) (rs : List (ByteArray × Int)) (li : Bool) (e1 e2 : Option Addr) (d1 d2 : Nat) (xs ys : List (Int × Int)) (w : World) (h : Rdr w b a len cap) (hv : Strs w a1 vs) (hf : Strs w a2 fs) (hr : Arrs w a3 rs)
    (hz : ∀ x ∈ namesOf vs fs rs, x.size ≤ 1048576) (hx : Ivs w e1 xs) (hy : Ivs w e2 ys) (hne : (∀ x, e1 = some x → x.block ≠ b) ∧ ∀ x, e2 = some x → x.block ≠ b) (hl : li = true → xs.length = vs.length ∧ ys.length = rs.length) :
    Calls Tryd.prog 31 #[.pointer (some ⟨b, 0, none⟩), .agg #[.slice a1 vs.length c1, .slice a2 fs.length c2, .slice a3 rs.length c3], .agg #[.bool li, .slice e1 xs.length d1, .slice e2 ys.length d2]] w fun e w' => ∃ (oa ob oc : Option Addr) (ca cb cc B1 T n1 n2 n3 : Nat) (gs : List Nat) (is : List Int) (bs : List Bool) (js : List (List Int)),
      e = .returned (.agg #[.slice oa is.length ca, .slice ob bs.length cb, .slice oc js.length cc]) ∧ StW w' w.heap.size B1 T oa ob oc cc gs is bs js ∧ InN n1 n2 n3 is bs js ∧ (n1 ≤ 5 ∧ n2 ≤ 3 ∧ n3 ≤ 2) ∧ Left b a len cap w w' := by
  have hbw : b < w.heap.size := h.lt
  have HCO := hide h.2.1.lt
  have HX := hide hx
  have HY := hide hy
  have HNE := hide hne
  have HLL := hide hl
  have HS := hide (And.intro hv (And.intro hf (And.intro hr hz)))
  have hl0 := (((Left.refl h).alloc (Obj.cells #[.slice a1 vs.length c1, .slice a2 fs.length c2, .slice a3 rs.length c3] 27)).alloc (Obj.cells #[.bool li, .slice e1 xs.length d1, .slice e2 ys.length d2] 30)).alloc (Obj.cells #[.slice none 0 0, .slice none 0 0, .slice none 0 0] 37)
  clear h hv hf hr hz hx hy hne hl
  have b0 := B3.new w (.slice a1 vs.length c1) (.slice a2 fs.length c2) (.slice a3 rs.length c3) (.bool li) (.slice e1 xs.length d1) (.slice e2 ys.length d2) (.slice none 0 0) (.slice none 0 0) (.slice none 0 0) 27 30 37
  have hs3 : w.heap.size + 3 ≤ (((w.alloc (Obj.cells #[.slice a1 vs.length c1, .slice a2 fs.length c2, .slice a3 rs.length c3] 27)).alloc (Obj.cells #[.bool li, .slice e1 xs.length d1, .slice e2 ys.length d2] 30)).alloc (Obj.cells #[.slice none 0 0, .slice none 0 0, .slice none 0 0] 37)).heap.size := by simp
  go_enter Tryd.func31, Tryd.ntmps31
  go_upto_region 1 with fail
  generalize ((w.alloc (Obj.cells #[.slice a1 vs.length c1, .slice a2 fs.length c2, .slice a3 rs.length c3] 27)).alloc (Obj.cells #[.bool li, .slice e1 xs.length d1, .slice e2 ys.length d2] 30)).alloc (Obj.cells #[.slice none 0 0, .slice none 0 0, .slice none 0 0] 37) = u at b0 hs3 hl0 ⊢
  have HBX := hide b0
  have HL0 := hide hl0
  clear b0 hl0
  have q0 := (unhide HBX).1.1
  have q1 := (unhide HBX).1.2.1
  have q2 := (unhide HBX).1.2.2.1
  go_wp2_with fail
  refine (sStoreNew_c a1 a2 a3 c1 c2 c3 vs fs rs _ ((unhide HS).1.call (unhide HBX).2.2.2) ((unhide HS).2.1.call (unhide HBX).2.2.2) ((unhide HS).2.2.1.call (unhide HBX).2.2.2) (unhide HS).2.2.2).mono ?_
  obtain ⟨n1, n2, n3, hin, hn5, hn3, hn2, hnv, hnr⟩ := sn_lens vs fs rs
  generalize snI vs fs rs = is0 at hin ⊢
  generalize snB vs fs rs = bs0 at hin ⊢
  generalize snJ vs fs rs = js0 at hin ⊢
  rintro e u1 ⟨oa, ca, ob, cb, oc, cc, rfl, hst, kb⟩
  rw [hin.1, hin.2.1, hin.2.2.1]
  have HN0 := hide hin
  clear hin
  obtain ⟨B1, gs, hst⟩ := StW.ofR hst kb.size
  have hst2 : StW u1 (w.heap.size + 3) B1 u1.heap.size oa ob oc cc gs is0 bs0 js0 := by
    obtain ⟨g1, g2, g3, g4, g5, g6⟩ := hst
    refine ⟨?_, ?_, g3, by omega, g5, g6⟩
    · rcases g1 with q | ⟨g, e, p1, p2, p3⟩
      · exact .inl q
      · exact .inr ⟨g, e, ⟨by omega, p1.2⟩, p2, p3⟩
    · rcases g2 with q | ⟨g, e, p1, p2⟩
      · exact .inl q
      · exact .inr ⟨g, e, ⟨by omega, p1.2⟩, p2⟩
  have bq := C3.new u1 (.slice oa n1 ca) (.slice ob n2 cb) (.slice oc n3 cc) 37
  have ka := (Below.refl _ u1).alloc (Nat.le_refl _) (Obj.cells #[.slice oa n1 ca, .slice ob n2 cb, .slice oc n3 cc] 37)
  have hb2 := ((unhide HBX).call kb).call ka
  have hst3 := hst2.call ka
  have hq3 : w.heap.size + 2 < u1.heap.size := ((unhide HBX).call kb).2.2.1.lt
  have hlf := ((unhide HL0).callR kb).callR ka
  clear hst hst2 kb ka q0 q1 q2 hs3 HS HL0
  go_upto_region 2 with fail
  generalize u1.alloc (Obj.cells #[.slice oa n1 ca, .slice ob n2 cb, .slice oc n3 cc] 37) = u2 at bq hb2 hst3 hlf ⊢
  obtain ⟨q, hq⟩ : ∃ q, q = u1.heap.size := ⟨_, rfl⟩
  rw [← hq] at bq hst3 hq3 ⊢
  clear hq HBX
  have HP := hide (show InQ w b a len cap q (.slice a1 vs.length c1) (.slice a2 fs.length c2) (.slice a3 rs.length c3) (.bool li) (.slice e1 xs.length d1) (.slice e2 ys.length d2) (.slice oa n1 ca) (.slice ob n2 cb) (.slice oc n3 cc) u2 from ⟨hb2.1, hb2.2.1, hb2.2.2.1, bq, hlf⟩)
  clear bq hb2 hlf
  have HST := hide hst3
  clear hst3
  have hn1I : (n1 : Int) ≤ 5 := by omega
  have hn2I : (n2 : Int) ≤ 3 := by omega
  have hn3I : (n3 : Int) ≤ 2 := by omega
  have s0 := (unhide HP).2.2.2.1.1
  have E0 := (unhide HP).2.1.1
  cases li
  · skip
    go_wp2
    clear s0 E0
    go_loopw [8] (fun i wr => ∃ (j : Nat) (is : List Int), i = .int .i64 j ∧ j ≤ n1 ∧ InN n1 n2 n3 is bs0 js0 ∧ StW wr (w.heap.size + 3) B1 q oa ob oc cc gs is bs0 js0 ∧ InQ w b a len cap q (.slice a1 vs.length c1) (.slice a2 fs.length c2) (.slice a3 rs.length c3) (.bool false) (.slice e1 xs.length d1) (.slice e2 ys.length d2) (.slice oa n1 ca) (.slice ob n2 cb) (.slice oc n3 cc) wr) (fun i _ => n1 - (intOf i).toNat)
    case atStart => exact ⟨0, _, rfl, Nat.zero_le _, unhide HN0, unhide HST, unhide HP⟩
    case round =>
      clear HP HST HN0
      obtain ⟨j, is, rfl, hj, hN, hst, hp⟩ := hrel
      have HN := hide hN
      have HST := hide hst
      have HP := hide hp
      clear hN hst hp
      have s0 := (unhide HP).2.2.2.1.1
      have E0 := (unhide HP).2.1.1
      by_cases hlt : j < n1
      · have hltI : (j : Int) < (n1 : Int) := by omega
        go_upto_region 6 with fail
        clear s0 E0 hltI hlt hj
        go_upto_region 6 with fail
        generalize wr = wo at HST HP ⊢
        have s1 := (unhide HP).2.2.2.1.2.1
        go_wp2
        clear s1
        go_loopw [9] (fun i wr => ∃ (j : Nat) (bs : List Bool), i = .int .i64 j ∧ j ≤ n2 ∧ InN n1 n2 n3 is bs js0 ∧ StW wr (w.heap.size + 3) B1 q oa ob oc cc gs is bs js0 ∧ InQ w b a len cap q (.slice a1 vs.length c1) (.slice a2 fs.length c2) (.slice a3 rs.length c3) (.bool false) (.slice e1 xs.length d1) (.slice e2 ys.length d2) (.slice oa n1 ca) (.slice ob n2 cb) (.slice oc n3 cc) wr) (fun i _ => n2 - (intOf i).toNat)
        case atStart => exact ⟨0, _, rfl, Nat.zero_le _, unhide HN, unhide HST, unhide HP⟩
        case round =>
          clear HP HST HN
          obtain ⟨j, bs, rfl, hj, hN, hst, hp⟩ := hrel
          have HN := hide hN
          have HST := hide hst
          have HP := hide hp
          clear hN hst hp
          have s1 := (unhide HP).2.2.2.1.2.1
          by_cases hlt : j < n2
          · have hltI : (j : Int) < (n2 : Int) := by omega
            have hjb : j < bs.length := by have := (unhide HN).2.1; omega
            obtain ⟨g2, rfl, hg2, _⟩ := (unhide HST).w2 hjb true
            go_upto_region 9 with fail
            have HP := hide ((unhide HP).drew)
            have HST := hide ((unhide HST).call (Below.refl _ _).drew)
            obtain ⟨wz, hwz⟩ : ∃ x, x = wr.drew := ⟨_, rfl⟩
            rw [← hwz] at HP HST
            refine wp_region_held_drew (S := (fun u9 => u9.cell? ⟨q, 1, none⟩ = some (.slice (some ⟨g2, 0, none⟩) n2 cb) ∧ Hid True)) (by kernel_rfl) (by exact ⟨s1, hide trivial⟩) (fun hHeld => ?_)
            rw [← hwz] at hHeld ⊢
            clear hwz
            refine wpAnyH_take (i := 0) (oi := ⟨some 43, Op.fieldAddr 37 (Operand.tmp 7) 1, 0, _, _, none⟩) (v := ?_) rfl (by kernel_rfl) (by kernel_rfl) (by kernel_rfl) (fun _ _ _ h => h) (Or.inl ⟨by rfl, ?_⟩) (by assumption) ?_
            rotate_left
            · (intro w9 hSw; (try dsimp only at hSw); go_simp; try with_reducible rfl)
            try simp only [Act.put, List.setIfInBounds_toArray, List.set_cons_zero, List.set_cons_succ]
            refine wpAnyH_take (i := 1) (oi := ⟨some 44, Op.load 34 (Operand.tmp 43), 34, _, _, none⟩) (v := ?_) rfl (by kernel_rfl) (by kernel_rfl) (by kernel_rfl) (fun _ _ _ h => h) (Or.inl ⟨by rfl, ?_⟩) (by assumption) ?_
            rotate_left
            · (intro w9 hSw; (try dsimp only at hSw); go_simp; try with_reducible rfl)
            try simp only [Act.put, List.setIfInBounds_toArray, List.set_cons_zero, List.set_cons_succ]
            refine wpAnyH_take (i := 2) (oi := ⟨some 45, Op.move (Operand.tmp 9), 3, _, _, none⟩) (v := ?_) rfl (by kernel_rfl) (by kernel_rfl) (by kernel_rfl) (fun _ _ _ h => h) (Or.inl ⟨by rfl, ?_⟩) (by assumption) ?_
            rotate_left
            · (intro w9 hSw; (try dsimp only at hSw); go_simp; try with_reducible rfl)
            try simp only [Act.put, List.setIfInBounds_toArray, List.set_cons_zero, List.set_cons_succ]
            refine wpAnyH_take (i := 3) (oi := ⟨some 46, Op.move (Operand.tmp 0), 60, _, _, none⟩) (v := ?_) rfl (by kernel_rfl) (by kernel_rfl) (by kernel_rfl) (fun _ _ _ h => h) (Or.inl ⟨by rfl, ?_⟩) (by assumption) ?_
            rotate_left
            · (intro w9 hSw; (try dsimp only at hSw); go_simp; try with_reducible rfl)
            try simp only [Act.put, List.setIfInBounds_toArray, List.set_cons_zero, List.set_cons_succ]
            refine wpAnyH_ready (rs := [4]) (by kernel_rfl) (by simp) ?_
            refine AllReadyH.cons (i := 4) (o := ⟨some 47, Op.call { callee := Callee.value (Operand.func 32), args := #[Operand.tmp 46, Operand.const (Value.int IntKind.i64 2)], argTypes := #[60, 3] }, 4, _, _, none⟩) rfl (fun K hK => ?_) AllReadyH.nil
            go_simp
            refine (once_c b a len cap 2 (by decide) (by decide) _ (unhide HP).2.2.2.2.1).mono ?_
            rintro e v1 ⟨x, rfl, hl⟩
            have HP := hide ((unhide HP).kp hl hbw (by omega))
            have HST := hide ((unhide HST).kp hl.2 (by omega))
            have hq := (show (fun u9 => u9.cell? ⟨q, 1, none⟩ = some (.slice (some ⟨g2, 0, none⟩) n2 cb) ∧ Hid True) v1 from ⟨(World.cell?_of_block (w := wz) (hl.2.block _ (World.block_lt_of_cell? wz _ hHeld.1) (by first | (show q ≠ b; omega) | (show w.heap.size + 1 ≠ b; omega) | exact hneb | (show b3 ≠ b; omega)))).trans hHeld.1, hide trivial⟩)
            clear hl hHeld
            refine hK.out _ _ hq (fun hHeld => ?_)
            clear hK K hq
            try simp only [Act.put, List.setIfInBounds_toArray, List.set_cons_zero, List.set_cons_succ]
            refine wpAnyH_take (i := 5) (oi := ⟨some 48, Op.indexAddr 34 (Operand.tmp 44) (Operand.tmp 45), 0, _, _, none⟩) (v := ?_) rfl (by kernel_rfl) (by kernel_rfl) (by kernel_rfl) (fun _ _ _ h => h) (Or.inl ⟨by rfl, ?_⟩) (by assumption) ?_
            rotate_left
            · (intro w9 hSw; (try dsimp only at hSw); go_simp; try with_reducible rfl)
            try simp only [Act.put, List.setIfInBounds_toArray, List.set_cons_zero, List.set_cons_succ]
            refine wpAnyH_ready (rs := [6]) (by kernel_rfl) (by simp) ?_
            refine AllReadyH.cons (i := 6) (o := ⟨none, Op.store 4 (Operand.tmp 48) (Operand.tmp 47), 0, _, _, none⟩) rfl (fun K hK => ?_) AllReadyH.nil
            obtain ⟨g9, eg, hg9, ⟨y, hy9⟩, hf9, hst9⟩ := (unhide HST).w2 hjb x
            cases eg
            have HST := hide hst9
            have HP := hide ((unhide HP).far (c := g2) (o := j) (x := .bool x) (by omega) (by omega) hbw (unhide HCO))
            clear hst9
            go_simp
            refine hK.out _ _ ⟨(unhide HP).2.2.2.1.2.1, hide trivial⟩ (fun hHeld => ?_)
            clear hK K hHeld
            try simp only [Act.put, List.setIfInBounds_toArray, List.set_cons_zero, List.set_cons_succ]
            refine wpAnyH_done (by kernel_rfl) ?_ _
            have HN := hide (show InN n1 n2 n3 is (bs.set j x) js0 from ⟨(unhide HN).1, by rw [List.length_set]; exact (unhide HN).2.1, (unhide HN).2.2⟩)
            clear s1 hy9 hf9
            go_wp2
            go_roundw
            case rel => exact ⟨j + 1, bs.set j x, by go_num, by omega, unhide HN, unhide HST, unhide HP⟩
            case measure => simp [intOf]; omega
          · have hltI : ¬ (j : Int) < (n2 : Int) := by omega
            go_upto_region 10 with fail
            clear s1 hltI hlt hj
            generalize wr = wo2 at HST HP ⊢
            have s2 := (unhide HP).2.2.2.1.2.2.1
            have E0 := (unhide HP).2.1.1
            go_wp2
            clear s2 E0
            go_loopw [10] (fun i wr => ∃ (j : Nat) (js : List (List Int)), i = .int .i64 j ∧ j ≤ n3 ∧ InN n1 n2 n3 is bs js ∧ StW wr (w.heap.size + 3) B1 q oa ob oc cc gs is bs js ∧ InQ w b a len cap q (.slice a1 vs.length c1) (.slice a2 fs.length c2) (.slice a3 rs.length c3) (.bool false) (.slice e1 xs.length d1) (.slice e2 ys.length d2) (.slice oa n1 ca) (.slice ob n2 cb) (.slice oc n3 cc) wr) (fun i _ => n3 - (intOf i).toNat)
            case atStart => exact ⟨0, _, rfl, Nat.zero_le _, unhide HN, unhide HST, unhide HP⟩
            case round =>
              clear HP HST HN
              obtain ⟨j, js, rfl, hj, hN, hst, hp⟩ := hrel
              have HN := hide hN
              have HST := hide hst
              have HP := hide hp
              clear hN hst hp
              have s2 := (unhide HP).2.2.2.1.2.2.1
              have E0 := (unhide HP).2.1.1
              by_cases hlt : j < n3
              · have hltI : (j : Int) < (n3 : Int) := by omega
                have t0 := (unhide HP).2.2.2.1.1
                have t1 := (unhide HP).2.2.2.1.2.1
                have r0 : wr.cell? ⟨w.heap.size + 1 + 1, 0, none⟩ = _ := (unhide HP).2.2.1.1
                have r1 : wr.cell? ⟨w.heap.size + 1 + 1, 1, none⟩ = _ := (unhide HP).2.2.1.2.1
                have r2 : wr.cell? ⟨w.heap.size + 1 + 1, 2, none⟩ = _ := (unhide HP).2.2.1.2.2.1
                have f0 : wr.frozen? ⟨w.heap.size + 1 + 1, 0, none⟩ = _ := (unhide HP).2.2.1.2.2.2 0
                have f1 : wr.frozen? ⟨w.heap.size + 1 + 1, 1, none⟩ = _ := (unhide HP).2.2.1.2.2.2 1
                have f2 : wr.frozen? ⟨w.heap.size + 1 + 1, 2, none⟩ = _ := (unhide HP).2.2.1.2.2.2 2
                have hN := unhide HN
                have hsw := (((unhide HST).far (c := w.heap.size + 1 + 1) (o := 0) (x := .slice oa n1 ca) (.inl (by omega))).far (c := w.heap.size + 1 + 1) (o := 1) (x := .slice ob n2 cb) (.inl (by omega))).far (c := w.heap.size + 1 + 1) (o := 2) (x := .slice oc n3 cc) (.inl (by omega))
                have hbel := (((unhide HP).2.2.2.2.set (c := w.heap.size + 1 + 1) (o := 0) (by omega) hbw (unhide HCO) (.slice oa n1 ca)).set (c := w.heap.size + 1 + 1) (o := 1) (by omega) hbw (unhide HCO) (.slice ob n2 cb)).set (c := w.heap.size + 1 + 1) (o := 2) (by omega) hbw (unhide HCO) (.slice oc n3 cc)
                have HSW := hide hsw
                have HBL := hide hbel
                clear hsw hbel
                go_wp2
                refine bodyPost_ret (v := .agg #[.slice oa n1 ca, .slice ob n2 cb, .slice oc n3 cc]) (by simp [results, Tryd.results31, go_sem, r0, r1, r2]) rfl ⟨oa, ob, oc, ca, cb, cc, B1, q, n1, n2, n3, gs, is, bs, js, by rw [hN.1, hN.2.1, hN.2.2.1], ?_, hN, ⟨by omega, by omega, by omega⟩, unhide HBL⟩
                obtain ⟨p1, p2, p3, p4, p5, p6⟩ := unhide HSW
                refine ⟨?_, ?_, p3, by omega, p5, p6⟩
                · rcases p1 with x | ⟨g, e, k1, k2, k3⟩
                  · exact .inl x
                  · exact .inr ⟨g, e, ⟨by omega, k1.2⟩, k2, k3⟩
                · rcases p2 with x | ⟨g, e, k1, k2⟩
                  · exact .inl x
                  · exact .inr ⟨g, e, ⟨by omega, k1.2⟩, k2⟩
              · have hltI : ¬ (j : Int) < (n3 : Int) := by omega
                have t0 := (unhide HP).2.2.2.1.1
                have t1 := (unhide HP).2.2.2.1.2.1
                have r0 : wr.cell? ⟨w.heap.size + 1 + 1, 0, none⟩ = _ := (unhide HP).2.2.1.1
                have r1 : wr.cell? ⟨w.heap.size + 1 + 1, 1, none⟩ = _ := (unhide HP).2.2.1.2.1
                have r2 : wr.cell? ⟨w.heap.size + 1 + 1, 2, none⟩ = _ := (unhide HP).2.2.1.2.2.1
                have f0 : wr.frozen? ⟨w.heap.size + 1 + 1, 0, none⟩ = _ := (unhide HP).2.2.1.2.2.2 0
                have f1 : wr.frozen? ⟨w.heap.size + 1 + 1, 1, none⟩ = _ := (unhide HP).2.2.1.2.2.2 1
                have f2 : wr.frozen? ⟨w.heap.size + 1 + 1, 2, none⟩ = _ := (unhide HP).2.2.1.2.2.2 2
                have hN := unhide HN
                have hsw := (((unhide HST).far (c := w.heap.size + 1 + 1) (o := 0) (x := .slice oa n1 ca) (.inl (by omega))).far (c := w.heap.size + 1 + 1) (o := 1) (x := .slice ob n2 cb) (.inl (by omega))).far (c := w.heap.size + 1 + 1) (o := 2) (x := .slice oc n3 cc) (.inl (by omega))
                have hbel := (((unhide HP).2.2.2.2.set (c := w.heap.size + 1 + 1) (o := 0) (by omega) hbw (unhide HCO) (.slice oa n1 ca)).set (c := w.heap.size + 1 + 1) (o := 1) (by omega) hbw (unhide HCO) (.slice ob n2 cb)).set (c := w.heap.size + 1 + 1) (o := 2) (by omega) hbw (unhide HCO) (.slice oc n3 cc)
                have HSW := hide hsw
                have HBL := hide hbel
                clear hsw hbel
                go_wp2
                refine bodyPost_ret (v := .agg #[.slice oa n1 ca, .slice ob n2 cb, .slice oc n3 cc]) (by simp [results, Tryd.results31, go_sem, r0, r1, r2]) rfl ⟨oa, ob, oc, ca, cb, cc, B1, q, n1, n2, n3, gs, is, bs, js, by rw [hN.1, hN.2.1, hN.2.2.1], ?_, hN, ⟨by omega, by omega, by omega⟩, unhide HBL⟩
                obtain ⟨p1, p2, p3, p4, p5, p6⟩ := unhide HSW
                refine ⟨?_, ?_, p3, by omega, p5, p6⟩
                · rcases p1 with x | ⟨g, e, k1, k2, k3⟩
                  · exact .inl x
                  · exact .inr ⟨g, e, ⟨by omega, k1.2⟩, k2, k3⟩
                · rcases p2 with x | ⟨g, e, k1, k2⟩
                  · exact .inl x
                  · exact .inr ⟨g, e, ⟨by omega, k1.2⟩, k2⟩
      · have hltI : ¬ (j : Int) < (n1 : Int) := by omega
        go_upto_region 6 with fail
        clear s0 E0 hltI hlt hj
        go_upto_region 6 with fail
        generalize wr = wo at HST HP ⊢
        have s1 := (unhide HP).2.2.2.1.2.1
        go_wp2
        clear s1
        go_loopw [9] (fun i wr => ∃ (j : Nat) (bs : List Bool), i = .int .i64 j ∧ j ≤ n2 ∧ InN n1 n2 n3 is bs js0 ∧ StW wr (w.heap.size + 3) B1 q oa ob oc cc gs is bs js0 ∧ InQ w b a len cap q (.slice a1 vs.length c1) (.slice a2 fs.length c2) (.slice a3 rs.length c3) (.bool false) (.slice e1 xs.length d1) (.slice e2 ys.length d2) (.slice oa n1 ca) (.slice ob n2 cb) (.slice oc n3 cc) wr) (fun i _ => n2 - (intOf i).toNat)
        case atStart => exact ⟨0, _, rfl, Nat.zero_le _, unhide HN, unhide HST, unhide HP⟩
        case round =>
          clear HP HST HN
          obtain ⟨j, bs, rfl, hj, hN, hst, hp⟩ := hrel
          have HN := hide hN
          have HST := hide hst
          have HP := hide hp
          clear hN hst hp
          have s1 := (unhide HP).2.2.2.1.2.1
          by_cases hlt : j < n2
          · have hltI : (j : Int) < (n2 : Int) := by omega
            have hjb : j < bs.length := by have := (unhide HN).2.1; omega
            obtain ⟨g2, rfl, hg2, _⟩ := (unhide HST).w2 hjb true
            go_upto_region 9 with fail
            have HP := hide ((unhide HP).drew)
            have HST := hide ((unhide HST).call (Below.refl _ _).drew)
            obtain ⟨wz, hwz⟩ : ∃ x, x = wr.drew := ⟨_, rfl⟩
            rw [← hwz] at HP HST
            refine wp_region_held_drew (S := (fun u9 => u9.cell? ⟨q, 1, none⟩ = some (.slice (some ⟨g2, 0, none⟩) n2 cb) ∧ Hid True)) (by kernel_rfl) (by exact ⟨s1, hide trivial⟩) (fun hHeld => ?_)
            rw [← hwz] at hHeld ⊢
            clear hwz
            refine wpAnyH_take (i := 0) (oi := ⟨some 43, Op.fieldAddr 37 (Operand.tmp 7) 1, 0, _, _, none⟩) (v := ?_) rfl (by kernel_rfl) (by kernel_rfl) (by kernel_rfl) (fun _ _ _ h => h) (Or.inl ⟨by rfl, ?_⟩) (by assumption) ?_
            rotate_left
            · (intro w9 hSw; (try dsimp only at hSw); go_simp; try with_reducible rfl)
            try simp only [Act.put, List.setIfInBounds_toArray, List.set_cons_zero, List.set_cons_succ]
            refine wpAnyH_take (i := 1) (oi := ⟨some 44, Op.load 34 (Operand.tmp 43), 34, _, _, none⟩) (v := ?_) rfl (by kernel_rfl) (by kernel_rfl) (by kernel_rfl) (fun _ _ _ h => h) (Or.inl ⟨by rfl, ?_⟩) (by assumption) ?_
            rotate_left
            · (intro w9 hSw; (try dsimp only at hSw); go_simp; try with_reducible rfl)
            try simp only [Act.put, List.setIfInBounds_toArray, List.set_cons_zero, List.set_cons_succ]
            refine wpAnyH_take (i := 2) (oi := ⟨some 45, Op.move (Operand.tmp 9), 3, _, _, none⟩) (v := ?_) rfl (by kernel_rfl) (by kernel_rfl) (by kernel_rfl) (fun _ _ _ h => h) (Or.inl ⟨by rfl, ?_⟩) (by assumption) ?_
            rotate_left
            · (intro w9 hSw; (try dsimp only at hSw); go_simp; try with_reducible rfl)
            try simp only [Act.put, List.setIfInBounds_toArray, List.set_cons_zero, List.set_cons_succ]
            refine wpAnyH_take (i := 3) (oi := ⟨some 46, Op.move (Operand.tmp 0), 60, _, _, none⟩) (v := ?_) rfl (by kernel_rfl) (by kernel_rfl) (by kernel_rfl) (fun _ _ _ h => h) (Or.inl ⟨by rfl, ?_⟩) (by assumption) ?_
            rotate_left
            · (intro w9 hSw; (try dsimp only at hSw); go_simp; try with_reducible rfl)
            try simp only [Act.put, List.setIfInBounds_toArray, List.set_cons_zero, List.set_cons_succ]
            refine wpAnyH_ready (rs := [4]) (by kernel_rfl) (by simp) ?_
            refine AllReadyH.cons (i := 4) (o := ⟨some 47, Op.call { callee := Callee.value (Operand.func 32), args := #[Operand.tmp 46, Operand.const (Value.int IntKind.i64 2)], argTypes := #[60, 3] }, 4, _, _, none⟩) rfl (fun K hK => ?_) AllReadyH.nil
            go_simp
            refine (once_c b a len cap 2 (by decide) (by decide) _ (unhide HP).2.2.2.2.1).mono ?_
            rintro e v1 ⟨x, rfl, hl⟩
            have HP := hide ((unhide HP).kp hl hbw (by omega))
            have HST := hide ((unhide HST).kp hl.2 (by omega))
            have hq := (show (fun u9 => u9.cell? ⟨q, 1, none⟩ = some (.slice (some ⟨g2, 0, none⟩) n2 cb) ∧ Hid True) v1 from ⟨(World.cell?_of_block (w := wz) (hl.2.block _ (World.block_lt_of_cell? wz _ hHeld.1) (by first | (show q ≠ b; omega) | (show w.heap.size + 1 ≠ b; omega) | exact hneb | (show b3 ≠ b; omega)))).trans hHeld.1, hide trivial⟩)
            clear hl hHeld
            refine hK.out _ _ hq (fun hHeld => ?_)
            clear hK K hq
            try simp only [Act.put, List.setIfInBounds_toArray, List.set_cons_zero, List.set_cons_succ]
            refine wpAnyH_take (i := 5) (oi := ⟨some 48, Op.indexAddr 34 (Operand.tmp 44) (Operand.tmp 45), 0, _, _, none⟩) (v := ?_) rfl (by kernel_rfl) (by kernel_rfl) (by kernel_rfl) (fun _ _ _ h => h) (Or.inl ⟨by rfl, ?_⟩) (by assumption) ?_
            rotate_left
            · (intro w9 hSw; (try dsimp only at hSw); go_simp; try with_reducible rfl)
            try simp only [Act.put, List.setIfInBounds_toArray, List.set_cons_zero, List.set_cons_succ]
            refine wpAnyH_ready (rs := [6]) (by kernel_rfl) (by simp) ?_
            refine AllReadyH.cons (i := 6) (o := ⟨none, Op.store 4 (Operand.tmp 48) (Operand.tmp 47), 0, _, _, none⟩) rfl (fun K hK => ?_) AllReadyH.nil
            obtain ⟨g9, eg, hg9, ⟨y, hy9⟩, hf9, hst9⟩ := (unhide HST).w2 hjb x
            cases eg
            have HST := hide hst9
            have HP := hide ((unhide HP).far (c := g2) (o := j) (x := .bool x) (by omega) (by omega) hbw (unhide HCO))
            clear hst9
            go_simp
            refine hK.out _ _ ⟨(unhide HP).2.2.2.1.2.1, hide trivial⟩ (fun hHeld => ?_)
            clear hK K hHeld
            try simp only [Act.put, List.setIfInBounds_toArray, List.set_cons_zero, List.set_cons_succ]
            refine wpAnyH_done (by kernel_rfl) ?_ _
            have HN := hide (show InN n1 n2 n3 is (bs.set j x) js0 from ⟨(unhide HN).1, by rw [List.length_set]; exact (unhide HN).2.1, (unhide HN).2.2⟩)
            clear s1 hy9 hf9
            go_wp2
            go_roundw
            case rel => exact ⟨j + 1, bs.set j x, by go_num, by omega, unhide HN, unhide HST, unhide HP⟩
            case measure => simp [intOf]; omega
          · have hltI : ¬ (j : Int) < (n2 : Int) := by omega
            go_upto_region 10 with fail
            clear s1 hltI hlt hj
            generalize wr = wo2 at HST HP ⊢
            have s2 := (unhide HP).2.2.2.1.2.2.1
            have E0 := (unhide HP).2.1.1
            go_wp2
            clear s2 E0
            go_loopw [10] (fun i wr => ∃ (j : Nat) (js : List (List Int)), i = .int .i64 j ∧ j ≤ n3 ∧ InN n1 n2 n3 is bs js ∧ StW wr (w.heap.size + 3) B1 q oa ob oc cc gs is bs js ∧ InQ w b a len cap q (.slice a1 vs.length c1) (.slice a2 fs.length c2) (.slice a3 rs.length c3) (.bool false) (.slice e1 xs.length d1) (.slice e2 ys.length d2) (.slice oa n1 ca) (.slice ob n2 cb) (.slice oc n3 cc) wr) (fun i _ => n3 - (intOf i).toNat)
            case atStart => exact ⟨0, _, rfl, Nat.zero_le _, unhide HN, unhide HST, unhide HP⟩
            case round =>
              clear HP HST HN
              obtain ⟨j, js, rfl, hj, hN, hst, hp⟩ := hrel
              have HN := hide hN
              have HST := hide hst
              have HP := hide hp
              clear hN hst hp
              have s2 := (unhide HP).2.2.2.1.2.2.1
              have E0 := (unhide HP).2.1.1
              by_cases hlt : j < n3
              · have hltI : (j : Int) < (n3 : Int) := by omega
                have t0 := (unhide HP).2.2.2.1.1
                have t1 := (unhide HP).2.2.2.1.2.1
                have r0 : wr.cell? ⟨w.heap.size + 1 + 1, 0, none⟩ = _ := (unhide HP).2.2.1.1
                have r1 : wr.cell? ⟨w.heap.size + 1 + 1, 1, none⟩ = _ := (unhide HP).2.2.1.2.1
                have r2 : wr.cell? ⟨w.heap.size + 1 + 1, 2, none⟩ = _ := (unhide HP).2.2.1.2.2.1
                have f0 : wr.frozen? ⟨w.heap.size + 1 + 1, 0, none⟩ = _ := (unhide HP).2.2.1.2.2.2 0
                have f1 : wr.frozen? ⟨w.heap.size + 1 + 1, 1, none⟩ = _ := (unhide HP).2.2.1.2.2.2 1
                have f2 : wr.frozen? ⟨w.heap.size + 1 + 1, 2, none⟩ = _ := (unhide HP).2.2.1.2.2.2 2
                have hN := unhide HN
                have hsw := (((unhide HST).far (c := w.heap.size + 1 + 1) (o := 0) (x := .slice oa n1 ca) (.inl (by omega))).far (c := w.heap.size + 1 + 1) (o := 1) (x := .slice ob n2 cb) (.inl (by omega))).far (c := w.heap.size + 1 + 1) (o := 2) (x := .slice oc n3 cc) (.inl (by omega))
                have hbel := (((unhide HP).2.2.2.2.set (c := w.heap.size + 1 + 1) (o := 0) (by omega) hbw (unhide HCO) (.slice oa n1 ca)).set (c := w.heap.size + 1 + 1) (o := 1) (by omega) hbw (unhide HCO) (.slice ob n2 cb)).set (c := w.heap.size + 1 + 1) (o := 2) (by omega) hbw (unhide HCO) (.slice oc n3 cc)
                have HSW := hide hsw
                have HBL := hide hbel
                clear hsw hbel
                go_wp2
                refine bodyPost_ret (v := .agg #[.slice oa n1 ca, .slice ob n2 cb, .slice oc n3 cc]) (by simp [results, Tryd.results31, go_sem, r0, r1, r2]) rfl ⟨oa, ob, oc, ca, cb, cc, B1, q, n1, n2, n3, gs, is, bs, js, by rw [hN.1, hN.2.1, hN.2.2.1], ?_, hN, ⟨by omega, by omega, by omega⟩, unhide HBL⟩
                obtain ⟨p1, p2, p3, p4, p5, p6⟩ := unhide HSW
                refine ⟨?_, ?_, p3, by omega, p5, p6⟩
                · rcases p1 with x | ⟨g, e, k1, k2, k3⟩
                  · exact .inl x
                  · exact .inr ⟨g, e, ⟨by omega, k1.2⟩, k2, k3⟩
                · rcases p2 with x | ⟨g, e, k1, k2⟩
                  · exact .inl x
                  · exact .inr ⟨g, e, ⟨by omega, k1.2⟩, k2⟩
              · have hltI : ¬ (j : Int) < (n3 : Int) := by omega
                have t0 := (unhide HP).2.2.2.1.1
                have t1 := (unhide HP).2.2.2.1.2.1
                have r0 : wr.cell? ⟨w.heap.size + 1 + 1, 0, none⟩ = _ := (unhide HP).2.2.1.1
                have r1 : wr.cell? ⟨w.heap.size + 1 + 1, 1, none⟩ = _ := (unhide HP).2.2.1.2.1
                have r2 : wr.cell? ⟨w.heap.size + 1 + 1, 2, none⟩ = _ := (unhide HP).2.2.1.2.2.1
                have f0 : wr.frozen? ⟨w.heap.size + 1 + 1, 0, none⟩ = _ := (unhide HP).2.2.1.2.2.2 0
                have f1 : wr.frozen? ⟨w.heap.size + 1 + 1, 1, none⟩ = _ := (unhide HP).2.2.1.2.2.2 1
                have f2 : wr.frozen? ⟨w.heap.size + 1 + 1, 2, none⟩ = _ := (unhide HP).2.2.1.2.2.2 2
                have hN := unhide HN
                have hsw := (((unhide HST).far (c := w.heap.size + 1 + 1) (o := 0) (x := .slice oa n1 ca) (.inl (by omega))).far (c := w.heap.size + 1 + 1) (o := 1) (x := .slice ob n2 cb) (.inl (by omega))).far (c := w.heap.size + 1 + 1) (o := 2) (x := .slice oc n3 cc) (.inl (by omega))
                have hbel := (((unhide HP).2.2.2.2.set (c := w.heap.size + 1 + 1) (o := 0) (by omega) hbw (unhide HCO) (.slice oa n1 ca)).set (c := w.heap.size + 1 + 1) (o := 1) (by omega) hbw (unhide HCO) (.slice ob n2 cb)).set (c := w.heap.size + 1 + 1) (o := 2) (by omega) hbw (unhide HCO) (.slice oc n3 cc)
                have HSW := hide hsw
                have HBL := hide hbel
                clear hsw hbel
                go_wp2
                refine bodyPost_ret (v := .agg #[.slice oa n1 ca, .slice ob n2 cb, .slice oc n3 cc]) (by simp [results, Tryd.results31, go_sem, r0, r1, r2]) rfl ⟨oa, ob, oc, ca, cb, cc, B1, q, n1, n2, n3, gs, is, bs, js, by rw [hN.1, hN.2.1, hN.2.2.1], ?_, hN, ⟨by omega, by omega, by omega⟩, unhide HBL⟩
                obtain ⟨p1, p2, p3, p4, p5, p6⟩ := unhide HSW
                refine ⟨?_, ?_, p3, by omega, p5, p6⟩
                · rcases p1 with x | ⟨g, e, k1, k2, k3⟩
                  · exact .inl x
                  · exact .inr ⟨g, e, ⟨by omega, k1.2⟩, k2, k3⟩
                · rcases p2 with x | ⟨g, e, k1, k2⟩
                  · exact .inl x
                  · exact .inr ⟨g, e, ⟨by omega, k1.2⟩, k2⟩
  · skip
    go_wp2
    clear s0 E0
    go_loopw [8] (fun i wr => ∃ (j : Nat) (is : List Int), i = .int .i64 j ∧ j ≤ n1 ∧ InN n1 n2 n3 is bs0 js0 ∧ StW wr (w.heap.size + 3) B1 q oa ob oc cc gs is bs0 js0 ∧ InQ w b a len cap q (.slice a1 vs.length c1) (.slice a2 fs.length c2) (.slice a3 rs.length c3) (.bool true) (.slice e1 xs.length d1) (.slice e2 ys.length d2) (.slice oa n1 ca) (.slice ob n2 cb) (.slice oc n3 cc) wr) (fun i _ => n1 - (intOf i).toNat)
    case atStart => exact ⟨0, _, rfl, Nat.zero_le _, unhide HN0, unhide HST, unhide HP⟩
    case round =>
      clear HP HST HN0
      obtain ⟨j, is, rfl, hj, hN, hst, hp⟩ := hrel
      have HN := hide hN
      have HST := hide hst
      have HP := hide hp
      clear hN hst hp
      have s0 := (unhide HP).2.2.2.1.1
      have E0 := (unhide HP).2.1.1
      by_cases hlt : j < n1
      · have hltI : (j : Int) < (n1 : Int) := by omega
        have hjx : j < xs.length := by have := ((unhide HLL) (by simp)).1; omega
        have hji : j < is.length := by have := (unhide HN).1; omega
        rcases (unhide HX).2 with h0 | ⟨rb, ro, rfl, hcc⟩
        · omega
        have c0w := hcc j hjx
        clear hcc
        generalize xs[j] = p at c0w
        obtain ⟨l, g⟩ := p
        simp only at c0w
        have hneb : rb ≠ b := (unhide HNE).1 _ rfl
        have hrbw : rb < w.heap.size := World.block_lt_of_cell? w _ c0w.1
        obtain ⟨g1, rfl, hg1, _⟩ := (unhide HST).w1 hji 0
        go_upto_region 5 with fail
        have E1 := (unhide HP).2.1.2.1
        have c0 := (World.cell?_of_block (w := w) ((unhide HP).2.2.2.2.2.block rb hrbw hneb)).trans c0w.1
        have c1' := (World.cell?_of_block (w := w) ((unhide HP).2.2.2.2.2.block rb hrbw hneb)).trans c0w.2
        clear c0w
        have HP := hide ((unhide HP).drew)
        have HST := hide ((unhide HST).call (Below.refl _ _).drew)
        obtain ⟨wz, hwz⟩ : ∃ x, x = wr.drew := ⟨_, rfl⟩
        rw [← hwz] at HP HST
        refine wp_region_held_drew (S := (fun u9 => u9.cell? ⟨q, 0, none⟩ = some (.slice (some ⟨g1, 0, none⟩) n1 ca) ∧ u9.cell? ⟨w.heap.size + 1, 1, none⟩ = some (.slice (some ⟨rb, ro, none⟩) xs.length d1) ∧ u9.cell? ⟨rb, ro + j * 2, none⟩ = some (.int .i64 l) ∧ u9.cell? ⟨rb, ro + j * 2 + 1, none⟩ = some (.int .i64 g))) (by kernel_rfl) (by exact ⟨s0, E1, c0, c1'⟩) (fun hHeld => ?_)
        rw [← hwz] at hHeld ⊢
        clear hwz
        refine wpAnyH_take (i := 0) (oi := ⟨some 25, Op.fieldAddr 37 (Operand.tmp 7) 0, 0, _, _, none⟩) (v := ?_) rfl (by kernel_rfl) (by kernel_rfl) (by kernel_rfl) (fun _ _ _ h => h) (Or.inl ⟨by rfl, ?_⟩) (by assumption) ?_
        rotate_left
        · (intro w9 hSw; (try dsimp only at hSw); go_simp; try with_reducible rfl)
        try simp only [Act.put, List.setIfInBounds_toArray, List.set_cons_zero, List.set_cons_succ]
        refine wpAnyH_take (i := 1) (oi := ⟨some 26, Op.load 33 (Operand.tmp 25), 33, _, _, none⟩) (v := ?_) rfl (by kernel_rfl) (by kernel_rfl) (by kernel_rfl) (fun _ _ _ h => h) (Or.inl ⟨by rfl, ?_⟩) (by assumption) ?_
        rotate_left
        · (intro w9 hSw; (try dsimp only at hSw); go_simp; try with_reducible rfl)
        try simp only [Act.put, List.setIfInBounds_toArray, List.set_cons_zero, List.set_cons_succ]
        refine wpAnyH_take (i := 2) (oi := ⟨some 27, Op.move (Operand.tmp 8), 3, _, _, none⟩) (v := ?_) rfl (by kernel_rfl) (by kernel_rfl) (by kernel_rfl) (fun _ _ _ h => h) (Or.inl ⟨by rfl, ?_⟩) (by assumption) ?_
        rotate_left
        · (intro w9 hSw; (try dsimp only at hSw); go_simp; try with_reducible rfl)
        try simp only [Act.put, List.setIfInBounds_toArray, List.set_cons_zero, List.set_cons_succ]
        refine wpAnyH_take (i := 3) (oi := ⟨some 28, Op.move (Operand.tmp 0), 60, _, _, none⟩) (v := ?_) rfl (by kernel_rfl) (by kernel_rfl) (by kernel_rfl) (fun _ _ _ h => h) (Or.inl ⟨by rfl, ?_⟩) (by assumption) ?_
        rotate_left
        · (intro w9 hSw; (try dsimp only at hSw); go_simp; try with_reducible rfl)
        try simp only [Act.put, List.setIfInBounds_toArray, List.set_cons_zero, List.set_cons_succ]
        refine wpAnyH_take (i := 4) (oi := ⟨some 29, Op.fieldAddr 30 (Operand.tmp 5) 1, 0, _, _, none⟩) (v := ?_) rfl (by kernel_rfl) (by kernel_rfl) (by kernel_rfl) (fun _ _ _ h => h) (Or.inl ⟨by rfl, ?_⟩) (by assumption) ?_
        rotate_left
        · (intro w9 hSw; (try dsimp only at hSw); go_simp; try with_reducible rfl)
        try simp only [Act.put, List.setIfInBounds_toArray, List.set_cons_zero, List.set_cons_succ]
        refine wpAnyH_take (i := 5) (oi := ⟨some 30, Op.load 28 (Operand.tmp 29), 28, _, _, none⟩) (v := ?_) rfl (by kernel_rfl) (by kernel_rfl) (by kernel_rfl) (fun _ _ _ h => h) (Or.inl ⟨by rfl, ?_⟩) (by assumption) ?_
        rotate_left
        · (intro w9 hSw; (try dsimp only at hSw); go_simp; try with_reducible rfl)
        try simp only [Act.put, List.setIfInBounds_toArray, List.set_cons_zero, List.set_cons_succ]
        refine wpAnyH_take (i := 6) (oi := ⟨some 31, Op.move (Operand.tmp 8), 3, _, _, none⟩) (v := ?_) rfl (by kernel_rfl) (by kernel_rfl) (by kernel_rfl) (fun _ _ _ h => h) (Or.inl ⟨by rfl, ?_⟩) (by assumption) ?_
        rotate_left
        · (intro w9 hSw; (try dsimp only at hSw); go_simp; try with_reducible rfl)
        try simp only [Act.put, List.setIfInBounds_toArray, List.set_cons_zero, List.set_cons_succ]
        refine wpAnyH_take (i := 7) (oi := ⟨some 32, Op.indexAddr 28 (Operand.tmp 30) (Operand.tmp 31), 0, _, _, none⟩) (v := ?_) rfl (by kernel_rfl) (by kernel_rfl) (by kernel_rfl) (fun _ _ _ h => h) (Or.inl ⟨by rfl, ?_⟩) (by assumption) ?_
        rotate_left
        · (intro w9 hSw; (try dsimp only at hSw); go_simp; try with_reducible rfl)
        try simp only [Act.put, List.setIfInBounds_toArray, List.set_cons_zero, List.set_cons_succ]
        refine wpAnyH_take (i := 8) (oi := ⟨some 33, Op.load 47 (Operand.tmp 32), 47, _, _, none⟩) (v := ?_) rfl (by kernel_rfl) (by kernel_rfl) (by kernel_rfl) (fun _ _ _ h => h) (Or.inl ⟨by rfl, ?_⟩) (by assumption) ?_
        rotate_left
        · (intro w9 hSw; (try dsimp only at hSw); go_simp; try with_reducible rfl)
        try simp only [Act.put, List.setIfInBounds_toArray, List.set_cons_zero, List.set_cons_succ]
        refine wpAnyH_ready (rs := [9]) (by kernel_rfl) (by simp) ?_
        refine AllReadyH.cons (i := 9) (o := ⟨some 34, Op.call { callee := Callee.value (Operand.func 62), args := #[Operand.tmp 28, Operand.tmp 33], argTypes := #[60, 47] }, 2, _, _, none⟩) rfl (fun K hK => ?_) AllReadyH.nil
        go_simp
        refine (rwithin_c b a len cap l g _ (unhide HP).2.2.2.2.1).mono ?_
        rintro e v1 ⟨⟨n, rfl⟩, hl⟩
        have HP := hide ((unhide HP).kp hl hbw (by omega))
        have HST := hide ((unhide HST).kp hl.2 (by omega))
        have hq := (show (fun u9 => u9.cell? ⟨q, 0, none⟩ = some (.slice (some ⟨g1, 0, none⟩) n1 ca) ∧ u9.cell? ⟨w.heap.size + 1, 1, none⟩ = some (.slice (some ⟨rb, ro, none⟩) xs.length d1) ∧ u9.cell? ⟨rb, ro + j * 2, none⟩ = some (.int .i64 l) ∧ u9.cell? ⟨rb, ro + j * 2 + 1, none⟩ = some (.int .i64 g)) v1 from ⟨(World.cell?_of_block (w := wz) (hl.2.block _ (World.block_lt_of_cell? wz _ hHeld.1) (by first | (show q ≠ b; omega) | (show w.heap.size + 1 ≠ b; omega) | exact hneb | (show b3 ≠ b; omega)))).trans hHeld.1, (World.cell?_of_block (w := wz) (hl.2.block _ (World.block_lt_of_cell? wz _ hHeld.2.1) (by first | (show q ≠ b; omega) | (show w.heap.size + 1 ≠ b; omega) | exact hneb | (show b3 ≠ b; omega)))).trans hHeld.2.1, (World.cell?_of_block (w := wz) (hl.2.block _ (World.block_lt_of_cell? wz _ hHeld.2.2.1) (by first | (show q ≠ b; omega) | (show w.heap.size + 1 ≠ b; omega) | exact hneb | (show b3 ≠ b; omega)))).trans hHeld.2.2.1, (World.cell?_of_block (w := wz) (hl.2.block _ (World.block_lt_of_cell? wz _ hHeld.2.2.2) (by first | (show q ≠ b; omega) | (show w.heap.size + 1 ≠ b; omega) | exact hneb | (show b3 ≠ b; omega)))).trans hHeld.2.2.2⟩)
        clear hl hHeld
        refine hK.out _ _ hq (fun hHeld => ?_)
        clear hK K hq
        try simp only [Act.put, List.setIfInBounds_toArray, List.set_cons_zero, List.set_cons_succ]
        refine wpAnyH_take (i := 10) (oi := ⟨some 35, Op.indexAddr 33 (Operand.tmp 26) (Operand.tmp 27), 0, _, _, none⟩) (v := ?_) rfl (by kernel_rfl) (by kernel_rfl) (by kernel_rfl) (fun _ _ _ h => h) (Or.inl ⟨by rfl, ?_⟩) (by assumption) ?_
        rotate_left
        · (intro w9 hSw; (try dsimp only at hSw); go_simp; try with_reducible rfl)
        try simp only [Act.put, List.setIfInBounds_toArray, List.set_cons_zero, List.set_cons_succ]
        refine wpAnyH_ready (rs := [11]) (by kernel_rfl) (by simp) ?_
        refine AllReadyH.cons (i := 11) (o := ⟨none, Op.store 2 (Operand.tmp 35) (Operand.tmp 34), 0, _, _, none⟩) rfl (fun K hK => ?_) AllReadyH.nil
        obtain ⟨g9, eg, hg9, ⟨y, hy9⟩, hf9, hst9⟩ := (unhide HST).w1 hji n
        cases eg
        have HST := hide hst9
        have HP := hide ((unhide HP).far (c := g1) (o := j) (x := .int .i64 n) (by omega) (by omega) hbw (unhide HCO))
        clear hst9
        go_simp
        refine hK.out _ _ ⟨(unhide HP).2.2.2.1.1, (unhide HP).2.1.2.1, (World.cell?_setCell_other _ _ _ _ (fun e => by have := congrArg Addr.block e; simp at this; omega)).trans hHeld.2.2.1, (World.cell?_setCell_other _ _ _ _ (fun e => by have := congrArg Addr.block e; simp at this; omega)).trans hHeld.2.2.2⟩ (fun hHeld => ?_)
        clear hK K hHeld
        try simp only [Act.put, List.setIfInBounds_toArray, List.set_cons_zero, List.set_cons_succ]
        refine wpAnyH_done (by kernel_rfl) ?_ _
        have HN := hide (show InN n1 n2 n3 (is.set j n) bs0 js0 from ⟨by rw [List.length_set]; exact (unhide HN).1, (unhide HN).2⟩)
        clear s0 E0 E1 c0 c1' hy9 hf9
        go_wp2
        go_roundw
        case rel => exact ⟨j + 1, is.set j n, by go_num, by omega, unhide HN, unhide HST, unhide HP⟩
        case measure => simp [intOf]; omega
      · have hltI : ¬ (j : Int) < (n1 : Int) := by omega
        go_upto_region 6 with fail
        clear s0 E0 hltI hlt hj
        go_upto_region 6 with fail
        generalize wr = wo at HST HP ⊢
        have s1 := (unhide HP).2.2.2.1.2.1
        go_wp2
        clear s1
        go_loopw [9] (fun i wr => ∃ (j : Nat) (bs : List Bool), i = .int .i64 j ∧ j ≤ n2 ∧ InN n1 n2 n3 is bs js0 ∧ StW wr (w.heap.size + 3) B1 q oa ob oc cc gs is bs js0 ∧ InQ w b a len cap q (.slice a1 vs.length c1) (.slice a2 fs.length c2) (.slice a3 rs.length c3) (.bool true) (.slice e1 xs.length d1) (.slice e2 ys.length d2) (.slice oa n1 ca) (.slice ob n2 cb) (.slice oc n3 cc) wr) (fun i _ => n2 - (intOf i).toNat)
        case atStart => exact ⟨0, _, rfl, Nat.zero_le _, unhide HN, unhide HST, unhide HP⟩
        case round =>
          clear HP HST HN
          obtain ⟨j, bs, rfl, hj, hN, hst, hp⟩ := hrel
          have HN := hide hN
          have HST := hide hst
          have HP := hide hp
          clear hN hst hp
          have s1 := (unhide HP).2.2.2.1.2.1
          by_cases hlt : j < n2
          · have hltI : (j : Int) < (n2 : Int) := by omega
            have hjb : j < bs.length := by have := (unhide HN).2.1; omega
            obtain ⟨g2, rfl, hg2, _⟩ := (unhide HST).w2 hjb true
            go_upto_region 9 with fail
            have HP := hide ((unhide HP).drew)
            have HST := hide ((unhide HST).call (Below.refl _ _).drew)
            obtain ⟨wz, hwz⟩ : ∃ x, x = wr.drew := ⟨_, rfl⟩
            rw [← hwz] at HP HST
            refine wp_region_held_drew (S := (fun u9 => u9.cell? ⟨q, 1, none⟩ = some (.slice (some ⟨g2, 0, none⟩) n2 cb) ∧ Hid True)) (by kernel_rfl) (by exact ⟨s1, hide trivial⟩) (fun hHeld => ?_)
            rw [← hwz] at hHeld ⊢
            clear hwz
            refine wpAnyH_take (i := 0) (oi := ⟨some 43, Op.fieldAddr 37 (Operand.tmp 7) 1, 0, _, _, none⟩) (v := ?_) rfl (by kernel_rfl) (by kernel_rfl) (by kernel_rfl) (fun _ _ _ h => h) (Or.inl ⟨by rfl, ?_⟩) (by assumption) ?_
            rotate_left
            · (intro w9 hSw; (try dsimp only at hSw); go_simp; try with_reducible rfl)
            try simp only [Act.put, List.setIfInBounds_toArray, List.set_cons_zero, List.set_cons_succ]
            refine wpAnyH_take (i := 1) (oi := ⟨some 44, Op.load 34 (Operand.tmp 43), 34, _, _, none⟩) (v := ?_) rfl (by kernel_rfl) (by kernel_rfl) (by kernel_rfl) (fun _ _ _ h => h) (Or.inl ⟨by rfl, ?_⟩) (by assumption) ?_
            rotate_left
            · (intro w9 hSw; (try dsimp only at hSw); go_simp; try with_reducible rfl)
            try simp only [Act.put, List.setIfInBounds_toArray, List.set_cons_zero, List.set_cons_succ]
            refine wpAnyH_take (i := 2) (oi := ⟨some 45, Op.move (Operand.tmp 9), 3, _, _, none⟩) (v := ?_) rfl (by kernel_rfl) (by kernel_rfl) (by kernel_rfl) (fun _ _ _ h => h) (Or.inl ⟨by rfl, ?_⟩) (by assumption) ?_
            rotate_left
            · (intro w9 hSw; (try dsimp only at hSw); go_simp; try with_reducible rfl)
            try simp only [Act.put, List.setIfInBounds_toArray, List.set_cons_zero, List.set_cons_succ]
            refine wpAnyH_take (i := 3) (oi := ⟨some 46, Op.move (Operand.tmp 0), 60, _, _, none⟩) (v := ?_) rfl (by kernel_rfl) (by kernel_rfl) (by kernel_rfl) (fun _ _ _ h => h) (Or.inl ⟨by rfl, ?_⟩) (by assumption) ?_
            rotate_left
            · (intro w9 hSw; (try dsimp only at hSw); go_simp; try with_reducible rfl)
            try simp only [Act.put, List.setIfInBounds_toArray, List.set_cons_zero, List.set_cons_succ]
            refine wpAnyH_ready (rs := [4]) (by kernel_rfl) (by simp) ?_
            refine AllReadyH.cons (i := 4) (o := ⟨some 47, Op.call { callee := Callee.value (Operand.func 32), args := #[Operand.tmp 46, Operand.const (Value.int IntKind.i64 2)], argTypes := #[60, 3] }, 4, _, _, none⟩) rfl (fun K hK => ?_) AllReadyH.nil
            go_simp
            refine (once_c b a len cap 2 (by decide) (by decide) _ (unhide HP).2.2.2.2.1).mono ?_
            rintro e v1 ⟨x, rfl, hl⟩
            have HP := hide ((unhide HP).kp hl hbw (by omega))
            have HST := hide ((unhide HST).kp hl.2 (by omega))
            have hq := (show (fun u9 => u9.cell? ⟨q, 1, none⟩ = some (.slice (some ⟨g2, 0, none⟩) n2 cb) ∧ Hid True) v1 from ⟨(World.cell?_of_block (w := wz) (hl.2.block _ (World.block_lt_of_cell? wz _ hHeld.1) (by first | (show q ≠ b; omega) | (show w.heap.size + 1 ≠ b; omega) | exact hneb | (show b3 ≠ b; omega)))).trans hHeld.1, hide trivial⟩)
            clear hl hHeld
            refine hK.out _ _ hq (fun hHeld => ?_)
            clear hK K hq
            try simp only [Act.put, List.setIfInBounds_toArray, List.set_cons_zero, List.set_cons_succ]
            refine wpAnyH_take (i := 5) (oi := ⟨some 48, Op.indexAddr 34 (Operand.tmp 44) (Operand.tmp 45), 0, _, _, none⟩) (v := ?_) rfl (by kernel_rfl) (by kernel_rfl) (by kernel_rfl) (fun _ _ _ h => h) (Or.inl ⟨by rfl, ?_⟩) (by assumption) ?_
            rotate_left
            · (intro w9 hSw; (try dsimp only at hSw); go_simp; try with_reducible rfl)
            try simp only [Act.put, List.setIfInBounds_toArray, List.set_cons_zero, List.set_cons_succ]
            refine wpAnyH_ready (rs := [6]) (by kernel_rfl) (by simp) ?_
            refine AllReadyH.cons (i := 6) (o := ⟨none, Op.store 4 (Operand.tmp 48) (Operand.tmp 47), 0, _, _, none⟩) rfl (fun K hK => ?_) AllReadyH.nil
            obtain ⟨g9, eg, hg9, ⟨y, hy9⟩, hf9, hst9⟩ := (unhide HST).w2 hjb x
            cases eg
            have HST := hide hst9
            have HP := hide ((unhide HP).far (c := g2) (o := j) (x := .bool x) (by omega) (by omega) hbw (unhide HCO))
            clear hst9
            go_simp
            refine hK.out _ _ ⟨(unhide HP).2.2.2.1.2.1, hide trivial⟩ (fun hHeld => ?_)
            clear hK K hHeld
            try simp only [Act.put, List.setIfInBounds_toArray, List.set_cons_zero, List.set_cons_succ]
            refine wpAnyH_done (by kernel_rfl) ?_ _
            have HN := hide (show InN n1 n2 n3 is (bs.set j x) js0 from ⟨(unhide HN).1, by rw [List.length_set]; exact (unhide HN).2.1, (unhide HN).2.2⟩)
            clear s1 hy9 hf9
            go_wp2
            go_roundw
            case rel => exact ⟨j + 1, bs.set j x, by go_num, by omega, unhide HN, unhide HST, unhide HP⟩
            case measure => simp [intOf]; omega
          · have hltI : ¬ (j : Int) < (n2 : Int) := by omega
            go_upto_region 10 with fail
            clear s1 hltI hlt hj
            generalize wr = wo2 at HST HP ⊢
            have s2 := (unhide HP).2.2.2.1.2.2.1
            have E0 := (unhide HP).2.1.1
            go_wp2
            clear s2 E0
            go_loopw [10] (fun i wr => ∃ (j : Nat) (js : List (List Int)), i = .int .i64 j ∧ j ≤ n3 ∧ InN n1 n2 n3 is bs js ∧ StW wr (w.heap.size + 3) B1 q oa ob oc cc gs is bs js ∧ InQ w b a len cap q (.slice a1 vs.length c1) (.slice a2 fs.length c2) (.slice a3 rs.length c3) (.bool true) (.slice e1 xs.length d1) (.slice e2 ys.length d2) (.slice oa n1 ca) (.slice ob n2 cb) (.slice oc n3 cc) wr) (fun i _ => n3 - (intOf i).toNat)
            case atStart => exact ⟨0, _, rfl, Nat.zero_le _, unhide HN, unhide HST, unhide HP⟩
            case round =>
              clear HP HST HN
              obtain ⟨j, js, rfl, hj, hN, hst, hp⟩ := hrel
              have HN := hide hN
              have HST := hide hst
              have HP := hide hp
              clear hN hst hp
              have s2 := (unhide HP).2.2.2.1.2.2.1
              have E0 := (unhide HP).2.1.1
              by_cases hlt : j < n3
              · have hltI : (j : Int) < (n3 : Int) := by omega
                have hjy : j < ys.length := by have := ((unhide HLL) (by simp)).2; omega
                rcases (unhide HY).2 with h0 | ⟨rb, ro, rfl, hcc⟩
                · omega
                have c0w := hcc j hjy
                clear hcc
                generalize ys[j] = p at c0w
                obtain ⟨l, g⟩ := p
                simp only at c0w
                have HC0 := hide c0w
                have hneb : rb ≠ b := (unhide HNE).2 _ rfl
                have hrbw : rb < w.heap.size := World.block_lt_of_cell? w _ c0w.1
                clear c0w
                go_upto_region 13 with fail
                clear s2 E0
                generalize wr = wi at HST HP ⊢
                have HN2 := HN
                generalize js = js1 at HST HN2
                go_wp2
                go_loopw [11] (fun i wr => ∃ (t : Nat) (js : List (List Int)), i = .int .i64 t ∧ t ≤ 16 ∧ InN n1 n2 n3 is bs js ∧ StW wr (w.heap.size + 3) B1 q oa ob oc cc gs is bs js ∧ InQ w b a len cap q (.slice a1 vs.length c1) (.slice a2 fs.length c2) (.slice a3 rs.length c3) (.bool true) (.slice e1 xs.length d1) (.slice (some ⟨rb, ro, none⟩) ys.length d2) (.slice oa n1 ca) (.slice ob n2 cb) (.slice oc n3 cc) wr) (fun i _ => 17 - (intOf i).toNat)
                case atStart => exact ⟨0, _, rfl, Nat.zero_le _, unhide HN2, unhide HST, unhide HP⟩
                case round =>
                  clear HP HST HN2 HN
                  obtain ⟨t, js, rfl, ht, hN, hst, hp⟩ := hrel
                  have HN := hide hN
                  have HST := hide hst
                  have HP := hide hp
                  clear hN hst hp
                  have s2 := (unhide HP).2.2.2.1.2.2.1
                  have hj2 : j < js.length := by have := (unhide HN).2.2.1; omega
                  obtain ⟨b3, oo, c, rfl, hh⟩ := (unhide HST).hdr hj2
                  obtain ⟨s, hs⟩ : ∃ s, s = (js[j]).length := ⟨_, rfl⟩
                  have hs16 : s ≤ 16 := by rw [hs]; exact (unhide HN).2.2.2 j hj2
                  rw [← hs] at hh
                  have HSS := hide hs
                  clear hs
                  have hs16I : (s : Int) ≤ 16 := by omega
                  have htI6 : (t : Int) ≤ 16 := by omega
                  by_cases hts : t < s
                  · have htI : (t : Int) < (s : Int) := by omega
                    have htl : t < (js[j]).length := by have := unhide HSS; omega
                    obtain ⟨g3, b4, c3', hg3, eb, hb3, hbg, hh3, _, _, _⟩ := (unhide HST).w3 hj2 htl 0
                    cases eb
                    rw [← unhide HSS] at hh3
                    have hoo : some (Value.slice oo s c) = some (Value.slice (some ⟨g3, 0, none⟩) s c3') := hh.symm.trans hh3
                    cases hoo
                    clear hh3
                    go_upto_region 16 with fail
                    have E2 := (unhide HP).2.1.2.2.1
                    have c0 := (World.cell?_of_block (w := w) ((unhide HP).2.2.2.2.2.block rb hrbw hneb)).trans (unhide HC0).1
                    have c1' := (World.cell?_of_block (w := w) ((unhide HP).2.2.2.2.2.block rb hrbw hneb)).trans (unhide HC0).2
                    have HP := hide ((unhide HP).drew)
                    have HST := hide ((unhide HST).call (Below.refl _ _).drew)
                    obtain ⟨wz, hwz⟩ : ∃ x, x = wr.drew := ⟨_, rfl⟩
                    rw [← hwz] at HP HST
                    refine wp_region_held_drew (S := (fun u9 => u9.cell? ⟨q, 2, none⟩ = some (.slice (some ⟨b3, 0, none⟩) n3 cc) ∧ u9.cell? ⟨b3, j, none⟩ = some (.slice (some ⟨g3, 0, none⟩) s c) ∧ u9.cell? ⟨w.heap.size + 1, 2, none⟩ = some (.slice (some ⟨rb, ro, none⟩) ys.length d2) ∧ u9.cell? ⟨rb, ro + j * 2, none⟩ = some (.int .i64 l) ∧ u9.cell? ⟨rb, ro + j * 2 + 1, none⟩ = some (.int .i64 g))) (by kernel_rfl) (by exact ⟨s2, hh, E2, c0, c1'⟩) (fun hHeld => ?_)
                    rw [← hwz] at hHeld ⊢
                    clear hwz
                    refine wpAnyH_take (i := 0) (oi := ⟨some 70, Op.fieldAddr 37 (Operand.tmp 7) 2, 0, _, _, none⟩) (v := ?_) rfl (by kernel_rfl) (by kernel_rfl) (by kernel_rfl) (fun _ _ _ h => h) (Or.inl ⟨by rfl, ?_⟩) (by assumption) ?_
                    rotate_left
                    · (intro w9 hSw; (try dsimp only at hSw); go_simp; try with_reducible rfl)
                    try simp only [Act.put, List.setIfInBounds_toArray, List.set_cons_zero, List.set_cons_succ]
                    refine wpAnyH_take (i := 1) (oi := ⟨some 71, Op.load 35 (Operand.tmp 70), 35, _, _, none⟩) (v := ?_) rfl (by kernel_rfl) (by kernel_rfl) (by kernel_rfl) (fun _ _ _ h => h) (Or.inl ⟨by rfl, ?_⟩) (by assumption) ?_
                    rotate_left
                    · (intro w9 hSw; (try dsimp only at hSw); go_simp; try with_reducible rfl)
                    try simp only [Act.put, List.setIfInBounds_toArray, List.set_cons_zero, List.set_cons_succ]
                    refine wpAnyH_take (i := 2) (oi := ⟨some 72, Op.move (Operand.tmp 10), 3, _, _, none⟩) (v := ?_) rfl (by kernel_rfl) (by kernel_rfl) (by kernel_rfl) (fun _ _ _ h => h) (Or.inl ⟨by rfl, ?_⟩) (by assumption) ?_
                    rotate_left
                    · (intro w9 hSw; (try dsimp only at hSw); go_simp; try with_reducible rfl)
                    try simp only [Act.put, List.setIfInBounds_toArray, List.set_cons_zero, List.set_cons_succ]
                    refine wpAnyH_take (i := 3) (oi := ⟨some 73, Op.indexAddr 35 (Operand.tmp 71) (Operand.tmp 72), 0, _, _, none⟩) (v := ?_) rfl (by kernel_rfl) (by kernel_rfl) (by kernel_rfl) (fun _ _ _ h => h) (Or.inl ⟨by rfl, ?_⟩) (by assumption) ?_
                    rotate_left
                    · (intro w9 hSw; (try dsimp only at hSw); go_simp; try with_reducible rfl)
                    try simp only [Act.put, List.setIfInBounds_toArray, List.set_cons_zero, List.set_cons_succ]
                    refine wpAnyH_take (i := 4) (oi := ⟨some 74, Op.load 33 (Operand.tmp 73), 33, _, _, none⟩) (v := ?_) rfl (by kernel_rfl) (by kernel_rfl) (by kernel_rfl) (fun _ _ _ h => h) (Or.inl ⟨by rfl, ?_⟩) (by assumption) ?_
                    rotate_left
                    · (intro w9 hSw; (try dsimp only at hSw); go_simp; try with_reducible rfl)
                    try simp only [Act.put, List.setIfInBounds_toArray, List.set_cons_zero, List.set_cons_succ]
                    refine wpAnyH_take (i := 5) (oi := ⟨some 75, Op.move (Operand.tmp 11), 3, _, _, none⟩) (v := ?_) rfl (by kernel_rfl) (by kernel_rfl) (by kernel_rfl) (fun _ _ _ h => h) (Or.inl ⟨by rfl, ?_⟩) (by assumption) ?_
                    rotate_left
                    · (intro w9 hSw; (try dsimp only at hSw); go_simp; try with_reducible rfl)
                    try simp only [Act.put, List.setIfInBounds_toArray, List.set_cons_zero, List.set_cons_succ]
                    refine wpAnyH_take (i := 6) (oi := ⟨some 76, Op.move (Operand.tmp 0), 60, _, _, none⟩) (v := ?_) rfl (by kernel_rfl) (by kernel_rfl) (by kernel_rfl) (fun _ _ _ h => h) (Or.inl ⟨by rfl, ?_⟩) (by assumption) ?_
                    rotate_left
                    · (intro w9 hSw; (try dsimp only at hSw); go_simp; try with_reducible rfl)
                    try simp only [Act.put, List.setIfInBounds_toArray, List.set_cons_zero, List.set_cons_succ]
                    refine wpAnyH_take (i := 7) (oi := ⟨some 77, Op.fieldAddr 30 (Operand.tmp 5) 2, 0, _, _, none⟩) (v := ?_) rfl (by kernel_rfl) (by kernel_rfl) (by kernel_rfl) (fun _ _ _ h => h) (Or.inl ⟨by rfl, ?_⟩) (by assumption) ?_
                    rotate_left
                    · (intro w9 hSw; (try dsimp only at hSw); go_simp; try with_reducible rfl)
                    try simp only [Act.put, List.setIfInBounds_toArray, List.set_cons_zero, List.set_cons_succ]
                    refine wpAnyH_take (i := 8) (oi := ⟨some 78, Op.load 28 (Operand.tmp 77), 28, _, _, none⟩) (v := ?_) rfl (by kernel_rfl) (by kernel_rfl) (by kernel_rfl) (fun _ _ _ h => h) (Or.inl ⟨by rfl, ?_⟩) (by assumption) ?_
                    rotate_left
                    · (intro w9 hSw; (try dsimp only at hSw); go_simp; try with_reducible rfl)
                    try simp only [Act.put, List.setIfInBounds_toArray, List.set_cons_zero, List.set_cons_succ]
                    refine wpAnyH_take (i := 9) (oi := ⟨some 79, Op.move (Operand.tmp 10), 3, _, _, none⟩) (v := ?_) rfl (by kernel_rfl) (by kernel_rfl) (by kernel_rfl) (fun _ _ _ h => h) (Or.inl ⟨by rfl, ?_⟩) (by assumption) ?_
                    rotate_left
                    · (intro w9 hSw; (try dsimp only at hSw); go_simp; try with_reducible rfl)
                    try simp only [Act.put, List.setIfInBounds_toArray, List.set_cons_zero, List.set_cons_succ]
                    refine wpAnyH_take (i := 10) (oi := ⟨some 80, Op.indexAddr 28 (Operand.tmp 78) (Operand.tmp 79), 0, _, _, none⟩) (v := ?_) rfl (by kernel_rfl) (by kernel_rfl) (by kernel_rfl) (fun _ _ _ h => h) (Or.inl ⟨by rfl, ?_⟩) (by assumption) ?_
                    rotate_left
                    · (intro w9 hSw; (try dsimp only at hSw); go_simp; try with_reducible rfl)
                    try simp only [Act.put, List.setIfInBounds_toArray, List.set_cons_zero, List.set_cons_succ]
                    refine wpAnyH_take (i := 11) (oi := ⟨some 81, Op.load 47 (Operand.tmp 80), 47, _, _, none⟩) (v := ?_) rfl (by kernel_rfl) (by kernel_rfl) (by kernel_rfl) (fun _ _ _ h => h) (Or.inl ⟨by rfl, ?_⟩) (by assumption) ?_
                    rotate_left
                    · (intro w9 hSw; (try dsimp only at hSw); go_simp; try with_reducible rfl)
                    try simp only [Act.put, List.setIfInBounds_toArray, List.set_cons_zero, List.set_cons_succ]
                    refine wpAnyH_ready (rs := [12]) (by kernel_rfl) (by simp) ?_
                    refine AllReadyH.cons (i := 12) (o := ⟨some 82, Op.call { callee := Callee.value (Operand.func 62), args := #[Operand.tmp 76, Operand.tmp 81], argTypes := #[60, 47] }, 2, _, _, none⟩) rfl (fun K hK => ?_) AllReadyH.nil
                    go_simp
                    refine (rwithin_c b a len cap l g _ (unhide HP).2.2.2.2.1).mono ?_
                    rintro e v1 ⟨⟨n, rfl⟩, hl⟩
                    have HP := hide ((unhide HP).kp hl hbw (by omega))
                    have HST := hide ((unhide HST).kp hl.2 (by omega))
                    have hq := (show (fun u9 => u9.cell? ⟨q, 2, none⟩ = some (.slice (some ⟨b3, 0, none⟩) n3 cc) ∧ u9.cell? ⟨b3, j, none⟩ = some (.slice (some ⟨g3, 0, none⟩) s c) ∧ u9.cell? ⟨w.heap.size + 1, 2, none⟩ = some (.slice (some ⟨rb, ro, none⟩) ys.length d2) ∧ u9.cell? ⟨rb, ro + j * 2, none⟩ = some (.int .i64 l) ∧ u9.cell? ⟨rb, ro + j * 2 + 1, none⟩ = some (.int .i64 g)) v1 from ⟨(World.cell?_of_block (w := wz) (hl.2.block _ (World.block_lt_of_cell? wz _ hHeld.1) (by first | (show q ≠ b; omega) | (show w.heap.size + 1 ≠ b; omega) | exact hneb | (show b3 ≠ b; omega)))).trans hHeld.1, (World.cell?_of_block (w := wz) (hl.2.block _ (World.block_lt_of_cell? wz _ hHeld.2.1) (by first | (show q ≠ b; omega) | (show w.heap.size + 1 ≠ b; omega) | exact hneb | (show b3 ≠ b; omega)))).trans hHeld.2.1, (World.cell?_of_block (w := wz) (hl.2.block _ (World.block_lt_of_cell? wz _ hHeld.2.2.1) (by first | (show q ≠ b; omega) | (show w.heap.size + 1 ≠ b; omega) | exact hneb | (show b3 ≠ b; omega)))).trans hHeld.2.2.1, (World.cell?_of_block (w := wz) (hl.2.block _ (World.block_lt_of_cell? wz _ hHeld.2.2.2.1) (by first | (show q ≠ b; omega) | (show w.heap.size + 1 ≠ b; omega) | exact hneb | (show b3 ≠ b; omega)))).trans hHeld.2.2.2.1, (World.cell?_of_block (w := wz) (hl.2.block _ (World.block_lt_of_cell? wz _ hHeld.2.2.2.2) (by first | (show q ≠ b; omega) | (show w.heap.size + 1 ≠ b; omega) | exact hneb | (show b3 ≠ b; omega)))).trans hHeld.2.2.2.2⟩)
                    clear hl hHeld
                    refine hK.out _ _ hq (fun hHeld => ?_)
                    clear hK K hq
                    try simp only [Act.put, List.setIfInBounds_toArray, List.set_cons_zero, List.set_cons_succ]
                    refine wpAnyH_take (i := 13) (oi := ⟨some 83, Op.indexAddr 33 (Operand.tmp 74) (Operand.tmp 75), 0, _, _, none⟩) (v := ?_) rfl (by kernel_rfl) (by kernel_rfl) (by kernel_rfl) (fun _ _ _ h => h) (Or.inl ⟨by rfl, ?_⟩) (by assumption) ?_
                    rotate_left
                    · (intro w9 hSw; (try dsimp only at hSw); go_simp; try with_reducible rfl)
                    try simp only [Act.put, List.setIfInBounds_toArray, List.set_cons_zero, List.set_cons_succ]
                    refine wpAnyH_ready (rs := [14]) (by kernel_rfl) (by simp) ?_
                    refine AllReadyH.cons (i := 14) (o := ⟨none, Op.store 2 (Operand.tmp 83) (Operand.tmp 82), 0, _, _, none⟩) rfl (fun K hK => ?_) AllReadyH.nil
                    obtain ⟨g9, b9, c9, hg9, eb9, hb9, hbg9, hh9, ⟨y, hy9⟩, hf9, hst9⟩ := (unhide HST).w3 hj2 htl n
                    cases eb9
                    rw [← unhide HSS] at hh9
                    have hoo : some (Value.slice (some ⟨g3, 0, none⟩) s c) = some (Value.slice (some ⟨g9, 0, none⟩) s c9) := hHeld.2.1.symm.trans hh9
                    cases hoo
                    have HST := hide hst9
                    have HP := hide ((unhide HP).far (c := g3) (o := t) (x := .int .i64 n) (by omega) (by omega) hbw (unhide HCO))
                    clear hst9 hh9
                    go_simp
                    refine hK.out _ _ ⟨(unhide HP).2.2.2.1.2.2.1, (World.cell?_setCell_other _ _ _ _ (fun e => by have := congrArg Addr.block e; simp at this; omega)).trans hHeld.2.1, (unhide HP).2.1.2.2.1, (World.cell?_setCell_other _ _ _ _ (fun e => by have := congrArg Addr.block e; simp at this; omega)).trans hHeld.2.2.2.1, (World.cell?_setCell_other _ _ _ _ (fun e => by have := congrArg Addr.block e; simp at this; omega)).trans hHeld.2.2.2.2⟩ (fun hHeld => ?_)
                    clear hK K hHeld
                    try simp only [Act.put, List.setIfInBounds_toArray, List.set_cons_zero, List.set_cons_succ]
                    refine wpAnyH_done (by kernel_rfl) ?_ _
                    have HN := hide ((unhide HN).set3 j t hj2 n)
                    clear s2 hh E2 c0 c1' hy9 hf9
                    go_wp2
                    go_roundw
                    case rel => exact ⟨t + 1, js.set j ((js[j]).set t n), by go_num, by omega, unhide HN, unhide HST, unhide HP⟩
                    case measure => simp [intOf]; omega
                  · have htI : ¬ (t : Int) < (s : Int) := by omega
                    go_wp2
                    go_roundw
                    case rel => exact ⟨j + 1, js, by go_num, by omega, unhide HN, unhide HST, unhide HP⟩
                    case measure => simp [intOf]; omega
              · have hltI : ¬ (j : Int) < (n3 : Int) := by omega
                have t0 := (unhide HP).2.2.2.1.1
                have t1 := (unhide HP).2.2.2.1.2.1
                have r0 : wr.cell? ⟨w.heap.size + 1 + 1, 0, none⟩ = _ := (unhide HP).2.2.1.1
                have r1 : wr.cell? ⟨w.heap.size + 1 + 1, 1, none⟩ = _ := (unhide HP).2.2.1.2.1
                have r2 : wr.cell? ⟨w.heap.size + 1 + 1, 2, none⟩ = _ := (unhide HP).2.2.1.2.2.1
                have f0 : wr.frozen? ⟨w.heap.size + 1 + 1, 0, none⟩ = _ := (unhide HP).2.2.1.2.2.2 0
                have f1 : wr.frozen? ⟨w.heap.size + 1 + 1, 1, none⟩ = _ := (unhide HP).2.2.1.2.2.2 1
                have f2 : wr.frozen? ⟨w.heap.size + 1 + 1, 2, none⟩ = _ := (unhide HP).2.2.1.2.2.2 2
                have hN := unhide HN
                have hsw := (((unhide HST).far (c := w.heap.size + 1 + 1) (o := 0) (x := .slice oa n1 ca) (.inl (by omega))).far (c := w.heap.size + 1 + 1) (o := 1) (x := .slice ob n2 cb) (.inl (by omega))).far (c := w.heap.size + 1 + 1) (o := 2) (x := .slice oc n3 cc) (.inl (by omega))
                have hbel := (((unhide HP).2.2.2.2.set (c := w.heap.size + 1 + 1) (o := 0) (by omega) hbw (unhide HCO) (.slice oa n1 ca)).set (c := w.heap.size + 1 + 1) (o := 1) (by omega) hbw (unhide HCO) (.slice ob n2 cb)).set (c := w.heap.size + 1 + 1) (o := 2) (by omega) hbw (unhide HCO) (.slice oc n3 cc)
                have HSW := hide hsw
                have HBL := hide hbel
                clear hsw hbel
                go_wp2
                refine bodyPost_ret (v := .agg #[.slice oa n1 ca, .slice ob n2 cb, .slice oc n3 cc]) (by simp [results, Tryd.results31, go_sem, r0, r1, r2]) rfl ⟨oa, ob, oc, ca, cb, cc, B1, q, n1, n2, n3, gs, is, bs, js, by rw [hN.1, hN.2.1, hN.2.2.1], ?_, hN, ⟨by omega, by omega, by omega⟩, unhide HBL⟩
                obtain ⟨p1, p2, p3, p4, p5, p6⟩ := unhide HSW
                refine ⟨?_, ?_, p3, by omega, p5, p6⟩
                · rcases p1 with x | ⟨g, e, k1, k2, k3⟩
                  · exact .inl x
                  · exact .inr ⟨g, e, ⟨by omega, k1.2⟩, k2, k3⟩
                · rcases p2 with x | ⟨g, e, k1, k2⟩
                  · exact .inl x
                  · exact .inr ⟨g, e, ⟨by omega, k1.2⟩, k2⟩
end Go.Proofs.YthpnbmdmkmkicaaDoor

/- What is drawn of a store and bounds. -/
namespace Go.Proofs.YthpnbmdmkmkicaaDoor
open Go.RowKit Go.Iv
set_option linter.unusedSimpArgs false
set_option linter.unusedVariables false

/-- A declaration, bounds, and a store. -/
def DhR (w : World) (e : Ending) (w' : World) : Prop := ∃ (a1 a2 a3 : Option Addr) (c1 c2 c3 : Nat) (vs fs : List ByteArray) (rs : List (ByteArray × Int)) (li : Bool) (oa : Option Addr) (ca : Nat) (ob : Option Addr) (cb : Nat) (xs ys : List (Int × Int)) (ia ib ic : Option Addr) (ja jb jc : Nat) (is : List Int) (bs : List Bool) (js : List (List Int)),
  e = .returned (.tuple #[.agg #[.slice a1 vs.length c1, .slice a2 fs.length c2, .slice a3 rs.length c3], .agg #[.bool li, .slice oa xs.length ca, .slice ob ys.length cb], .agg #[.slice ia is.length ja, .slice ib bs.length jb, .slice ic js.length jc]]) ∧ Strs w' a1 vs ∧ Strs w' a2 fs ∧ Arrs w' a3 rs ∧ (∀ x ∈ namesOf vs fs rs, x.size ≤ 1048576) ∧ (Ivs w' oa xs ∧ Ivs w' ob ys) ∧ (Ints w' ia is ∧ Mats w' ic js) ∧ Below w.heap.size w w'
theorem StW.hu {u v : World} {B B1 T cc b len cap : Nat} {a o1 oa ob oc : Option Addr} {gs : List Nat} {is : List Int} {bs : List Bool} {js : List (List Int)} (h : StW u B B1 T oa ob oc cc gs is bs js) (k : HuQ b a len cap o1 u v) (hb : b < B) (ho : ∀ x, o1 = some x → x.block < B) : StW v B B1 T oa ob oc cc gs is bs js :=
  h.at4 (fun g h1 h2 => k.2.2.2.2.2 g h2 (by omega) (fun x e => by have := ho x e; omega)) k.2.2.2.2.1
set_option maxRecDepth 20000 in
set_option maxHeartbeats 16000000 in
theorem DrawEnvHas_c (a : Option Addr) (len cap : Nat) (w : World) (h : Code w a len) : Calls Tryd.prog 8 #[.slice a len cap] w (DhR w) := by
  have HC := hide h
  clear h
  have q0 := B3.new w (.slice none 0 0) (.slice none 0 0) (.slice none 0 0) (.bool false) (.slice none 0 0) (.slice none 0 0) (.slice none 0 0) (.slice none 0 0) (.slice none 0 0) 27 30 37
  have hs0 : w.heap.size + 3 ≤ (((w.alloc (Obj.cells #[.slice none 0 0, .slice none 0 0, .slice none 0 0] 27)).alloc (Obj.cells #[.bool false, .slice none 0 0, .slice none 0 0] 30)).alloc (Obj.cells #[.slice none 0 0, .slice none 0 0, .slice none 0 0] 37)).heap.size := by simp
  go_enter Tryd.func8, Tryd.ntmps8
  go_wp2_with fail
  generalize ((w.alloc (Obj.cells #[.slice none 0 0, .slice none 0 0, .slice none 0 0] 27)).alloc (Obj.cells #[.bool false, .slice none 0 0, .slice none 0 0] 30)).alloc (Obj.cells #[.slice none 0 0, .slice none 0 0, .slice none 0 0] 37) = u0 at q0 hs0 ⊢
  refine (open_c a len cap _).mono ?_
  rintro e u1 ⟨rfl, he⟩
  have hl := open_rdr a len cap u0 ((unhide HC).below q0.2.2.2)
  rw [← he] at hl
  clear he
  have HCO := hide (show ∀ x, a = some x → 0 < len → x.block < u0.heap.size from ((unhide HC).below q0.2.2.2).lt)
  have hrs : u0.heap.size < u1.heap.size := hl.1.lt
  have HR2 := hide (q0.1.kp hl.2 (by omega))
  have HR3 := hide (q0.2.1.kp hl.2 (by omega))
  have HR4 := hide (show C3 u1 (w.heap.size + 1 + 1) _ _ _ from q0.2.2.1.kp hl.2 (by omega))
  have HB := hide (q0.2.2.2.trans (hl.2.below (by omega) q0.2.2.2.size))
  have HL := hide hl.1
  clear q0 hl
  obtain ⟨rb, hrb⟩ : ∃ x, x = u0.heap.size := ⟨_, rfl⟩
  rw [← hrb] at HL HCO hrs hs0 ⊢
  clear hrb
  go_wp2_with fail
  refine (decl_c rb a len cap _ (unhide HL)).mono ?_
  rintro e u2 ⟨a1, a2, a3, c1, c2, c3, vs, fs, rs, rfl, s1, s2, s3, hz, lv, lf, lr, hfr, hl⟩
  have HD := hide (DeP.of s1 s2 s3 hfr)
  have HZ := hide hz
  have hz12 := hl.2.size
  have HR2 := hide ((unhide HR2).kp hl.2 (by omega))
  have HR3 := hide ((unhide HR3).kp hl.2 (by omega))
  have HR4 := hide ((unhide HR4).kp hl.2 (by omega))
  have HB := hide ((unhide HB).trans (hl.2.below (by omega) (unhide HB).size))
  have HL := hide hl.1
  clear s1 s2 s3 hz hfr hl
  have HGD := hide (C3.new u2 (.slice a1 vs.length c1) (.slice a2 fs.length c2) (.slice a3 rs.length c3) 27)
  have ka := (Below.refl _ u2).alloc (Nat.le_refl _) (Obj.cells #[.slice a1 vs.length c1, .slice a2 fs.length c2, .slice a3 rs.length c3] 27)
  have HR2 := hide ((unhide HR2).alloc (Obj.cells #[.slice a1 vs.length c1, .slice a2 fs.length c2, .slice a3 rs.length c3] 27))
  have HR3 := hide ((unhide HR3).alloc (Obj.cells #[.slice a1 vs.length c1, .slice a2 fs.length c2, .slice a3 rs.length c3] 27))
  have HR4 := hide ((unhide HR4).alloc (Obj.cells #[.slice a1 vs.length c1, .slice a2 fs.length c2, .slice a3 rs.length c3] 27))
  have HL := hide ((unhide HL).alloc (Obj.cells #[.slice a1 vs.length c1, .slice a2 fs.length c2, .slice a3 rs.length c3] 27))
  have HD := hide ((unhide HD).call ka)
  have HB := hide ((unhide HB).trans (ka.mono (unhide HB).size))
  have hz23 : u2.heap.size + 1 ≤ (u2.alloc (Obj.cells #[.slice a1 vs.length c1, .slice a2 fs.length c2, .slice a3 rs.length c3] 27)).heap.size := by simp
  clear ka
  go_upto_region 3 with fail
  generalize u2.alloc (Obj.cells #[.slice a1 vs.length c1, .slice a2 fs.length c2, .slice a3 rs.length c3] 27) = u3 at HR2 HR3 HR4 HD HGD HB HL hz23 ⊢
  have g0 := (unhide HGD).1
  have g1 := (unhide HGD).2.1
  have g2 := (unhide HGD).2.2.1
  go_wp2_with fail
  refine (env_c rb a len cap a1 a2 a3 vs.length fs.length rs.length c1 c2 c3 (by omega) (by omega) _ (unhide HL)).mono ?_
  rintro e u4 ⟨li, oa, ca, ob, cb, xs, ys, rfl, hre, hxl, hyl, hlen, hl⟩
  clear g0 g1 g2
  have HRA := hide (RowsT.of hre)
  have HXL := hide (And.intro hxl hyl)
  have HLN := hide hlen
  have hz34 := hl.2.size
  have HR2 := hide ((unhide HR2).kp hl.2 (by omega))
  have HR3 := hide ((unhide HR3).kp hl.2 (by omega))
  have HR4 := hide ((unhide HR4).kp hl.2 (by omega))
  have HD := hide ((unhide HD).kp hl.2 (by omega))
  have HGD := hide ((unhide HGD).kp hl.2 (by omega))
  have HB := hide ((unhide HB).trans (hl.2.below (by omega) (unhide HB).size))
  have HL := hide hl.1
  clear hre hxl hyl hlen hl
  have HGE := hide (C3.new u4 (.bool li) (.slice oa xs.length ca) (.slice ob ys.length cb) 30)
  have ka := (Below.refl _ u4).alloc (Nat.le_refl _) (Obj.cells #[.bool li, .slice oa xs.length ca, .slice ob ys.length cb] 30)
  have HR2 := hide ((unhide HR2).alloc (Obj.cells #[.bool li, .slice oa xs.length ca, .slice ob ys.length cb] 30))
  have HR3 := hide ((unhide HR3).alloc (Obj.cells #[.bool li, .slice oa xs.length ca, .slice ob ys.length cb] 30))
  have HR4 := hide ((unhide HR4).alloc (Obj.cells #[.bool li, .slice oa xs.length ca, .slice ob ys.length cb] 30))
  have HGD := hide ((unhide HGD).alloc (Obj.cells #[.bool li, .slice oa xs.length ca, .slice ob ys.length cb] 30))
  have HL := hide ((unhide HL).alloc (Obj.cells #[.bool li, .slice oa xs.length ca, .slice ob ys.length cb] 30))
  have HD := hide ((unhide HD).call ka)
  have HRA := hide ((unhide HRA).call ka)
  have HB := hide ((unhide HB).trans (ka.mono (unhide HB).size))
  have hz45 : u4.heap.size + 1 ≤ (u4.alloc (Obj.cells #[.bool li, .slice oa xs.length ca, .slice ob ys.length cb] 30)).heap.size := by simp
  clear ka
  go_upto_region 4 with fail
  generalize u4.alloc (Obj.cells #[.bool li, .slice oa xs.length ca, .slice ob ys.length cb] 30) = u5 at HR2 HR3 HR4 HGD HD HRA HGE HB HL hz45 ⊢
  have g0 := (unhide HGD).1
  have g1 := (unhide HGD).2.1
  have g2 := (unhide HGD).2.2.1
  have g3 := (unhide HGE).1
  have g4 := (unhide HGE).2.1
  have g5 := (unhide HGE).2.2.1
  go_wp2_with fail
  have hri := (unhide HRA).1.ivs (by have := unhide HXL; omega)
  have HRI := hide hri
  clear hri
  refine (rinside_c rb a len cap a1 a2 a3 c1 c2 c3 vs fs rs li oa ob ca cb xs ys _ (unhide HL) (unhide HD).1 (unhide HD).2.1 (unhide HD).2.2.1 (unhide HZ) (unhide HRI).1 (unhide HRI).2 ⟨fun x e => by have := (unhide HRA).2.1 x e; omega, fun x e => by have := (unhide HRA).2.2.1 x e; omega⟩ (unhide HLN)).mono ?_
  rintro e u6 ⟨ia, ib, ic, ja, jb, jc, B1, T, n1, n2, n3, gs, is, bs, js, rfl, hst, hN, ⟨hn1, hn2, hn3⟩, hl⟩
  clear g0 g1 g2 g3 g4 g5 HRI
  rw [hN.1, hN.2.1, hN.2.2.1]
  have HST := hide hst
  have HN := hide hN
  have hz56 := hl.2.size
  have hTs := hst.2.2.2.2.2
  have HR2 := hide ((unhide HR2).kp hl.2 (by omega))
  have HR3 := hide ((unhide HR3).kp hl.2 (by omega))
  have HR4 := hide ((unhide HR4).kp hl.2 (by omega))
  have HD := hide ((unhide HD).kp hl.2 (by omega))
  have HGD := hide ((unhide HGD).kp hl.2 (by omega))
  have HGE := hide ((unhide HGE).kp hl.2 (by omega))
  have HRA := hide ((unhide HRA).kp hl.2 (by omega))
  have HB := hide ((unhide HB).trans (hl.2.below (by omega) (unhide HB).size))
  have HL := hide hl.1
  clear hst hN hl
  have HGS := hide (C3.new u6 (.slice ia n1 ja) (.slice ib n2 jb) (.slice ic n3 jc) 37)
  have ka := (Below.refl _ u6).alloc (Nat.le_refl _) (Obj.cells #[.slice ia n1 ja, .slice ib n2 jb, .slice ic n3 jc] 37)
  have HR2 := hide ((unhide HR2).alloc (Obj.cells #[.slice ia n1 ja, .slice ib n2 jb, .slice ic n3 jc] 37))
  have HR3 := hide ((unhide HR3).alloc (Obj.cells #[.slice ia n1 ja, .slice ib n2 jb, .slice ic n3 jc] 37))
  have HR4 := hide ((unhide HR4).alloc (Obj.cells #[.slice ia n1 ja, .slice ib n2 jb, .slice ic n3 jc] 37))
  have HGD := hide ((unhide HGD).alloc (Obj.cells #[.slice ia n1 ja, .slice ib n2 jb, .slice ic n3 jc] 37))
  have HGE := hide ((unhide HGE).alloc (Obj.cells #[.slice ia n1 ja, .slice ib n2 jb, .slice ic n3 jc] 37))
  have HL := hide ((unhide HL).alloc (Obj.cells #[.slice ia n1 ja, .slice ib n2 jb, .slice ic n3 jc] 37))
  have HD := hide ((unhide HD).call ka)
  have HRA := hide ((unhide HRA).call ka)
  have HST := hide ((unhide HST).call ka)
  have HB := hide ((unhide HB).trans (ka.mono (unhide HB).size))
  have hz67 : u6.heap.size + 1 ≤ (u6.alloc (Obj.cells #[.slice ia n1 ja, .slice ib n2 jb, .slice ic n3 jc] 37)).heap.size := by simp
  clear ka
  go_upto_region 5 with fail
  generalize u6.alloc (Obj.cells #[.slice ia n1 ja, .slice ib n2 jb, .slice ic n3 jc] 37) = u7 at HR2 HR3 HR4 HGD HGE HD HRA HST HGS HB HL hz67 ⊢
  have hn1I : (n1 : Int) ≤ 5 := by omega
  have g0 := (unhide HGS).1
  go_wp2_with fail
  refine (once_c rb a len cap 3 (by decide) (by decide) _ (unhide HL)).mono ?_
  rintro e u8 ⟨q, rfl, hl⟩
  clear g0
  have hz78 := hl.2.size
  have HR2 := hide ((unhide HR2).kp hl.2 (by omega))
  have HR3 := hide ((unhide HR3).kp hl.2 (by omega))
  have HR4 := hide ((unhide HR4).kp hl.2 (by omega))
  have HD := hide ((unhide HD).kp hl.2 (by omega))
  have HGD := hide ((unhide HGD).kp hl.2 (by omega))
  have HGE := hide ((unhide HGE).kp hl.2 (by omega))
  have HGS := hide ((unhide HGS).kp hl.2 (by omega))
  have HRA := hide ((unhide HRA).kp hl.2 (by omega))
  have HST := hide ((unhide HST).kp hl.2 (by omega))
  have HB := hide ((unhide HB).trans (hl.2.below (by omega) (unhide HB).size))
  have HL := hide hl.1
  clear hl
  have g0 := (unhide HGS).1
  cases q
  · skip
    clear g0
    have hlen1 : is.length = n1 := (unhide HN).1
    have hu01' : rb < u1.heap.size := hrs
    go_upto_region 7 with fail
    obtain ⟨wz, hwz⟩ : ∃ x, x = u8.drew := ⟨_, rfl⟩
    have HR2 := hide (show C3 wz w.heap.size _ _ _ by rw [hwz]; exact unhide HR2)
    have HR3 := hide (show C3 wz (w.heap.size + 1) _ _ _ by rw [hwz]; exact unhide HR3)
    have HR4 := hide (show C3 wz (w.heap.size + 1 + 1) _ _ _ by rw [hwz]; exact unhide HR4)
    have HGD := hide (show C3 wz u2.heap.size _ _ _ by rw [hwz]; exact unhide HGD)
    have HGE := hide (show C3 wz u4.heap.size _ _ _ by rw [hwz]; exact unhide HGE)
    have HGS := hide (show C3 wz u6.heap.size _ _ _ by rw [hwz]; exact unhide HGS)
    have HD := hide (show DeP wz u1.heap.size u2.heap.size a1 a2 a3 vs fs rs by rw [hwz]; exact (unhide HD).call (Below.refl _ _).drew)
    have HRA := hide (show RowsT wz u3.heap.size u4.heap.size oa ca ob cb xs ys by rw [hwz]; exact (unhide HRA).call (Below.refl _ _).drew)
    have HB := hide (show Below w.heap.size w wz by rw [hwz]; exact (unhide HB).drew)
    have HL := hide (show Rdr wz rb a len cap by rw [hwz]; exact unhide HL)
    have HST := hide (show StW wz u5.heap.size B1 T _ ib ic jc gs _ bs js by rw [hwz]; exact (unhide HST).call (Below.refl _ _).drew)
    have hzz : u8.heap.size ≤ wz.heap.size := by rw [hwz]; exact Nat.le_refl _
    refine wp_region_held_drew (S := S7 u2.heap.size u4.heap.size u6.heap.size (.slice a1 vs.length c1) (.slice a2 fs.length c2) (.slice a3 rs.length c3) (.bool li) (.slice oa xs.length ca) (.slice ob ys.length cb) (.slice ia n1 ja) (.slice ib n2 jb) (.slice ic n3 jc)) (by kernel_rfl) (by rw [← hwz]; exact S7.of (unhide HGD) (unhide HGE) (unhide HGS)) (fun hHeld => ?_)
    rw [← hwz] at hHeld ⊢
    clear hwz
    refine wpAnyH_take (i := 0) (oi := ⟨some 33, Op.load 27 (Operand.tmp 6), 27, _, _, none⟩) (v := ?_) rfl (by kernel_rfl) (by kernel_rfl) (by kernel_rfl) (fun _ _ _ h => h) (Or.inl ⟨by rfl, ?_⟩) (by assumption) ?_
    rotate_left
    · (intro w9 hSw; (try dsimp only at hSw); go_simp; try with_reducible rfl)
    try simp only [Act.put, List.setIfInBounds_toArray, List.set_cons_zero, List.set_cons_succ]
    refine wpAnyH_take (i := 1) (oi := ⟨some 34, Op.move (Operand.tmp 5), 60, _, _, none⟩) (v := ?_) rfl (by kernel_rfl) (by kernel_rfl) (by kernel_rfl) (fun _ _ _ h => h) (Or.inl ⟨by rfl, ?_⟩) (by assumption) ?_
    rotate_left
    · (intro w9 hSw; (try dsimp only at hSw); go_simp; try with_reducible rfl)
    try simp only [Act.put, List.setIfInBounds_toArray, List.set_cons_zero, List.set_cons_succ]
    refine wpAnyH_take (i := 2) (oi := ⟨some 35, Op.load 30 (Operand.tmp 7), 30, _, _, none⟩) (v := ?_) rfl (by kernel_rfl) (by kernel_rfl) (by kernel_rfl) (fun _ _ _ h => h) (Or.inl ⟨by rfl, ?_⟩) (by assumption) ?_
    rotate_left
    · (intro w9 hSw; (try dsimp only at hSw); go_simp; try with_reducible rfl)
    try simp only [Act.put, List.setIfInBounds_toArray, List.set_cons_zero, List.set_cons_succ]
    refine wpAnyH_take (i := 4) (oi := ⟨some 37, Op.load 37 (Operand.tmp 8), 37, _, _, none⟩) (v := ?_) rfl (by kernel_rfl) (by kernel_rfl) (by kernel_rfl) (fun _ _ _ h => h) (Or.inl ⟨by rfl, ?_⟩) (by assumption) ?_
    rotate_left
    · (intro w9 hSw; (try dsimp only at hSw); go_simp; try with_reducible rfl)
    try simp only [Act.put, List.setIfInBounds_toArray, List.set_cons_zero, List.set_cons_succ]
    refine wpAnyH_ready (rs := [3]) (by kernel_rfl) (by simp) ?_
    refine AllReadyH.cons (i := 3) (o := ⟨some 36, Op.call { callee := Callee.value (Operand.func 34), args := #[Operand.tmp 34, Operand.tmp 35], argTypes := #[60, 30] }, 30, _, _, none⟩) rfl (fun K hK => ?_) AllReadyH.nil
    go_simp
    refine (hurtEnv_c rb a len cap li oa ca ob cb xs ys u3.heap.size wz (unhide HL) (unhide HRA).1 (by omega) (by omega) (fun x e1 e2 => by have := (unhide HCO) x e1 e2; omega) (by have := unhide HXL; omega)).mono ?_
    rintro e v1 ⟨li2, oa2, ca2, xs3, rfl, hre, hlx, hq, hmv, hin⟩
    have hbo := (unhide HRA).2.1
    have hs1 : wz.heap.size ≤ v1.heap.size := hq.2.2.2.2.1
    have HR2 := hide ((unhide HR2).hu hq (by omega) (fun x e => by have := hbo x e; omega))
    have HR3 := hide ((unhide HR3).hu hq (by omega) (fun x e => by have := hbo x e; omega))
    have HR4 := hide ((unhide HR4).hu hq (by omega) (fun x e => by have := hbo x e; omega))
    have HGD := hide ((unhide HGD).hu hq (by omega) (fun x e => by have := hbo x e; omega))
    have HGE := hide ((unhide HGE).hu hq (by omega) (fun x e => by have := hbo x e; omega))
    have HGS := hide ((unhide HGS).hu hq (by omega) (fun x e => by have := hbo x e; omega))
    have HD := hide ((unhide HD).hu hq (by omega) (fun x e => by have := hbo x e; omega))
    have HST := hide ((unhide HST).hu hq (by omega) (fun x e => by have := hbo x e; omega))
    have HB := hide ((unhide HB).trans (hq.below (by omega) (unhide HB).size (fun x e => by have := hbo x e; omega)))
    have HRE := hide hre
    have HLX := hide hlx
    clear hre hlx hq hmv hin hbo
    refine hK.out _ _ (S7.of (unhide HGD) (unhide HGE) (unhide HGS)) (fun hHeld => ?_)
    have r0 := (unhide HR2).1
    have r1 := (unhide HR2).2.1
    have r2 := (unhide HR2).2.2.1
    have s0 := (unhide HR3).1
    have s1 := (unhide HR3).2.1
    have s2 := (unhide HR3).2.2.1
    have t0 := (unhide HR4).1
    have t1 := (unhide HR4).2.1
    have t2 := (unhide HR4).2.2.1
    have rf0 := (unhide HR2).2.2.2 0
    have rf1 := (unhide HR2).2.2.2 1
    have rf2 := (unhide HR2).2.2.2 2
    have sf0 := (unhide HR3).2.2.2 0
    have sf1 := (unhide HR3).2.2.2 1
    have sf2 := (unhide HR3).2.2.2 2
    have tf0 := (unhide HR4).2.2.2 0
    have tf1 := (unhide HR4).2.2.2 1
    have tf2 := (unhide HR4).2.2.2 2
    have nw1 : w.heap.size ≠ w.heap.size + 1 := by omega
    have nw2 : w.heap.size ≠ w.heap.size + 1 + 1 := by omega
    have nw3 : w.heap.size + 1 ≠ w.heap.size + 1 + 1 := by omega
    clear hK K
    try simp only [Act.put, List.setIfInBounds_toArray, List.set_cons_zero, List.set_cons_succ]
    refine wpAnyH_ready (rs := [5]) (by kernel_rfl) (by simp) ?_
    refine AllReadyH.cons (i := 5) (o := ⟨none, Op.store 27 (Operand.tmp 2) (Operand.tmp 33), 0, _, _, none⟩) rfl (fun K hK => ?_) AllReadyH.nil
    go_simp
    refine hK.out _ _ (S7.set (S7.set (S7.set hHeld (by omega) (by omega) (by omega) _) (by omega) (by omega) (by omega) _) (by omega) (by omega) (by omega) _) (fun hHeld => ?_)
    clear hK K
    try simp only [Act.put, List.setIfInBounds_toArray, List.set_cons_zero, List.set_cons_succ]
    refine wpAnyH_ready (rs := [6]) (by kernel_rfl) (by simp) ?_
    refine AllReadyH.cons (i := 6) (o := ⟨none, Op.store 30 (Operand.tmp 3) (Operand.tmp 36), 0, _, _, none⟩) rfl (fun K hK => ?_) AllReadyH.nil
    go_simp
    refine hK.out _ _ (S7.set (S7.set (S7.set hHeld (by omega) (by omega) (by omega) _) (by omega) (by omega) (by omega) _) (by omega) (by omega) (by omega) _) (fun hHeld => ?_)
    clear hK K
    try simp only [Act.put, List.setIfInBounds_toArray, List.set_cons_zero, List.set_cons_succ]
    refine wpAnyH_ready (rs := [7]) (by kernel_rfl) (by simp) ?_
    refine AllReadyH.cons (i := 7) (o := ⟨none, Op.store 37 (Operand.tmp 4) (Operand.tmp 37), 0, _, _, none⟩) rfl (fun K hK => ?_) AllReadyH.nil
    go_simp
    refine hK.out _ _ (S7.set (S7.set (S7.set hHeld (by omega) (by omega) (by omega) _) (by omega) (by omega) (by omega) _) (by omega) (by omega) (by omega) _) (fun hHeld => ?_)
    clear hK K
    try simp only [Act.put, List.setIfInBounds_toArray, List.set_cons_zero, List.set_cons_succ]
    refine wpAnyH_done (by kernel_rfl) ?_ _
    clear hHeld
    go_wp2
    have bD := unhide HD
    have bA := unhide HRE
    have lX := unhide HLX
    have lY := unhide HXL
    have hh : ∀ p, rb ≤ p → (W9 v1 w.heap.size (w.heap.size + 1) (w.heap.size + 1 + 1) (.slice a1 vs.length c1) (.slice a2 fs.length c2) (.slice a3 rs.length c3) (.bool li2) (.slice oa2 xs3.length ca2) (.slice ob ys.length cb) (.slice ia n1 ja) (.slice ib n2 jb) (.slice ic n3 jc)).heap[p]? = v1.heap[p]? := fun p hp => w9_heap _ _ _ _ _ _ _ _ _ _ _ _ _ _ (by omega) (by omega) (by omega)
    have hu01 : rb < u1.heap.size := hu01'
    have bD2 := bD.at' (fun p h1 _ => hh p (by omega)) (by simp [W9, World.setCell])
    have bA2 := (RowsT.of bA).at' (fun p h1 _ => hh p (by omega)) (by simp [W9, World.setCell])
    have bS := (unhide HST).at4 (v := W9 v1 w.heap.size (w.heap.size + 1) (w.heap.size + 1 + 1) (.slice a1 vs.length c1) (.slice a2 fs.length c2) (.slice a3 rs.length c3) (.bool li2) (.slice oa2 xs3.length ca2) (.slice ob ys.length cb) (.slice ia n1 ja) (.slice ib n2 jb) (.slice ic n3 jc)) (fun p h1 _ => hh p (by omega)) (by simp [W9, World.setCell])
    refine bodyPost_ret (v := .tuple #[.agg #[.slice a1 vs.length c1, .slice a2 fs.length c2, .slice a3 rs.length c3], .agg #[.bool li2, .slice oa2 xs3.length ca2, .slice ob ys.length cb], .agg #[.slice ia n1 ja, .slice ib n2 jb, .slice ic n3 jc]]) (by simp [results, Tryd.results8, go_sem, r0, r1, r2, s0, s1, s2, t0, t1, t2]) rfl ⟨a1, a2, a3, c1, c2, c3, vs, fs, rs, li2, oa2, ca2, ob, cb, xs3, ys, _, ib, ic, ja, jb, jc, is, bs, js, by rw [hlen1, (unhide HN).2.1, (unhide HN).2.2.1], bD2.1, bD2.2.1, bD2.2.2.1, unhide HZ, bA2.1.ivs (by omega), ⟨bS.ints, bS.mats (by rw [(unhide HN).2.2.1]; omega)⟩, below_w9 (unhide HB) (Nat.le_refl _) (Nat.le_succ _) (by omega)⟩
  by_cases hn : 0 < n1
  · have hnI : (0 : Int) < (n1 : Int) := by omega
    have hi0 : 0 < is.length := by have := (unhide HN).1; omega
    obtain ⟨g1, rfl, hg1, _⟩ := (unhide HST).w1 hi0 0
    go_upto_region 6 with fail
    clear g0
    obtain ⟨wz, hwz⟩ : ∃ x, x = u8.drew := ⟨_, rfl⟩
    have HR2 := hide (show C3 wz w.heap.size _ _ _ by rw [hwz]; exact unhide HR2)
    have HR3 := hide (show C3 wz (w.heap.size + 1) _ _ _ by rw [hwz]; exact unhide HR3)
    have HR4 := hide (show C3 wz (w.heap.size + 1 + 1) _ _ _ by rw [hwz]; exact unhide HR4)
    have HGD := hide (show C3 wz u2.heap.size _ _ _ by rw [hwz]; exact unhide HGD)
    have HGE := hide (show C3 wz u4.heap.size _ _ _ by rw [hwz]; exact unhide HGE)
    have HGS := hide (show C3 wz u6.heap.size _ _ _ by rw [hwz]; exact unhide HGS)
    have HD := hide (show DeP wz u1.heap.size u2.heap.size a1 a2 a3 vs fs rs by rw [hwz]; exact (unhide HD).call (Below.refl _ _).drew)
    have HRA := hide (show RowsT wz u3.heap.size u4.heap.size oa ca ob cb xs ys by rw [hwz]; exact (unhide HRA).call (Below.refl _ _).drew)
    have HB := hide (show Below w.heap.size w wz by rw [hwz]; exact (unhide HB).drew)
    have HL := hide (show Rdr wz rb a len cap by rw [hwz]; exact unhide HL)
    have HST := hide (show StW wz u5.heap.size B1 T _ ib ic jc gs _ bs js by rw [hwz]; exact (unhide HST).call (Below.refl _ _).drew)
    have hzz : u8.heap.size ≤ wz.heap.size := by rw [hwz]; exact Nat.le_refl _
    refine wp_region_held_drew (S := fun u9 => u9.cell? ⟨u6.heap.size, 0, none⟩ = some (.slice (some ⟨g1, 0, none⟩) n1 ja) ∧ Hid True) (by kernel_rfl) (by rw [← hwz]; exact ⟨(unhide HGS).1, hide trivial⟩) (fun hHeld => ?_)
    rw [← hwz] at hHeld ⊢
    clear hwz
    refine wpAnyH_take (i := 0) (oi := ⟨some 28, Op.fieldAddr 37 (Operand.tmp 8) 0, 0, _, _, none⟩) (v := ?_) rfl (by kernel_rfl) (by kernel_rfl) (by kernel_rfl) (fun _ _ _ h => h) (Or.inl ⟨by rfl, ?_⟩) (by assumption) ?_
    rotate_left
    · (intro w9 hSw; (try dsimp only at hSw); go_simp; try with_reducible rfl)
    try simp only [Act.put, List.setIfInBounds_toArray, List.set_cons_zero, List.set_cons_succ]
    refine wpAnyH_take (i := 1) (oi := ⟨some 29, Op.load 33 (Operand.tmp 28), 33, _, _, none⟩) (v := ?_) rfl (by kernel_rfl) (by kernel_rfl) (by kernel_rfl) (fun _ _ _ h => h) (Or.inl ⟨by rfl, ?_⟩) (by assumption) ?_
    rotate_left
    · (intro w9 hSw; (try dsimp only at hSw); go_simp; try with_reducible rfl)
    try simp only [Act.put, List.setIfInBounds_toArray, List.set_cons_zero, List.set_cons_succ]
    refine wpAnyH_take (i := 2) (oi := ⟨some 30, Op.move (Operand.tmp 5), 60, _, _, none⟩) (v := ?_) rfl (by kernel_rfl) (by kernel_rfl) (by kernel_rfl) (fun _ _ _ h => h) (Or.inl ⟨by rfl, ?_⟩) (by assumption) ?_
    rotate_left
    · (intro w9 hSw; (try dsimp only at hSw); go_simp; try with_reducible rfl)
    try simp only [Act.put, List.setIfInBounds_toArray, List.set_cons_zero, List.set_cons_succ]
    refine wpAnyH_ready (rs := [3]) (by kernel_rfl) (by simp) ?_
    refine AllReadyH.cons (i := 3) (o := ⟨some 31, Op.call { callee := Callee.value (Operand.func 33), args := #[Operand.tmp 30], argTypes := #[60] }, 2, _, _, none⟩) rfl (fun K hK => ?_) AllReadyH.nil
    go_simp
    refine (num_c rb a len cap _ (unhide HL)).mono ?_
    rintro e v0 ⟨n, rfl, _, hl⟩
    have hzv := hl.2.size
    have HR2 := hide ((unhide HR2).kp hl.2 (by omega))
    have HR3 := hide ((unhide HR3).kp hl.2 (by omega))
    have HR4 := hide ((unhide HR4).kp hl.2 (by omega))
    have HD := hide ((unhide HD).kp hl.2 (by omega))
    have HGD := hide ((unhide HGD).kp hl.2 (by omega))
    have HGE := hide ((unhide HGE).kp hl.2 (by omega))
    have HGS := hide ((unhide HGS).kp hl.2 (by omega))
    have HRA := hide ((unhide HRA).kp hl.2 (by omega))
    have HST := hide ((unhide HST).kp hl.2 (by omega))
    have HB := hide ((unhide HB).trans (hl.2.below (by omega) (unhide HB).size))
    have HL := hide hl.1
    clear hl hHeld
    refine hK.out _ _ ⟨(unhide HGS).1, hide trivial⟩ (fun hHeld => ?_)
    clear hK K
    try simp only [Act.put, List.setIfInBounds_toArray, List.set_cons_zero, List.set_cons_succ]
    refine wpAnyH_take (i := 4) (oi := ⟨some 32, Op.indexAddr 33 (Operand.tmp 29) (Operand.const (Value.int IntKind.i64 0)), 0, _, _, none⟩) (v := ?_) rfl (by kernel_rfl) (by kernel_rfl) (by kernel_rfl) (fun _ _ _ h => h) (Or.inl ⟨by rfl, ?_⟩) (by assumption) ?_
    rotate_left
    · (intro w9 hSw; (try dsimp only at hSw); go_simp; try with_reducible rfl)
    try simp only [Act.put, List.setIfInBounds_toArray, List.set_cons_zero, List.set_cons_succ]
    refine wpAnyH_ready (rs := [5]) (by kernel_rfl) (by simp) ?_
    refine AllReadyH.cons (i := 5) (o := ⟨none, Op.store 2 (Operand.tmp 32) (Operand.tmp 31), 0, _, _, none⟩) rfl (fun K hK => ?_) AllReadyH.nil
    obtain ⟨g9, eg, hg9, ⟨y, hy9⟩, hf9, hst9⟩ := (unhide HST).w1 hi0 n
    cases eg
    go_simp
    refine hK.out _ _ ⟨(World.cell?_setCell_other _ _ _ _ (fun e => by have := congrArg Addr.block e; simp at this; omega)).trans hHeld.1, hide trivial⟩ (fun hHeld => ?_)
    have HST := hide hst9
    have HR2 := hide ((unhide HR2).other (c := g1) (o := 0) (v := .int .i64 n) (by omega))
    have HR3 := hide ((unhide HR3).other (c := g1) (o := 0) (v := .int .i64 n) (by omega))
    have HR4 := hide ((unhide HR4).other (c := g1) (o := 0) (v := .int .i64 n) (by omega))
    have HGD := hide ((unhide HGD).other (c := g1) (o := 0) (v := .int .i64 n) (by omega))
    have HGE := hide ((unhide HGE).other (c := g1) (o := 0) (v := .int .i64 n) (by omega))
    have HGS := hide ((unhide HGS).other (c := g1) (o := 0) (v := .int .i64 n) (by omega))
    have HD := hide ((unhide HD).set (c := g1) (o := 0) (.inr (by omega)) (.int .i64 n))
    have HRA := hide ((unhide HRA).set (c := g1) (o := 0) (.inr (by omega)) (.int .i64 n))
    have HB := hide ((unhide HB).setCell (p := ⟨g1, 0, none⟩) (by show w.heap.size ≤ g1; omega) (.int .i64 n))
    have HL := hide (rdr_set (unhide HL) (c := g1) (o := 0) (by omega) (fun y e1 e2 => by have := (unhide HCO) y e1 e2; omega) (.int .i64 n))
    have hsz9 : (v0.setCell ⟨g1, 0, none⟩ (.int .i64 n)).heap.size = v0.heap.size := by simp [World.setCell]
    have hsz9a := Nat.le_of_eq hsz9.symm
    clear hst9 hy9 hf9 hHeld hsz9
    generalize v0.setCell ⟨g1, 0, none⟩ (.int .i64 n) = ux at HST HR2 HR3 HR4 HGD HGE HGS HD HRA HB HL hsz9a ⊢
    clear hK K
    try simp only [Act.put, List.setIfInBounds_toArray, List.set_cons_zero, List.set_cons_succ]
    refine wpAnyH_done (by kernel_rfl) ?_ _
    have hlen1 : (is.set 0 n).length = n1 := by rw [List.length_set]; exact (unhide HN).1
    have hu01' : rb < u1.heap.size := hrs
    go_upto_region 7 with fail
    obtain ⟨wz, hwz⟩ : ∃ x, x = ux.drew := ⟨_, rfl⟩
    have HR2 := hide (show C3 wz w.heap.size _ _ _ by rw [hwz]; exact unhide HR2)
    have HR3 := hide (show C3 wz (w.heap.size + 1) _ _ _ by rw [hwz]; exact unhide HR3)
    have HR4 := hide (show C3 wz (w.heap.size + 1 + 1) _ _ _ by rw [hwz]; exact unhide HR4)
    have HGD := hide (show C3 wz u2.heap.size _ _ _ by rw [hwz]; exact unhide HGD)
    have HGE := hide (show C3 wz u4.heap.size _ _ _ by rw [hwz]; exact unhide HGE)
    have HGS := hide (show C3 wz u6.heap.size _ _ _ by rw [hwz]; exact unhide HGS)
    have HD := hide (show DeP wz u1.heap.size u2.heap.size a1 a2 a3 vs fs rs by rw [hwz]; exact (unhide HD).call (Below.refl _ _).drew)
    have HRA := hide (show RowsT wz u3.heap.size u4.heap.size oa ca ob cb xs ys by rw [hwz]; exact (unhide HRA).call (Below.refl _ _).drew)
    have HB := hide (show Below w.heap.size w wz by rw [hwz]; exact (unhide HB).drew)
    have HL := hide (show Rdr wz rb a len cap by rw [hwz]; exact unhide HL)
    have HST := hide (show StW wz u5.heap.size B1 T _ ib ic jc gs _ bs js by rw [hwz]; exact (unhide HST).call (Below.refl _ _).drew)
    have hzz : ux.heap.size ≤ wz.heap.size := by rw [hwz]; exact Nat.le_refl _
    refine wp_region_held_drew (S := S7 u2.heap.size u4.heap.size u6.heap.size (.slice a1 vs.length c1) (.slice a2 fs.length c2) (.slice a3 rs.length c3) (.bool li) (.slice oa xs.length ca) (.slice ob ys.length cb) (.slice (some ⟨g1, 0, none⟩) n1 ja) (.slice ib n2 jb) (.slice ic n3 jc)) (by kernel_rfl) (by rw [← hwz]; exact S7.of (unhide HGD) (unhide HGE) (unhide HGS)) (fun hHeld => ?_)
    rw [← hwz] at hHeld ⊢
    clear hwz
    refine wpAnyH_take (i := 0) (oi := ⟨some 33, Op.load 27 (Operand.tmp 6), 27, _, _, none⟩) (v := ?_) rfl (by kernel_rfl) (by kernel_rfl) (by kernel_rfl) (fun _ _ _ h => h) (Or.inl ⟨by rfl, ?_⟩) (by assumption) ?_
    rotate_left
    · (intro w9 hSw; (try dsimp only at hSw); go_simp; try with_reducible rfl)
    try simp only [Act.put, List.setIfInBounds_toArray, List.set_cons_zero, List.set_cons_succ]
    refine wpAnyH_take (i := 1) (oi := ⟨some 34, Op.move (Operand.tmp 5), 60, _, _, none⟩) (v := ?_) rfl (by kernel_rfl) (by kernel_rfl) (by kernel_rfl) (fun _ _ _ h => h) (Or.inl ⟨by rfl, ?_⟩) (by assumption) ?_
    rotate_left
    · (intro w9 hSw; (try dsimp only at hSw); go_simp; try with_reducible rfl)
    try simp only [Act.put, List.setIfInBounds_toArray, List.set_cons_zero, List.set_cons_succ]
    refine wpAnyH_take (i := 2) (oi := ⟨some 35, Op.load 30 (Operand.tmp 7), 30, _, _, none⟩) (v := ?_) rfl (by kernel_rfl) (by kernel_rfl) (by kernel_rfl) (fun _ _ _ h => h) (Or.inl ⟨by rfl, ?_⟩) (by assumption) ?_
    rotate_left
    · (intro w9 hSw; (try dsimp only at hSw); go_simp; try with_reducible rfl)
    try simp only [Act.put, List.setIfInBounds_toArray, List.set_cons_zero, List.set_cons_succ]
    refine wpAnyH_take (i := 4) (oi := ⟨some 37, Op.load 37 (Operand.tmp 8), 37, _, _, none⟩) (v := ?_) rfl (by kernel_rfl) (by kernel_rfl) (by kernel_rfl) (fun _ _ _ h => h) (Or.inl ⟨by rfl, ?_⟩) (by assumption) ?_
    rotate_left
    · (intro w9 hSw; (try dsimp only at hSw); go_simp; try with_reducible rfl)
    try simp only [Act.put, List.setIfInBounds_toArray, List.set_cons_zero, List.set_cons_succ]
    refine wpAnyH_ready (rs := [3]) (by kernel_rfl) (by simp) ?_
    refine AllReadyH.cons (i := 3) (o := ⟨some 36, Op.call { callee := Callee.value (Operand.func 34), args := #[Operand.tmp 34, Operand.tmp 35], argTypes := #[60, 30] }, 30, _, _, none⟩) rfl (fun K hK => ?_) AllReadyH.nil
    go_simp
    refine (hurtEnv_c rb a len cap li oa ca ob cb xs ys u3.heap.size wz (unhide HL) (unhide HRA).1 (by omega) (by omega) (fun x e1 e2 => by have := (unhide HCO) x e1 e2; omega) (by have := unhide HXL; omega)).mono ?_
    rintro e v1 ⟨li2, oa2, ca2, xs3, rfl, hre, hlx, hq, hmv, hin⟩
    have hbo := (unhide HRA).2.1
    have hs1 : wz.heap.size ≤ v1.heap.size := hq.2.2.2.2.1
    have HR2 := hide ((unhide HR2).hu hq (by omega) (fun x e => by have := hbo x e; omega))
    have HR3 := hide ((unhide HR3).hu hq (by omega) (fun x e => by have := hbo x e; omega))
    have HR4 := hide ((unhide HR4).hu hq (by omega) (fun x e => by have := hbo x e; omega))
    have HGD := hide ((unhide HGD).hu hq (by omega) (fun x e => by have := hbo x e; omega))
    have HGE := hide ((unhide HGE).hu hq (by omega) (fun x e => by have := hbo x e; omega))
    have HGS := hide ((unhide HGS).hu hq (by omega) (fun x e => by have := hbo x e; omega))
    have HD := hide ((unhide HD).hu hq (by omega) (fun x e => by have := hbo x e; omega))
    have HST := hide ((unhide HST).hu hq (by omega) (fun x e => by have := hbo x e; omega))
    have HB := hide ((unhide HB).trans (hq.below (by omega) (unhide HB).size (fun x e => by have := hbo x e; omega)))
    have HRE := hide hre
    have HLX := hide hlx
    clear hre hlx hq hmv hin hbo
    refine hK.out _ _ (S7.of (unhide HGD) (unhide HGE) (unhide HGS)) (fun hHeld => ?_)
    have r0 := (unhide HR2).1
    have r1 := (unhide HR2).2.1
    have r2 := (unhide HR2).2.2.1
    have s0 := (unhide HR3).1
    have s1 := (unhide HR3).2.1
    have s2 := (unhide HR3).2.2.1
    have t0 := (unhide HR4).1
    have t1 := (unhide HR4).2.1
    have t2 := (unhide HR4).2.2.1
    have rf0 := (unhide HR2).2.2.2 0
    have rf1 := (unhide HR2).2.2.2 1
    have rf2 := (unhide HR2).2.2.2 2
    have sf0 := (unhide HR3).2.2.2 0
    have sf1 := (unhide HR3).2.2.2 1
    have sf2 := (unhide HR3).2.2.2 2
    have tf0 := (unhide HR4).2.2.2 0
    have tf1 := (unhide HR4).2.2.2 1
    have tf2 := (unhide HR4).2.2.2 2
    have nw1 : w.heap.size ≠ w.heap.size + 1 := by omega
    have nw2 : w.heap.size ≠ w.heap.size + 1 + 1 := by omega
    have nw3 : w.heap.size + 1 ≠ w.heap.size + 1 + 1 := by omega
    clear hK K
    try simp only [Act.put, List.setIfInBounds_toArray, List.set_cons_zero, List.set_cons_succ]
    refine wpAnyH_ready (rs := [5]) (by kernel_rfl) (by simp) ?_
    refine AllReadyH.cons (i := 5) (o := ⟨none, Op.store 27 (Operand.tmp 2) (Operand.tmp 33), 0, _, _, none⟩) rfl (fun K hK => ?_) AllReadyH.nil
    go_simp
    refine hK.out _ _ (S7.set (S7.set (S7.set hHeld (by omega) (by omega) (by omega) _) (by omega) (by omega) (by omega) _) (by omega) (by omega) (by omega) _) (fun hHeld => ?_)
    clear hK K
    try simp only [Act.put, List.setIfInBounds_toArray, List.set_cons_zero, List.set_cons_succ]
    refine wpAnyH_ready (rs := [6]) (by kernel_rfl) (by simp) ?_
    refine AllReadyH.cons (i := 6) (o := ⟨none, Op.store 30 (Operand.tmp 3) (Operand.tmp 36), 0, _, _, none⟩) rfl (fun K hK => ?_) AllReadyH.nil
    go_simp
    refine hK.out _ _ (S7.set (S7.set (S7.set hHeld (by omega) (by omega) (by omega) _) (by omega) (by omega) (by omega) _) (by omega) (by omega) (by omega) _) (fun hHeld => ?_)
    clear hK K
    try simp only [Act.put, List.setIfInBounds_toArray, List.set_cons_zero, List.set_cons_succ]
    refine wpAnyH_ready (rs := [7]) (by kernel_rfl) (by simp) ?_
    refine AllReadyH.cons (i := 7) (o := ⟨none, Op.store 37 (Operand.tmp 4) (Operand.tmp 37), 0, _, _, none⟩) rfl (fun K hK => ?_) AllReadyH.nil
    go_simp
    refine hK.out _ _ (S7.set (S7.set (S7.set hHeld (by omega) (by omega) (by omega) _) (by omega) (by omega) (by omega) _) (by omega) (by omega) (by omega) _) (fun hHeld => ?_)
    clear hK K
    try simp only [Act.put, List.setIfInBounds_toArray, List.set_cons_zero, List.set_cons_succ]
    refine wpAnyH_done (by kernel_rfl) ?_ _
    clear hHeld
    go_wp2
    have bD := unhide HD
    have bA := unhide HRE
    have lX := unhide HLX
    have lY := unhide HXL
    have hh : ∀ p, rb ≤ p → (W9 v1 w.heap.size (w.heap.size + 1) (w.heap.size + 1 + 1) (.slice a1 vs.length c1) (.slice a2 fs.length c2) (.slice a3 rs.length c3) (.bool li2) (.slice oa2 xs3.length ca2) (.slice ob ys.length cb) (.slice (some ⟨g1, 0, none⟩) n1 ja) (.slice ib n2 jb) (.slice ic n3 jc)).heap[p]? = v1.heap[p]? := fun p hp => w9_heap _ _ _ _ _ _ _ _ _ _ _ _ _ _ (by omega) (by omega) (by omega)
    have hu01 : rb < u1.heap.size := hu01'
    have bD2 := bD.at' (fun p h1 _ => hh p (by omega)) (by simp [W9, World.setCell])
    have bA2 := (RowsT.of bA).at' (fun p h1 _ => hh p (by omega)) (by simp [W9, World.setCell])
    have bS := (unhide HST).at4 (v := W9 v1 w.heap.size (w.heap.size + 1) (w.heap.size + 1 + 1) (.slice a1 vs.length c1) (.slice a2 fs.length c2) (.slice a3 rs.length c3) (.bool li2) (.slice oa2 xs3.length ca2) (.slice ob ys.length cb) (.slice (some ⟨g1, 0, none⟩) n1 ja) (.slice ib n2 jb) (.slice ic n3 jc)) (fun p h1 _ => hh p (by omega)) (by simp [W9, World.setCell])
    refine bodyPost_ret (v := .tuple #[.agg #[.slice a1 vs.length c1, .slice a2 fs.length c2, .slice a3 rs.length c3], .agg #[.bool li2, .slice oa2 xs3.length ca2, .slice ob ys.length cb], .agg #[.slice (some ⟨g1, 0, none⟩) n1 ja, .slice ib n2 jb, .slice ic n3 jc]]) (by simp [results, Tryd.results8, go_sem, r0, r1, r2, s0, s1, s2, t0, t1, t2]) rfl ⟨a1, a2, a3, c1, c2, c3, vs, fs, rs, li2, oa2, ca2, ob, cb, xs3, ys, _, ib, ic, ja, jb, jc, is.set 0 n, bs, js, by rw [hlen1, (unhide HN).2.1, (unhide HN).2.2.1], bD2.1, bD2.2.1, bD2.2.2.1, unhide HZ, bA2.1.ivs (by omega), ⟨bS.ints, bS.mats (by rw [(unhide HN).2.2.1]; omega)⟩, below_w9 (unhide HB) (Nat.le_refl _) (Nat.le_succ _) (by omega)⟩
  · have hnI : ¬ (0 : Int) < (n1 : Int) := by omega
    have hlen1 : is.length = n1 := (unhide HN).1
    have hu01' : rb < u1.heap.size := hrs
    go_upto_region 7 with fail
    obtain ⟨wz, hwz⟩ : ∃ x, x = u8.drew := ⟨_, rfl⟩
    have HR2 := hide (show C3 wz w.heap.size _ _ _ by rw [hwz]; exact unhide HR2)
    have HR3 := hide (show C3 wz (w.heap.size + 1) _ _ _ by rw [hwz]; exact unhide HR3)
    have HR4 := hide (show C3 wz (w.heap.size + 1 + 1) _ _ _ by rw [hwz]; exact unhide HR4)
    have HGD := hide (show C3 wz u2.heap.size _ _ _ by rw [hwz]; exact unhide HGD)
    have HGE := hide (show C3 wz u4.heap.size _ _ _ by rw [hwz]; exact unhide HGE)
    have HGS := hide (show C3 wz u6.heap.size _ _ _ by rw [hwz]; exact unhide HGS)
    have HD := hide (show DeP wz u1.heap.size u2.heap.size a1 a2 a3 vs fs rs by rw [hwz]; exact (unhide HD).call (Below.refl _ _).drew)
    have HRA := hide (show RowsT wz u3.heap.size u4.heap.size oa ca ob cb xs ys by rw [hwz]; exact (unhide HRA).call (Below.refl _ _).drew)
    have HB := hide (show Below w.heap.size w wz by rw [hwz]; exact (unhide HB).drew)
    have HL := hide (show Rdr wz rb a len cap by rw [hwz]; exact unhide HL)
    have HST := hide (show StW wz u5.heap.size B1 T _ ib ic jc gs _ bs js by rw [hwz]; exact (unhide HST).call (Below.refl _ _).drew)
    have hzz : u8.heap.size ≤ wz.heap.size := by rw [hwz]; exact Nat.le_refl _
    refine wp_region_held_drew (S := S7 u2.heap.size u4.heap.size u6.heap.size (.slice a1 vs.length c1) (.slice a2 fs.length c2) (.slice a3 rs.length c3) (.bool li) (.slice oa xs.length ca) (.slice ob ys.length cb) (.slice ia n1 ja) (.slice ib n2 jb) (.slice ic n3 jc)) (by kernel_rfl) (by rw [← hwz]; exact S7.of (unhide HGD) (unhide HGE) (unhide HGS)) (fun hHeld => ?_)
    rw [← hwz] at hHeld ⊢
    clear hwz
    refine wpAnyH_take (i := 0) (oi := ⟨some 33, Op.load 27 (Operand.tmp 6), 27, _, _, none⟩) (v := ?_) rfl (by kernel_rfl) (by kernel_rfl) (by kernel_rfl) (fun _ _ _ h => h) (Or.inl ⟨by rfl, ?_⟩) (by assumption) ?_
    rotate_left
    · (intro w9 hSw; (try dsimp only at hSw); go_simp; try with_reducible rfl)
    try simp only [Act.put, List.setIfInBounds_toArray, List.set_cons_zero, List.set_cons_succ]
    refine wpAnyH_take (i := 1) (oi := ⟨some 34, Op.move (Operand.tmp 5), 60, _, _, none⟩) (v := ?_) rfl (by kernel_rfl) (by kernel_rfl) (by kernel_rfl) (fun _ _ _ h => h) (Or.inl ⟨by rfl, ?_⟩) (by assumption) ?_
    rotate_left
    · (intro w9 hSw; (try dsimp only at hSw); go_simp; try with_reducible rfl)
    try simp only [Act.put, List.setIfInBounds_toArray, List.set_cons_zero, List.set_cons_succ]
    refine wpAnyH_take (i := 2) (oi := ⟨some 35, Op.load 30 (Operand.tmp 7), 30, _, _, none⟩) (v := ?_) rfl (by kernel_rfl) (by kernel_rfl) (by kernel_rfl) (fun _ _ _ h => h) (Or.inl ⟨by rfl, ?_⟩) (by assumption) ?_
    rotate_left
    · (intro w9 hSw; (try dsimp only at hSw); go_simp; try with_reducible rfl)
    try simp only [Act.put, List.setIfInBounds_toArray, List.set_cons_zero, List.set_cons_succ]
    refine wpAnyH_take (i := 4) (oi := ⟨some 37, Op.load 37 (Operand.tmp 8), 37, _, _, none⟩) (v := ?_) rfl (by kernel_rfl) (by kernel_rfl) (by kernel_rfl) (fun _ _ _ h => h) (Or.inl ⟨by rfl, ?_⟩) (by assumption) ?_
    rotate_left
    · (intro w9 hSw; (try dsimp only at hSw); go_simp; try with_reducible rfl)
    try simp only [Act.put, List.setIfInBounds_toArray, List.set_cons_zero, List.set_cons_succ]
    refine wpAnyH_ready (rs := [3]) (by kernel_rfl) (by simp) ?_
    refine AllReadyH.cons (i := 3) (o := ⟨some 36, Op.call { callee := Callee.value (Operand.func 34), args := #[Operand.tmp 34, Operand.tmp 35], argTypes := #[60, 30] }, 30, _, _, none⟩) rfl (fun K hK => ?_) AllReadyH.nil
    go_simp
    refine (hurtEnv_c rb a len cap li oa ca ob cb xs ys u3.heap.size wz (unhide HL) (unhide HRA).1 (by omega) (by omega) (fun x e1 e2 => by have := (unhide HCO) x e1 e2; omega) (by have := unhide HXL; omega)).mono ?_
    rintro e v1 ⟨li2, oa2, ca2, xs3, rfl, hre, hlx, hq, hmv, hin⟩
    have hbo := (unhide HRA).2.1
    have hs1 : wz.heap.size ≤ v1.heap.size := hq.2.2.2.2.1
    have HR2 := hide ((unhide HR2).hu hq (by omega) (fun x e => by have := hbo x e; omega))
    have HR3 := hide ((unhide HR3).hu hq (by omega) (fun x e => by have := hbo x e; omega))
    have HR4 := hide ((unhide HR4).hu hq (by omega) (fun x e => by have := hbo x e; omega))
    have HGD := hide ((unhide HGD).hu hq (by omega) (fun x e => by have := hbo x e; omega))
    have HGE := hide ((unhide HGE).hu hq (by omega) (fun x e => by have := hbo x e; omega))
    have HGS := hide ((unhide HGS).hu hq (by omega) (fun x e => by have := hbo x e; omega))
    have HD := hide ((unhide HD).hu hq (by omega) (fun x e => by have := hbo x e; omega))
    have HST := hide ((unhide HST).hu hq (by omega) (fun x e => by have := hbo x e; omega))
    have HB := hide ((unhide HB).trans (hq.below (by omega) (unhide HB).size (fun x e => by have := hbo x e; omega)))
    have HRE := hide hre
    have HLX := hide hlx
    clear hre hlx hq hmv hin hbo
    refine hK.out _ _ (S7.of (unhide HGD) (unhide HGE) (unhide HGS)) (fun hHeld => ?_)
    have r0 := (unhide HR2).1
    have r1 := (unhide HR2).2.1
    have r2 := (unhide HR2).2.2.1
    have s0 := (unhide HR3).1
    have s1 := (unhide HR3).2.1
    have s2 := (unhide HR3).2.2.1
    have t0 := (unhide HR4).1
    have t1 := (unhide HR4).2.1
    have t2 := (unhide HR4).2.2.1
    have rf0 := (unhide HR2).2.2.2 0
    have rf1 := (unhide HR2).2.2.2 1
    have rf2 := (unhide HR2).2.2.2 2
    have sf0 := (unhide HR3).2.2.2 0
    have sf1 := (unhide HR3).2.2.2 1
    have sf2 := (unhide HR3).2.2.2 2
    have tf0 := (unhide HR4).2.2.2 0
    have tf1 := (unhide HR4).2.2.2 1
    have tf2 := (unhide HR4).2.2.2 2
    have nw1 : w.heap.size ≠ w.heap.size + 1 := by omega
    have nw2 : w.heap.size ≠ w.heap.size + 1 + 1 := by omega
    have nw3 : w.heap.size + 1 ≠ w.heap.size + 1 + 1 := by omega
    clear hK K
    try simp only [Act.put, List.setIfInBounds_toArray, List.set_cons_zero, List.set_cons_succ]
    refine wpAnyH_ready (rs := [5]) (by kernel_rfl) (by simp) ?_
    refine AllReadyH.cons (i := 5) (o := ⟨none, Op.store 27 (Operand.tmp 2) (Operand.tmp 33), 0, _, _, none⟩) rfl (fun K hK => ?_) AllReadyH.nil
    go_simp
    refine hK.out _ _ (S7.set (S7.set (S7.set hHeld (by omega) (by omega) (by omega) _) (by omega) (by omega) (by omega) _) (by omega) (by omega) (by omega) _) (fun hHeld => ?_)
    clear hK K
    try simp only [Act.put, List.setIfInBounds_toArray, List.set_cons_zero, List.set_cons_succ]
    refine wpAnyH_ready (rs := [6]) (by kernel_rfl) (by simp) ?_
    refine AllReadyH.cons (i := 6) (o := ⟨none, Op.store 30 (Operand.tmp 3) (Operand.tmp 36), 0, _, _, none⟩) rfl (fun K hK => ?_) AllReadyH.nil
    go_simp
    refine hK.out _ _ (S7.set (S7.set (S7.set hHeld (by omega) (by omega) (by omega) _) (by omega) (by omega) (by omega) _) (by omega) (by omega) (by omega) _) (fun hHeld => ?_)
    clear hK K
    try simp only [Act.put, List.setIfInBounds_toArray, List.set_cons_zero, List.set_cons_succ]
    refine wpAnyH_ready (rs := [7]) (by kernel_rfl) (by simp) ?_
    refine AllReadyH.cons (i := 7) (o := ⟨none, Op.store 37 (Operand.tmp 4) (Operand.tmp 37), 0, _, _, none⟩) rfl (fun K hK => ?_) AllReadyH.nil
    go_simp
    refine hK.out _ _ (S7.set (S7.set (S7.set hHeld (by omega) (by omega) (by omega) _) (by omega) (by omega) (by omega) _) (by omega) (by omega) (by omega) _) (fun hHeld => ?_)
    clear hK K
    try simp only [Act.put, List.setIfInBounds_toArray, List.set_cons_zero, List.set_cons_succ]
    refine wpAnyH_done (by kernel_rfl) ?_ _
    clear hHeld
    go_wp2
    have bD := unhide HD
    have bA := unhide HRE
    have lX := unhide HLX
    have lY := unhide HXL
    have hh : ∀ p, rb ≤ p → (W9 v1 w.heap.size (w.heap.size + 1) (w.heap.size + 1 + 1) (.slice a1 vs.length c1) (.slice a2 fs.length c2) (.slice a3 rs.length c3) (.bool li2) (.slice oa2 xs3.length ca2) (.slice ob ys.length cb) (.slice ia n1 ja) (.slice ib n2 jb) (.slice ic n3 jc)).heap[p]? = v1.heap[p]? := fun p hp => w9_heap _ _ _ _ _ _ _ _ _ _ _ _ _ _ (by omega) (by omega) (by omega)
    have hu01 : rb < u1.heap.size := hu01'
    have bD2 := bD.at' (fun p h1 _ => hh p (by omega)) (by simp [W9, World.setCell])
    have bA2 := (RowsT.of bA).at' (fun p h1 _ => hh p (by omega)) (by simp [W9, World.setCell])
    have bS := (unhide HST).at4 (v := W9 v1 w.heap.size (w.heap.size + 1) (w.heap.size + 1 + 1) (.slice a1 vs.length c1) (.slice a2 fs.length c2) (.slice a3 rs.length c3) (.bool li2) (.slice oa2 xs3.length ca2) (.slice ob ys.length cb) (.slice ia n1 ja) (.slice ib n2 jb) (.slice ic n3 jc)) (fun p h1 _ => hh p (by omega)) (by simp [W9, World.setCell])
    refine bodyPost_ret (v := .tuple #[.agg #[.slice a1 vs.length c1, .slice a2 fs.length c2, .slice a3 rs.length c3], .agg #[.bool li2, .slice oa2 xs3.length ca2, .slice ob ys.length cb], .agg #[.slice ia n1 ja, .slice ib n2 jb, .slice ic n3 jc]]) (by simp [results, Tryd.results8, go_sem, r0, r1, r2, s0, s1, s2, t0, t1, t2]) rfl ⟨a1, a2, a3, c1, c2, c3, vs, fs, rs, li2, oa2, ca2, ob, cb, xs3, ys, _, ib, ic, ja, jb, jc, is, bs, js, by rw [hlen1, (unhide HN).2.1, (unhide HN).2.2.1], bD2.1, bD2.2.1, bD2.2.2.1, unhide HZ, bA2.1.ivs (by omega), ⟨bS.ints, bS.mats (by rw [(unhide HN).2.2.1]; omega)⟩, below_w9 (unhide HB) (Nat.le_refl _) (Nat.le_succ _) (by omega)⟩
end Go.Proofs.YthpnbmdmkmkicaaDoor

