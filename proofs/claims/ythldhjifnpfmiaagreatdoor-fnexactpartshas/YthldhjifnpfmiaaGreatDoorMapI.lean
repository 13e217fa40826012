/- Whether parts have a store, as the specification and the program tell it. -/
import Derived.Test.YthldhjifnpfmiaaGreatDoorMapF
import Derived.Test.YthldhjifnpfmiaaGreatDoorMapZ
import Derived.Test.YthldhjifnpfmiaaGreatDoorTabI
import Derived.Test.YthldhjifnpfmiaaGreatDoorParF
import Derived.Test.YthldhjifnpfmiaaGreatDoorParG
namespace Go.Proofs.YthldhjifnpfmiaaGreatDoor
open Go.RowKit Go.Maps
set_option linter.unusedSimpArgs false
set_option linter.unusedVariables false

theorem AtP.tabs {w : World} {g i : Nat} {e : PR} (h : AtP w g i e) : ∃ g1 g2, w.cell? ⟨g, i * 2, none⟩ = some (.slice (some ⟨g1, 0, none⟩) e.1.length e.1.length) ∧ w.cell? ⟨g, i * 2 + 1, none⟩ = some (.slice (some ⟨g2, 0, none⟩) e.2.length e.2.length) ∧ OwnV w g1 e.1 ∧ OwnE w g2 e.2 := by
  obtain ⟨g1, g2, _, _, h1, h2, h3, h4⟩ := h
  exact ⟨g1, g2, h1, h2, h3, h4⟩
/-- Whether the part of a token has a store. -/
def hasP (ps : List PR) (t : List (Int × Int)) (is : List Int) (bs : List Bool) (js : List (List Int)) : Bool := match posT ps t ps.length with
  | some i => hasT (ps.getD i ([], [])).2 is bs js
  | none => false
def phasB (vs fs : List ByteArray) (rs : List (ByteArray × Int)) (ps : List PR) (t : List (Int × Int)) (is : List Int) (bs : List Bool) (js : List (List Int)) : Bool := partsB vs fs rs ps && (tokB t && (storeB vs fs rs is bs js && hasP ps t is bs js))
theorem hasP_at {vs fs : List ByteArray} {rs : List (ByteArray × Int)} {ps : List PR} (h : partsB vs fs rs ps = true) (is : List Int) (bs : List Bool) (js : List (List Int)) {t : List (Int × Int)} {i : Nat} (hi : i < ps.length) (e : ps[i].1 = t) : hasP ps t is bs js = hasT ps[i].2 is bs js := by
  unfold hasP
  rw [posT_is h hi e]
  simp only [getD_at ps i hi]
theorem hasP_no {ps : List PR} (is : List Int) (bs : List Bool) (js : List (List Int)) {t : List (Int × Int)} (h : ∀ i, (hi : i < ps.length) → ps[i].1 ≠ t) : hasP ps t is bs js = false := by
  unfold hasP
  rw [posT_no h]
/-- Two structs of three cells, and one cell more. -/
@[reducible] def J7 (w0 : World) (a q : Nat) (x y z x1 y1 z1 : Value) (p : Addr) (v : Value) (u : World) : Prop := u.cell? p = some v ∧ J6 w0 a q x y z x1 y1 z1 u
theorem J7.call {w0 u v : World} {a q : Nat} {x y z x1 y1 z1 t : Value} {p : Addr} (k : J7 w0 a q x y z x1 y1 z1 p t u) (hb : Below u.heap.size u v) : J7 w0 a q x y z x1 y1 z1 p t v := ⟨(hb.cell (World.block_lt_of_cell? u _ k.1)).trans k.1, k.2.call hb⟩
@[reducible] def J10 (w0 : World) (a q b i : Nat) (x y z x1 y1 z1 x2 y2 z2 : Value) (p : Addr) (v : Value) (u : World) : Prop := u.cell? p = some v ∧ J9 w0 a q b i x y z x1 y1 z1 x2 y2 z2 u
theorem J10.call {w0 u v : World} {a q b i : Nat} {x y z x1 y1 z1 x2 y2 z2 t : Value} {p : Addr} (k : J10 w0 a q b i x y z x1 y1 z1 x2 y2 z2 p t u) (hb : Below u.heap.size u v) : J10 w0 a q b i x y z x1 y1 z1 x2 y2 z2 p t v := ⟨(hb.cell (World.block_lt_of_cell? u _ k.1)).trans k.1, k.2.call hb⟩
set_option maxRecDepth 20000 in
set_option maxHeartbeats 4000000 in
theorem sPartsHas_c (a1 a2 a3 c1 c2 c3 : Nat) (vs fs : List ByteArray) (rs : List (ByteArray × Int)) (b d : Nat) (ps : List PR) (ta : Option Addr) (tc : Nat) (t : List (Int × Int)) (g1 g2 g3 f1 f2 f3 : Nat) (is : List Int) (bs : List Bool) (js : List (List Int)) (w : World) (hv : Strs w (some ⟨a1, 0, none⟩) vs) (hf : Strs w (some ⟨a2, 0, none⟩) fs) (hr : Arrs w (some ⟨a3, 0, none⟩) rs)
    (hz : ∀ x ∈ namesOf vs fs rs, x.size ≤ 1048576) (hp : OwnP w b ps) (ht : Ivs w ta t) (hi : Ints w (some ⟨g1, 0, none⟩) is) (hb : Bools w (some ⟨g2, 0, none⟩) bs) (hj : Mats w (some ⟨g3, 0, none⟩) js) :
    Calls Tryz.prog 8 #[.agg #[.slice (some ⟨a1, 0, none⟩) vs.length c1, .slice (some ⟨a2, 0, none⟩) fs.length c2, .slice (some ⟨a3, 0, none⟩) rs.length c3], .slice (some ⟨b, 0, none⟩) ps.length d, .slice ta t.length tc, .agg #[.slice (some ⟨g1, 0, none⟩) is.length f1, .slice (some ⟨g2, 0, none⟩) bs.length f2, .slice (some ⟨g3, 0, none⟩) js.length f3]] w fun e w' => e = .returned (.bool (phasB vs fs rs ps t is bs js)) ∧ Below w.heap.size w w' := by
  have HV := hide hv
  have HF := hide hf
  have HR := hide hr
  have HZ := hide hz
  have HP := hide hp
  have HTK := hide ht
  have HI := hide hi
  have HBo := hide hb
  have HJ := hide hj
  have HS := hide (B2.new w (.slice (some ⟨a1, 0, none⟩) vs.length c1) (.slice (some ⟨a2, 0, none⟩) fs.length c2) (.slice (some ⟨a3, 0, none⟩) rs.length c3) (.slice (some ⟨g1, 0, none⟩) is.length f1) (.slice (some ⟨g2, 0, none⟩) bs.length f2) (.slice (some ⟨g3, 0, none⟩) js.length f3) 40 46)
  have hm := hp.1
  obtain ⟨r, hr'⟩ : ∃ r, r = phasB vs fs rs ps t is bs js := ⟨_, rfl⟩
  rw [← hr']
  have HRR := hide hr'
  obtain ⟨M, hM⟩ : ∃ M, M = ps.length := ⟨_, rfl⟩
  have HM := hide hM
  rw [← hM] at hm ⊢
  have hm' : (M : Int) ≤ 1048576 := by omega
  clear hv hf hr hz hp ht hi hb hj hr' hM
  go_enter Tryz.func8, Tryz.ntmps8
  go_wp2_with fail
  generalize (w.alloc (Obj.cells #[.slice (some ⟨a1, 0, none⟩) vs.length c1, .slice (some ⟨a2, 0, none⟩) fs.length c2, .slice (some ⟨a3, 0, none⟩) rs.length c3] 40)).alloc (Obj.cells #[.slice (some ⟨g1, 0, none⟩) is.length f1, .slice (some ⟨g2, 0, none⟩) bs.length f2, .slice (some ⟨g3, 0, none⟩) js.length f3] 46) = u at HS ⊢
  have kf := sPartsOk_c a1 a2 a3 c1 c2 c3 vs fs rs b d ps u ((unhide HV).call (unhide HS).2.2) ((unhide HF).call (unhide HS).2.2) ((unhide HR).call (unhide HS).2.2) (unhide HZ) ((unhide HP).call (unhide HS).2.2)
  rw [← unhide HM] at kf
  have q0 := (unhide HS).1.1
  have q1 := (unhide HS).1.2.1
  have q2 := (unhide HS).1.2.2.1
  go_wp2_with fail
  refine kf.mono ?_
  clear kf q0 q1 q2
  rintro e u1 ⟨rfl, kb⟩
  have HS := hide ((unhide HS).call kb)
  clear kb
  cases p1 : partsB vs fs rs ps
  · have Y1 := hide p1
    clear p1
    have E : Hid (r = false) := by unfold Hid; rw [unhide HRR, phasB, unhide Y1]; rfl
    go_wp2
    go_ret
    exact ⟨by rw [unhide E]; rfl, (unhide HS).2.2⟩
  have Y1 := hide p1
  clear p1
  have q0 := (unhide HS).1.1
  have q1 := (unhide HS).1.2.1
  have q2 := (unhide HS).1.2.2.1
  have q3 := (unhide HS).2.1.1
  have q4 := (unhide HS).2.1.2.1
  have q5 := (unhide HS).2.1.2.2.1
  go_wp2_with fail
  refine (sStoreOk_c a1 a2 a3 c1 c2 c3 vs fs rs g1 g2 g3 f1 f2 f3 is bs js _ ((unhide HV).call (unhide HS).2.2) ((unhide HF).call (unhide HS).2.2) ((unhide HR).call (unhide HS).2.2) (unhide HZ) ((unhide HJ).call (unhide HS).2.2)).mono ?_
  clear q0 q1 q2 q3 q4 q5
  rintro e u2 ⟨rfl, kb⟩
  have HS := hide ((unhide HS).call kb)
  clear kb
  cases p2 : storeB vs fs rs is bs js
  · have Y2 := hide p2
    clear p2
    have E : Hid (r = false) := by unfold Hid; rw [unhide HRR, phasB, unhide Y2]; simp
    go_wp2
    go_ret
    exact ⟨by rw [unhide E]; rfl, (unhide HS).2.2⟩
  have Y2 := hide p2
  clear p2
  go_wp2_with fail
  refine (sTokenOk_c ta tc t _ ((unhide HTK).call (unhide HS).2.2)).mono ?_
  rintro e u3 ⟨rfl, hu3⟩
  subst hu3
  cases p3 : tokB t
  · have Y3 := hide p3
    clear p3
    have E : Hid (r = false) := by unfold Hid; rw [unhide HRR, phasB, unhide Y1, unhide Y3]; rfl
    go_wp2
    go_ret
    exact ⟨by rw [unhide E]; rfl, (unhide HS).2.2⟩
  have Y3 := hide p3
  clear p3
  have ER := hide (show r = hasP ps t is bs js by rw [unhide HRR]; unfold phasB; rw [unhide Y1, unhide Y2, unhide Y3]; rfl)
  have kf := l9Find_c (some ⟨b, 0, none⟩) ta d tc ps t u3 ((unhide HP).call (unhide HS).2.2).parts ((unhide HTK).call (unhide HS).2.2) (fun i hi => (parts_at (unhide Y1) i hi).1) (unhide Y3)
  rw [← unhide HM] at kf
  go_wp2_with fail
  refine kf.mono ?_
  clear kf
  rintro e V1 ⟨n, rfl, hn, kb⟩
  have HS := hide ((unhide HS).call kb)
  clear kb
  rcases hn with ⟨rfl, hno⟩ | ⟨i, hi, rfl, hi2⟩
  · have E : Hid (r = false) := by unfold Hid; rw [unhide ER]; exact hasP_no is bs js hno
    clear hno
    go_upto_region 4 with fail
    refine wp_region_held_drew (S := (fun u => Below V1.heap.size V1 u)) (by kernel_rfl) ((Below.refl _ _).drew) (fun hHeld => ?_)
    refine wpAnyH_take (i := 0) (oi := ⟨some 28, Op.move (Operand.tmp 9), 3, _, _, none⟩) (v := ?_) rfl (by kernel_rfl) (by kernel_rfl) (by kernel_rfl) (fun _ _ _ h => h) (Or.inl ⟨by rfl, ?_⟩) (by assumption) ?_
    rotate_left
    · (intro w hSw; (try dsimp only at hSw); go_simp; try with_reducible rfl)
    try simp only [Act.put, List.setIfInBounds_toArray, List.set_cons_zero, List.set_cons_succ]
    refine wpAnyH_take (i := 1) (oi := ⟨some 29, Op.binOp BinOp.geq 3 (Operand.tmp 28) (Operand.const (Value.int IntKind.i64 0)) 3, 4, _, _, none⟩) (v := ?_) rfl (by kernel_rfl) (by kernel_rfl) (by kernel_rfl) (fun _ _ _ h => h) (Or.inl ⟨by rfl, ?_⟩) (by assumption) ?_
    rotate_left
    · (intro w hSw; (try dsimp only at hSw); go_simp; try with_reducible rfl)
    try simp only [Act.put, List.setIfInBounds_toArray, List.set_cons_zero, List.set_cons_succ]
    refine wpAnyH_take (i := 2) (oi := ⟨some 30, Op.move (Operand.tmp 29), 4, _, _, none⟩) (v := ?_) rfl (by kernel_rfl) (by kernel_rfl) (by kernel_rfl) (fun _ _ _ h => h) (Or.inl ⟨by rfl, ?_⟩) (by assumption) ?_
    rotate_left
    · (intro w hSw; (try dsimp only at hSw); go_simp; try with_reducible rfl)
    try simp only [Act.put, List.setIfInBounds_toArray, List.set_cons_zero, List.set_cons_succ]
    refine wpAnyH_take (i := 3) (oi := ⟨some 31, Op.move (Operand.tmp 1), 42, _, _, some (2, true)⟩) (v := undef) rfl (by kernel_rfl) (by kernel_rfl) (by kernel_rfl) (fun _ _ _ h => h) (Or.inr ⟨by rfl, rfl⟩) (by assumption) ?_
    try simp only [Act.put, List.setIfInBounds_toArray, List.set_cons_zero, List.set_cons_succ]
    refine wpAnyH_take (i := 4) (oi := ⟨some 32, Op.move (Operand.tmp 9), 3, _, _, some (2, true)⟩) (v := undef) rfl (by kernel_rfl) (by kernel_rfl) (by kernel_rfl) (fun _ _ _ h => h) (Or.inr ⟨by rfl, rfl⟩) (by assumption) ?_
    try simp only [Act.put, List.setIfInBounds_toArray, List.set_cons_zero, List.set_cons_succ]
    refine wpAnyH_take (i := 5) (oi := ⟨some 33, Op.indexAddr 42 (Operand.tmp 31) (Operand.tmp 32), 0, _, _, some (2, true)⟩) (v := undef) rfl (by kernel_rfl) (by kernel_rfl) (by kernel_rfl) (fun _ _ _ h => h) (Or.inr ⟨by rfl, rfl⟩) (by assumption) ?_
    try simp only [Act.put, List.setIfInBounds_toArray, List.set_cons_zero, List.set_cons_succ]
    refine wpAnyH_take (i := 6) (oi := ⟨some 34, Op.fieldAddr 72 (Operand.tmp 33) 1, 0, _, _, some (2, true)⟩) (v := undef) rfl (by kernel_rfl) (by kernel_rfl) (by kernel_rfl) (fun _ _ _ h => h) (Or.inr ⟨by rfl, rfl⟩) (by assumption) ?_
    try simp only [Act.put, List.setIfInBounds_toArray, List.set_cons_zero, List.set_cons_succ]
    refine wpAnyH_take (i := 7) (oi := ⟨some 35, Op.load 70 (Operand.tmp 34), 70, _, _, some (2, true)⟩) (v := undef) rfl (by kernel_rfl) (by kernel_rfl) (by kernel_rfl) (fun _ _ _ h => h) (Or.inr ⟨by rfl, rfl⟩) (by assumption) ?_
    try simp only [Act.put, List.setIfInBounds_toArray, List.set_cons_zero, List.set_cons_succ]
    refine wpAnyH_take (i := 8) (oi := ⟨some 36, Op.load 46 (Operand.tmp 7), 46, _, _, some (2, true)⟩) (v := undef) rfl (by kernel_rfl) (by kernel_rfl) (by kernel_rfl) (fun _ _ _ h => h) (Or.inr ⟨by rfl, rfl⟩) (by assumption) ?_
    try simp only [Act.put, List.setIfInBounds_toArray, List.set_cons_zero, List.set_cons_succ]
    refine wpAnyH_take (i := 9) (oi := ⟨some 37, Op.call { callee := Callee.value (Operand.func 29), args := #[Operand.tmp 36], argTypes := #[46] }, 2, _, _, some (2, true)⟩) (v := undef) rfl (by kernel_rfl) (by kernel_rfl) (by kernel_rfl) (fun _ _ _ h => h) (Or.inr ⟨by rfl, rfl⟩) (by assumption) ?_
    try simp only [Act.put, List.setIfInBounds_toArray, List.set_cons_zero, List.set_cons_succ]
    refine wpAnyH_take (i := 10) (oi := ⟨some 38, Op.indexAddr 70 (Operand.tmp 35) (Operand.tmp 37), 0, _, _, some (2, true)⟩) (v := undef) rfl (by kernel_rfl) (by kernel_rfl) (by kernel_rfl) (fun _ _ _ h => h) (Or.inr ⟨by rfl, rfl⟩) (by assumption) ?_
    try simp only [Act.put, List.setIfInBounds_toArray, List.set_cons_zero, List.set_cons_succ]
    refine wpAnyH_take (i := 11) (oi := ⟨some 39, Op.load 69 (Operand.tmp 38), 69, _, _, some (2, true)⟩) (v := undef) rfl (by kernel_rfl) (by kernel_rfl) (by kernel_rfl) (fun _ _ _ h => h) (Or.inr ⟨by rfl, rfl⟩) (by assumption) ?_
    try simp only [Act.put, List.setIfInBounds_toArray, List.set_cons_zero, List.set_cons_succ]
    refine wpAnyH_take (i := 12) (oi := ⟨some 40, Op.load 46 (Operand.tmp 7), 46, _, _, some (2, true)⟩) (v := undef) rfl (by kernel_rfl) (by kernel_rfl) (by kernel_rfl) (fun _ _ _ h => h) (Or.inr ⟨by rfl, rfl⟩) (by assumption) ?_
    try simp only [Act.put, List.setIfInBounds_toArray, List.set_cons_zero, List.set_cons_succ]
    refine wpAnyH_take (i := 13) (oi := ⟨some 41, Op.call { callee := Callee.value (Operand.func 28), args := #[Operand.tmp 39, Operand.tmp 40], argTypes := #[69, 46] }, 4, _, _, some (2, true)⟩) (v := undef) rfl (by kernel_rfl) (by kernel_rfl) (by kernel_rfl) (fun _ _ _ h => h) (Or.inr ⟨by rfl, rfl⟩) (by assumption) ?_
    try simp only [Act.put, List.setIfInBounds_toArray, List.set_cons_zero, List.set_cons_succ]
    refine wpAnyH_take (i := 14) (oi := ⟨some 42, Op.pick (Operand.tmp 30) (Operand.tmp 41) (Operand.const (Value.bool false)), 4, _, _, none⟩) (v := ?_) rfl (by kernel_rfl) (by kernel_rfl) (by kernel_rfl) (fun _ _ _ h => h) (Or.inl ⟨by rfl, ?_⟩) (by assumption) ?_
    rotate_left
    · (intro w hSw; (try dsimp only at hSw); go_simp; try with_reducible rfl)
    try simp only [Act.put, List.setIfInBounds_toArray, List.set_cons_zero, List.set_cons_succ]
    refine wpAnyH_take (i := 15) (oi := ⟨some 8, Op.assign (Operand.tmp 42), 4, _, _, none⟩) (v := ?_) rfl (by kernel_rfl) (by kernel_rfl) (by kernel_rfl) (fun _ _ _ h => h) (Or.inl ⟨by rfl, ?_⟩) (by assumption) ?_
    rotate_left
    · (intro w hSw; (try dsimp only at hSw); go_simp; try with_reducible rfl)
    try simp only [Act.put, List.setIfInBounds_toArray, List.set_cons_zero, List.set_cons_succ]
    refine wpAnyH_done (by kernel_rfl) ?_ _
    have HQ := hide hHeld
    clear hHeld
    go_wp2
    go_ret
    exact ⟨by rw [unhide E]; rfl, (unhide HS).2.2.trans ((unhide HQ).mono (unhide HS).2.2.size)⟩
  · have hiM : i < M := by rw [unhide HM]; exact hi
    have hiI : (i : Int) < (M : Int) := by omega
    obtain ⟨g3', g4, _, dh, _, oe⟩ := ((unhide HP).2.1 i hi).tabs
    have TB := hide (parts_at (unhide Y1) i hi).2.1
    have EP := hide (show r = hasT ps[i].2 is bs js from by rw [unhide ER]; exact hasP_at (unhide Y1) is bs js hi hi2)
    have H3 : Hid (bs.length ≤ 3) := by unfold Hid; have := sto_flags (unhide Y2); omega
    have hlf := leafN_lt bs
    have hlen : ((2 : Int) ^ bs.length) = (ps[i].2.length : Int) := by rw [tab_len (unhide TB), (sto_flags (unhide Y2)).1]; simp
    obtain ⟨N, hN⟩ : ∃ N : Nat, leafN bs = (N : Int) := ⟨(leafN bs).toNat, by omega⟩
    have hNl : N < ps[i].2.length := by rw [hN, hlen] at hlf; omega
    have HN := hide hN
    have hle : leafE ps[i].2 bs = ps[i].2[N] := by
      unfold leafE
      rw [hN, Int.toNat_natCast, List.getD_eq_getElem?_getD, List.getElem?_eq_getElem hNl, Option.getD_some]
    have EV := hide (tab_env (unhide TB) N hNl)
    have ER' : Hid (r = (ps[i].2[N].1 && hasIn ps[i].2[N].2.1 ps[i].2[N].2.2 is js)) := by unfold Hid; rw [unhide EP, hasT, hle]
    have HK2 : Hid (AtE w g4 N ps[i].2[N]) := oe.2.1 N hNl
    have hKl := oe.1
    obtain ⟨K, hK⟩ : ∃ K, K = ps[i].2.length := ⟨_, rfl⟩
    rw [← hK] at dh hKl hNl
    have hKl' : (K : Int) ≤ 1048576 := by omega
    have hNl' : (N : Int) < (K : Int) := by omega
    have HDH := hide (((unhide HS).2.2.cell (World.block_lt_of_cell? w _ dh)).trans dh)
    clear hlf hlen hN hle oe dh hi2 hK EP TB ER
    obtain ⟨e1, e2, _, _, q1, q2, q3, i1, i2⟩ := unhide HK2
    have I1 := hide i1.1
    have I2 := hide i2.1
    have C1 := hide (((unhide HS).2.2.cell (World.block_lt_of_cell? w _ q1)).trans q1)
    have C2 := hide (((unhide HS).2.2.cell (World.block_lt_of_cell? w _ q2)).trans q2)
    have C3' := hide (((unhide HS).2.2.cell (World.block_lt_of_cell? w _ q3)).trans q3)
    clear i1 i2 q1 q2 q3 HK2
    generalize ps[i].2[N].1 = li at C1 EV ER'
    generalize ps[i].2[N].2.1 = xs at C2 I1 EV ER'
    generalize ps[i].2[N].2.2 = ys at C3' I2 EV ER'
    have EL := hide (has_lens (unhide EV) (unhide Y2))
    have EQ : Hid ((li && hasIn xs ys is js) = r) := by unfold Hid; rw [unhide ER']
    have hh : (J10 w w.heap.size (w.heap.size + 1) g4 (N * 3) (.slice (some ⟨a1, 0, none⟩) vs.length c1) (.slice (some ⟨a2, 0, none⟩) fs.length c2) (.slice (some ⟨a3, 0, none⟩) rs.length c3) (.slice (some ⟨g1, 0, none⟩) is.length f1) (.slice (some ⟨g2, 0, none⟩) bs.length f2) (.slice (some ⟨g3, 0, none⟩) js.length f3) (.bool li) (.slice (some ⟨e1, 0, none⟩) xs.length xs.length) (.slice (some ⟨e2, 0, none⟩) ys.length ys.length) ⟨b, i * 2 + 1, none⟩ (.slice (some ⟨g4, 0, none⟩) K K)) V1 := ⟨unhide HDH, J9.of (unhide HS) (unhide C1) (unhide C2) (unhide C3')⟩
    go_upto_region 4 with fail
    refine wp_region_held_drew (S := (J10 w w.heap.size (w.heap.size + 1) g4 (N * 3) (.slice (some ⟨a1, 0, none⟩) vs.length c1) (.slice (some ⟨a2, 0, none⟩) fs.length c2) (.slice (some ⟨a3, 0, none⟩) rs.length c3) (.slice (some ⟨g1, 0, none⟩) is.length f1) (.slice (some ⟨g2, 0, none⟩) bs.length f2) (.slice (some ⟨g3, 0, none⟩) js.length f3) (.bool li) (.slice (some ⟨e1, 0, none⟩) xs.length xs.length) (.slice (some ⟨e2, 0, none⟩) ys.length ys.length) ⟨b, i * 2 + 1, none⟩ (.slice (some ⟨g4, 0, none⟩) K K))) (by kernel_rfl) (J10.call hh (Below.refl _ _).drew) (fun hHeld => ?_)
    refine wpAnyH_take (i := 0) (oi := ⟨some 28, Op.move (Operand.tmp 9), 3, _, _, none⟩) (v := ?_) rfl (by kernel_rfl) (by kernel_rfl) (by kernel_rfl) (fun _ _ _ h => h) (Or.inl ⟨by rfl, ?_⟩) (by assumption) ?_
    rotate_left
    · (intro w hSw; (try dsimp only at hSw); go_simp; try with_reducible rfl)
    try simp only [Act.put, List.setIfInBounds_toArray, List.set_cons_zero, List.set_cons_succ]
    refine wpAnyH_take (i := 1) (oi := ⟨some 29, Op.binOp BinOp.geq 3 (Operand.tmp 28) (Operand.const (Value.int IntKind.i64 0)) 3, 4, _, _, none⟩) (v := ?_) rfl (by kernel_rfl) (by kernel_rfl) (by kernel_rfl) (fun _ _ _ h => h) (Or.inl ⟨by rfl, ?_⟩) (by assumption) ?_
    rotate_left
    · (intro w hSw; (try dsimp only at hSw); go_simp; try with_reducible rfl)
    try simp only [Act.put, List.setIfInBounds_toArray, List.set_cons_zero, List.set_cons_succ]
    refine wpAnyH_take (i := 2) (oi := ⟨some 30, Op.move (Operand.tmp 29), 4, _, _, none⟩) (v := ?_) rfl (by kernel_rfl) (by kernel_rfl) (by kernel_rfl) (fun _ _ _ h => h) (Or.inl ⟨by rfl, ?_⟩) (by assumption) ?_
    rotate_left
    · (intro w hSw; (try dsimp only at hSw); go_simp; try with_reducible rfl)
    try simp only [Act.put, List.setIfInBounds_toArray, List.set_cons_zero, List.set_cons_succ]
    refine wpAnyH_take (i := 3) (oi := ⟨some 31, Op.move (Operand.tmp 1), 42, _, _, some (2, true)⟩) (v := ?_) rfl (by kernel_rfl) (by kernel_rfl) (by kernel_rfl) (fun _ _ _ h => h) (Or.inl ⟨by rfl, ?_⟩) (by assumption) ?_
    rotate_left
    · (intro w hSw; (try dsimp only at hSw); go_simp; try with_reducible rfl)
    try simp only [Act.put, List.setIfInBounds_toArray, List.set_cons_zero, List.set_cons_succ]
    refine wpAnyH_take (i := 4) (oi := ⟨some 32, Op.move (Operand.tmp 9), 3, _, _, some (2, true)⟩) (v := ?_) rfl (by kernel_rfl) (by kernel_rfl) (by kernel_rfl) (fun _ _ _ h => h) (Or.inl ⟨by rfl, ?_⟩) (by assumption) ?_
    rotate_left
    · (intro w hSw; (try dsimp only at hSw); go_simp; try with_reducible rfl)
    try simp only [Act.put, List.setIfInBounds_toArray, List.set_cons_zero, List.set_cons_succ]
    refine wpAnyH_take (i := 5) (oi := ⟨some 33, Op.indexAddr 42 (Operand.tmp 31) (Operand.tmp 32), 0, _, _, some (2, true)⟩) (v := ?_) rfl (by kernel_rfl) (by kernel_rfl) (by kernel_rfl) (fun _ _ _ h => h) (Or.inl ⟨by rfl, ?_⟩) (by assumption) ?_
    rotate_left
    · (intro w hSw; (try dsimp only at hSw); go_simp; try with_reducible rfl)
    try simp only [Act.put, List.setIfInBounds_toArray, List.set_cons_zero, List.set_cons_succ]
    refine wpAnyH_take (i := 6) (oi := ⟨some 34, Op.fieldAddr 72 (Operand.tmp 33) 1, 0, _, _, some (2, true)⟩) (v := ?_) rfl (by kernel_rfl) (by kernel_rfl) (by kernel_rfl) (fun _ _ _ h => h) (Or.inl ⟨by rfl, ?_⟩) (by assumption) ?_
    rotate_left
    · (intro w hSw; (try dsimp only at hSw); go_simp; try with_reducible rfl)
    try simp only [Act.put, List.setIfInBounds_toArray, List.set_cons_zero, List.set_cons_succ]
    refine wpAnyH_take (i := 7) (oi := ⟨some 35, Op.load 70 (Operand.tmp 34), 70, _, _, some (2, true)⟩) (v := ?_) rfl (by kernel_rfl) (by kernel_rfl) (by kernel_rfl) (fun _ _ _ h => h) (Or.inl ⟨by rfl, ?_⟩) (by assumption) ?_
    rotate_left
    · (intro w hSw; (try dsimp only at hSw); go_simp; try with_reducible rfl)
    try simp only [Act.put, List.setIfInBounds_toArray, List.set_cons_zero, List.set_cons_succ]
    refine wpAnyH_take (i := 8) (oi := ⟨some 36, Op.load 46 (Operand.tmp 7), 46, _, _, some (2, true)⟩) (v := ?_) rfl (by kernel_rfl) (by kernel_rfl) (by kernel_rfl) (fun _ _ _ h => h) (Or.inl ⟨by rfl, ?_⟩) (by assumption) ?_
    rotate_left
    · (intro w hSw; (try dsimp only at hSw); go_simp; try with_reducible rfl)
    try simp only [Act.put, List.setIfInBounds_toArray, List.set_cons_zero, List.set_cons_succ]
    refine wpAnyH_take (i := 12) (oi := ⟨some 40, Op.load 46 (Operand.tmp 7), 46, _, _, some (2, true)⟩) (v := ?_) rfl (by kernel_rfl) (by kernel_rfl) (by kernel_rfl) (fun _ _ _ h => h) (Or.inl ⟨by rfl, ?_⟩) (by assumption) ?_
    rotate_left
    · (intro w hSw; (try dsimp only at hSw); go_simp; try with_reducible rfl)
    try simp only [Act.put, List.setIfInBounds_toArray, List.set_cons_zero, List.set_cons_succ]
    refine wpAnyH_ready (rs := [9]) (by kernel_rfl) (by simp) ?_
    refine AllReadyH.cons (i := 9) (o := ⟨some 37, Op.call { callee := Callee.value (Operand.func 29), args := #[Operand.tmp 36], argTypes := #[46] }, 2, _, _, some (2, true)⟩) rfl (fun K hK => ?_) AllReadyH.nil
    go_simp
    refine (l8Leaf_c _ _ g2 f2 bs _ ((unhide HBo).call hHeld.2.bel) (unhide H3)).mono ?_
    rintro e w3 ⟨rfl, hb⟩
    rw [unhide HN]
    refine hK.out _ _ (J10.call hHeld hb) (fun hHeld => ?_)
    clear hK K
    try simp only [Act.put, List.setIfInBounds_toArray, List.set_cons_zero, List.set_cons_succ]
    refine wpAnyH_take (i := 10) (oi := ⟨some 38, Op.indexAddr 70 (Operand.tmp 35) (Operand.tmp 37), 0, _, _, some (2, true)⟩) (v := ?_) rfl (by kernel_rfl) (by kernel_rfl) (by kernel_rfl) (fun _ _ _ h => h) (Or.inl ⟨by rfl, ?_⟩) (by assumption) ?_
    rotate_left
    · (intro w hSw; (try dsimp only at hSw); go_simp; try with_reducible rfl)
    try simp only [Act.put, List.setIfInBounds_toArray, List.set_cons_zero, List.set_cons_succ]
    refine wpAnyH_take (i := 11) (oi := ⟨some 39, Op.load 69 (Operand.tmp 38), 69, _, _, some (2, true)⟩) (v := ?_) rfl (by kernel_rfl) (by kernel_rfl) (by kernel_rfl) (fun _ _ _ h => h) (Or.inl ⟨by rfl, ?_⟩) (by assumption) ?_
    rotate_left
    · (intro w hSw; (try dsimp only at hSw); go_simp; try with_reducible rfl)
    try simp only [Act.put, List.setIfInBounds_toArray, List.set_cons_zero, List.set_cons_succ]
    refine wpAnyH_ready (rs := [13]) (by kernel_rfl) (by simp) ?_
    refine AllReadyH.cons (i := 13) (o := ⟨some 41, Op.call { callee := Callee.value (Operand.func 28), args := #[Operand.tmp 39, Operand.tmp 40], argTypes := #[69, 46] }, 4, _, _, some (2, true)⟩) rfl (fun K hK => ?_) AllReadyH.nil
    go_simp
    refine (l6Has_c li e1 e2 xs.length ys.length xs ys g1 g2 g3 f1 f2 f3 is bs js _ ((unhide I1).call hHeld.2.bel) ((unhide I2).call hHeld.2.bel) ((unhide HI).call hHeld.2.bel) ((unhide HJ).call hHeld.2.bel) (unhide EL)).mono ?_
    rintro e w3 ⟨rfl, hb⟩
    rw [unhide EQ]
    refine hK.out _ _ (J10.call hHeld hb) (fun hHeld => ?_)
    clear hK K
    try simp only [Act.put, List.setIfInBounds_toArray, List.set_cons_zero, List.set_cons_succ]
    refine wpAnyH_take (i := 14) (oi := ⟨some 42, Op.pick (Operand.tmp 30) (Operand.tmp 41) (Operand.const (Value.bool false)), 4, _, _, none⟩) (v := ?_) rfl (by kernel_rfl) (by kernel_rfl) (by kernel_rfl) (fun _ _ _ h => h) (Or.inl ⟨by rfl, ?_⟩) (by assumption) ?_
    rotate_left
    · (intro w hSw; (try dsimp only at hSw); go_simp; try with_reducible rfl)
    try simp only [Act.put, List.setIfInBounds_toArray, List.set_cons_zero, List.set_cons_succ]
    refine wpAnyH_take (i := 15) (oi := ⟨some 8, Op.assign (Operand.tmp 42), 4, _, _, none⟩) (v := ?_) rfl (by kernel_rfl) (by kernel_rfl) (by kernel_rfl) (fun _ _ _ h => h) (Or.inl ⟨by rfl, ?_⟩) (by assumption) ?_
    rotate_left
    · (intro w hSw; (try dsimp only at hSw); go_simp; try with_reducible rfl)
    try simp only [Act.put, List.setIfInBounds_toArray, List.set_cons_zero, List.set_cons_succ]
    refine wpAnyH_done (by kernel_rfl) ?_ _
    have HQ := hide hHeld.2.bel
    clear hHeld hb hh
    go_wp2
    go_ret
    exact ⟨rfl, unhide HQ⟩
set_option maxRecDepth 20000 in
set_option maxHeartbeats 4000000 in
theorem iPartsHas_c (a1 a2 a3 c1 c2 c3 : Nat) (vs fs : List ByteArray) (rs : List (ByteArray × Int)) (b d : Nat) (ps : List PR) (ta : Option Addr) (tc : Nat) (t : List (Int × Int)) (g1 g2 g3 f1 f2 f3 : Nat) (is : List Int) (bs : List Bool) (js : List (List Int)) (w : World) (hw : KW w) (hv : Strs w (some ⟨a1, 0, none⟩) vs) (hf : Strs w (some ⟨a2, 0, none⟩) fs) (hr : Arrs w (some ⟨a3, 0, none⟩) rs)
    (hz : ∀ x ∈ namesOf vs fs rs, x.size ≤ 1048576) (hp : OwnP w b ps) (ht : Ivs w ta t) (hi : Ints w (some ⟨g1, 0, none⟩) is) (hb : Bools w (some ⟨g2, 0, none⟩) bs) (hj : Mats w (some ⟨g3, 0, none⟩) js) :
    Calls Tryz.prog 13 #[.agg #[.slice (some ⟨a1, 0, none⟩) vs.length c1, .slice (some ⟨a2, 0, none⟩) fs.length c2, .slice (some ⟨a3, 0, none⟩) rs.length c3], .slice (some ⟨b, 0, none⟩) ps.length d, .slice ta t.length tc, .agg #[.slice (some ⟨g1, 0, none⟩) is.length f1, .slice (some ⟨g2, 0, none⟩) bs.length f2, .slice (some ⟨g3, 0, none⟩) js.length f3]] w fun e w' => e = .returned (.bool (phasB vs fs rs ps t is bs js)) ∧ Below w.heap.size w w' := by
  have HW := hide hw
  have HV := hide hv
  have HF := hide hf
  have HR := hide hr
  have HZ := hide hz
  have HP := hide hp
  have HTK := hide ht
  have HI := hide hi
  have HBo := hide hb
  have HJ := hide hj
  have HS := hide (B2.new w (.slice (some ⟨a1, 0, none⟩) vs.length c1) (.slice (some ⟨a2, 0, none⟩) fs.length c2) (.slice (some ⟨a3, 0, none⟩) rs.length c3) (.slice (some ⟨g1, 0, none⟩) is.length f1) (.slice (some ⟨g2, 0, none⟩) bs.length f2) (.slice (some ⟨g3, 0, none⟩) js.length f3) 40 46)
  have hm := hp.1
  obtain ⟨r, hr'⟩ : ∃ r, r = phasB vs fs rs ps t is bs js := ⟨_, rfl⟩
  rw [← hr']
  have HRR := hide hr'
  obtain ⟨M, hM⟩ : ∃ M, M = ps.length := ⟨_, rfl⟩
  have HM := hide hM
  rw [← hM] at hm ⊢
  have hm' : (M : Int) ≤ 1048576 := by omega
  clear hv hf hr hz hp ht hi hb hj hr' hM
  go_enter Tryz.func13, Tryz.ntmps13
  go_wp2_with fail
  generalize (w.alloc (Obj.cells #[.slice (some ⟨a1, 0, none⟩) vs.length c1, .slice (some ⟨a2, 0, none⟩) fs.length c2, .slice (some ⟨a3, 0, none⟩) rs.length c3] 40)).alloc (Obj.cells #[.slice (some ⟨g1, 0, none⟩) is.length f1, .slice (some ⟨g2, 0, none⟩) bs.length f2, .slice (some ⟨g3, 0, none⟩) js.length f3] 46) = u at HS ⊢
  have kf := iPartsOk_c a1 a2 a3 c1 c2 c3 vs fs rs b d ps u ((unhide HW).call (unhide HS).2.2) ((unhide HV).call (unhide HS).2.2) ((unhide HF).call (unhide HS).2.2) ((unhide HR).call (unhide HS).2.2) (unhide HZ) ((unhide HP).call (unhide HS).2.2)
  rw [← unhide HM] at kf
  have q0 := (unhide HS).1.1
  have q1 := (unhide HS).1.2.1
  have q2 := (unhide HS).1.2.2.1
  go_wp2_with fail
  refine kf.mono ?_
  clear kf q0 q1 q2
  rintro e u1 ⟨rfl, kb⟩
  have HS := hide ((unhide HS).call kb)
  clear kb
  cases p1 : partsB vs fs rs ps
  · have Y1 := hide p1
    clear p1
    have E : Hid (r = false) := by unfold Hid; rw [unhide HRR, phasB, unhide Y1]; rfl
    go_wp2
    go_ret
    exact ⟨by rw [unhide E]; rfl, (unhide HS).2.2⟩
  have Y1 := hide p1
  clear p1
  go_wp2_with fail
  refine (TokenOk_c ta tc t _ ((unhide HTK).call (unhide HS).2.2)).mono ?_
  rintro e u2 ⟨rfl, kb⟩
  have HS := hide ((unhide HS).call kb)
  clear kb
  cases p3 : tokB t
  · have Y3 := hide p3
    clear p3
    have E : Hid (r = false) := by unfold Hid; rw [unhide HRR, phasB, unhide Y1, unhide Y3]; rfl
    go_wp2
    go_ret
    exact ⟨by rw [unhide E]; rfl, (unhide HS).2.2⟩
  have Y3 := hide p3
  clear p3
  have ER := hide (show r = (storeB vs fs rs is bs js && hasP ps t is bs js) by rw [unhide HRR]; unfold phasB; rw [unhide Y1, unhide Y3]; rfl)
  have kf := placesOf_c (some ⟨b, 0, none⟩) d ps u2 ((unhide HP).call (unhide HS).2.2).parts (fun i hi => (parts_at (unhide Y1) i hi).1)
  rw [← unhide HM] at kf
  go_wp2_with fail
  refine kf.mono ?_
  clear kf
  rintro e u3 ⟨mb, mn_, rfl, hm3, hmb, kb⟩
  have HTM := hide hm3
  have HS := hide ((unhide HS).call kb)
  clear kb hm3 hmb
  go_wp2_with fail
  refine (keyOf_c ta tc t _ ((unhide HTK).call (unhide HS).2.2) (unhide Y3)).mono ?_
  rintro e V1 ⟨rfl, kb⟩
  have HTM := hide ((unhide HTM).call kb)
  have HS := hide ((unhide HS).call kb)
  clear kb
  have hlook := (unhide HTM).look (unhide Y3)
  cases hp : posT ps t M with
  | none =>
    rw [hp] at hlook
    have E : Hid (r = false) := by unfold Hid; rw [unhide ER]; unfold hasP; rw [← unhide HM, hp]; simp
    clear hp
    simp only [Option.getD_none, Option.isSome_none] at hlook
    go_upto_region 4 with fail
    clear hlook
    refine wp_region_held_drew (S := (fun u => Below V1.heap.size V1 u)) (by kernel_rfl) ((Below.refl _ _).drew) (fun hHeld => ?_)
    refine wpAnyH_take (i := 0) (oi := ⟨some 28, Op.move (Operand.tmp 10), 4, _, _, none⟩) (v := ?_) rfl (by kernel_rfl) (by kernel_rfl) (by kernel_rfl) (fun _ _ _ h => h) (Or.inl ⟨by rfl, ?_⟩) (by assumption) ?_
    rotate_left
    · (intro w hSw; (try dsimp only at hSw); go_simp; try with_reducible rfl)
    try simp only [Act.put, List.setIfInBounds_toArray, List.set_cons_zero, List.set_cons_succ]
    refine wpAnyH_take (i := 1) (oi := ⟨some 29, Op.move (Operand.tmp 28), 4, _, _, none⟩) (v := ?_) rfl (by kernel_rfl) (by kernel_rfl) (by kernel_rfl) (fun _ _ _ h => h) (Or.inl ⟨by rfl, ?_⟩) (by assumption) ?_
    rotate_left
    · (intro w hSw; (try dsimp only at hSw); go_simp; try with_reducible rfl)
    try simp only [Act.put, List.setIfInBounds_toArray, List.set_cons_zero, List.set_cons_succ]
    refine wpAnyH_take (i := 2) (oi := ⟨some 30, Op.load 40 (Operand.tmp 4), 40, _, _, some (1, true)⟩) (v := undef) rfl (by kernel_rfl) (by kernel_rfl) (by kernel_rfl) (fun _ _ _ h => h) (Or.inr ⟨by rfl, rfl⟩) (by assumption) ?_
    try simp only [Act.put, List.setIfInBounds_toArray, List.set_cons_zero, List.set_cons_succ]
    refine wpAnyH_take (i := 3) (oi := ⟨some 31, Op.move (Operand.tmp 1), 42, _, _, some (1, true)⟩) (v := undef) rfl (by kernel_rfl) (by kernel_rfl) (by kernel_rfl) (fun _ _ _ h => h) (Or.inr ⟨by rfl, rfl⟩) (by assumption) ?_
    try simp only [Act.put, List.setIfInBounds_toArray, List.set_cons_zero, List.set_cons_succ]
    refine wpAnyH_take (i := 4) (oi := ⟨some 32, Op.move (Operand.tmp 9), 3, _, _, some (1, true)⟩) (v := undef) rfl (by kernel_rfl) (by kernel_rfl) (by kernel_rfl) (fun _ _ _ h => h) (Or.inr ⟨by rfl, rfl⟩) (by assumption) ?_
    try simp only [Act.put, List.setIfInBounds_toArray, List.set_cons_zero, List.set_cons_succ]
    refine wpAnyH_take (i := 5) (oi := ⟨some 33, Op.indexAddr 42 (Operand.tmp 31) (Operand.tmp 32), 0, _, _, some (1, true)⟩) (v := undef) rfl (by kernel_rfl) (by kernel_rfl) (by kernel_rfl) (fun _ _ _ h => h) (Or.inr ⟨by rfl, rfl⟩) (by assumption) ?_
    try simp only [Act.put, List.setIfInBounds_toArray, List.set_cons_zero, List.set_cons_succ]
    refine wpAnyH_take (i := 6) (oi := ⟨some 34, Op.fieldAddr 72 (Operand.tmp 33) 1, 0, _, _, some (1, true)⟩) (v := undef) rfl (by kernel_rfl) (by kernel_rfl) (by kernel_rfl) (fun _ _ _ h => h) (Or.inr ⟨by rfl, rfl⟩) (by assumption) ?_
    try simp only [Act.put, List.setIfInBounds_toArray, List.set_cons_zero, List.set_cons_succ]
    refine wpAnyH_take (i := 7) (oi := ⟨some 35, Op.load 70 (Operand.tmp 34), 70, _, _, some (1, true)⟩) (v := undef) rfl (by kernel_rfl) (by kernel_rfl) (by kernel_rfl) (fun _ _ _ h => h) (Or.inr ⟨by rfl, rfl⟩) (by assumption) ?_
    try simp only [Act.put, List.setIfInBounds_toArray, List.set_cons_zero, List.set_cons_succ]
    refine wpAnyH_take (i := 8) (oi := ⟨some 36, Op.load 46 (Operand.tmp 7), 46, _, _, some (1, true)⟩) (v := undef) rfl (by kernel_rfl) (by kernel_rfl) (by kernel_rfl) (fun _ _ _ h => h) (Or.inr ⟨by rfl, rfl⟩) (by assumption) ?_
    try simp only [Act.put, List.setIfInBounds_toArray, List.set_cons_zero, List.set_cons_succ]
    refine wpAnyH_take (i := 9) (oi := ⟨some 37, Op.call { callee := Callee.value (Operand.func 41), args := #[Operand.tmp 30, Operand.tmp 35, Operand.tmp 36], argTypes := #[40, 70, 46] }, 4, _, _, some (1, true)⟩) (v := undef) rfl (by kernel_rfl) (by kernel_rfl) (by kernel_rfl) (fun _ _ _ h => h) (Or.inr ⟨by rfl, rfl⟩) (by assumption) ?_
    try simp only [Act.put, List.setIfInBounds_toArray, List.set_cons_zero, List.set_cons_succ]
    refine wpAnyH_take (i := 10) (oi := ⟨some 38, Op.pick (Operand.tmp 29) (Operand.tmp 37) (Operand.const (Value.bool false)), 4, _, _, none⟩) (v := ?_) rfl (by kernel_rfl) (by kernel_rfl) (by kernel_rfl) (fun _ _ _ h => h) (Or.inl ⟨by rfl, ?_⟩) (by assumption) ?_
    rotate_left
    · (intro w hSw; (try dsimp only at hSw); go_simp; try with_reducible rfl)
    try simp only [Act.put, List.setIfInBounds_toArray, List.set_cons_zero, List.set_cons_succ]
    refine wpAnyH_take (i := 11) (oi := ⟨some 8, Op.assign (Operand.tmp 38), 4, _, _, none⟩) (v := ?_) rfl (by kernel_rfl) (by kernel_rfl) (by kernel_rfl) (fun _ _ _ h => h) (Or.inl ⟨by rfl, ?_⟩) (by assumption) ?_
    rotate_left
    · (intro w hSw; (try dsimp only at hSw); go_simp; try with_reducible rfl)
    try simp only [Act.put, List.setIfInBounds_toArray, List.set_cons_zero, List.set_cons_succ]
    refine wpAnyH_done (by kernel_rfl) ?_ _
    have HQ := hide hHeld
    clear hHeld
    go_wp2
    go_ret
    exact ⟨by rw [unhide E]; rfl, (unhide HS).2.2.trans ((unhide HQ).mono (unhide HS).2.2.size)⟩
  | some i =>
    rw [hp] at hlook
    obtain ⟨hi, _, hi2⟩ := posT_some (show M ≤ ps.length by rw [unhide HM]; exact Nat.le_refl _) hp
    have hiM : i < M := by rw [unhide HM]; exact hi
    have hiI : (i : Int) < (M : Int) := by omega
    have OE0 := ((unhide HP).2.1 i hi).tabs
    obtain ⟨g3', g4, _, dh, _, oe⟩ := OE0
    have HDH := hide (((unhide HS).2.2.cell (World.block_lt_of_cell? w _ dh)).trans dh)
    have OE := hide oe
    have TB := hide (parts_at (unhide Y1) i hi).2.1
    have EQ : Hid (thasB vs fs rs ps[i].2 is bs js = r) := by unfold Hid; rw [unhide ER, hasP_at (unhide Y1) is bs js hi hi2, thasB, unhide TB]; rfl
    clear oe dh hi2 hp ER TB
    generalize ps[i].2 = es at HDH OE EQ
    have hh : (J7 w w.heap.size (w.heap.size + 1) (.slice (some ⟨a1, 0, none⟩) vs.length c1) (.slice (some ⟨a2, 0, none⟩) fs.length c2) (.slice (some ⟨a3, 0, none⟩) rs.length c3) (.slice (some ⟨g1, 0, none⟩) is.length f1) (.slice (some ⟨g2, 0, none⟩) bs.length f2) (.slice (some ⟨g3, 0, none⟩) js.length f3) ⟨b, i * 2 + 1, none⟩ (.slice (some ⟨g4, 0, none⟩) es.length es.length)) V1 := ⟨unhide HDH, J6.of (unhide HS)⟩
    simp only [Option.getD_some, Option.isSome_some] at hlook
    go_upto_region 4 with fail
    clear hlook
    refine wp_region_held_drew (S := (J7 w w.heap.size (w.heap.size + 1) (.slice (some ⟨a1, 0, none⟩) vs.length c1) (.slice (some ⟨a2, 0, none⟩) fs.length c2) (.slice (some ⟨a3, 0, none⟩) rs.length c3) (.slice (some ⟨g1, 0, none⟩) is.length f1) (.slice (some ⟨g2, 0, none⟩) bs.length f2) (.slice (some ⟨g3, 0, none⟩) js.length f3) ⟨b, i * 2 + 1, none⟩ (.slice (some ⟨g4, 0, none⟩) es.length es.length))) (by kernel_rfl) (J7.call hh (Below.refl _ _).drew) (fun hHeld => ?_)
    refine wpAnyH_take (i := 0) (oi := ⟨some 28, Op.move (Operand.tmp 10), 4, _, _, none⟩) (v := ?_) rfl (by kernel_rfl) (by kernel_rfl) (by kernel_rfl) (fun _ _ _ h => h) (Or.inl ⟨by rfl, ?_⟩) (by assumption) ?_
    rotate_left
    · (intro w hSw; (try dsimp only at hSw); go_simp; try with_reducible rfl)
    try simp only [Act.put, List.setIfInBounds_toArray, List.set_cons_zero, List.set_cons_succ]
    refine wpAnyH_take (i := 1) (oi := ⟨some 29, Op.move (Operand.tmp 28), 4, _, _, none⟩) (v := ?_) rfl (by kernel_rfl) (by kernel_rfl) (by kernel_rfl) (fun _ _ _ h => h) (Or.inl ⟨by rfl, ?_⟩) (by assumption) ?_
    rotate_left
    · (intro w hSw; (try dsimp only at hSw); go_simp; try with_reducible rfl)
    try simp only [Act.put, List.setIfInBounds_toArray, List.set_cons_zero, List.set_cons_succ]
    refine wpAnyH_take (i := 2) (oi := ⟨some 30, Op.load 40 (Operand.tmp 4), 40, _, _, some (1, true)⟩) (v := ?_) rfl (by kernel_rfl) (by kernel_rfl) (by kernel_rfl) (fun _ _ _ h => h) (Or.inl ⟨by rfl, ?_⟩) (by assumption) ?_
    rotate_left
    · (intro w hSw; (try dsimp only at hSw); go_simp; try with_reducible rfl)
    try simp only [Act.put, List.setIfInBounds_toArray, List.set_cons_zero, List.set_cons_succ]
    refine wpAnyH_take (i := 3) (oi := ⟨some 31, Op.move (Operand.tmp 1), 42, _, _, some (1, true)⟩) (v := ?_) rfl (by kernel_rfl) (by kernel_rfl) (by kernel_rfl) (fun _ _ _ h => h) (Or.inl ⟨by rfl, ?_⟩) (by assumption) ?_
    rotate_left
    · (intro w hSw; (try dsimp only at hSw); go_simp; try with_reducible rfl)
    try simp only [Act.put, List.setIfInBounds_toArray, List.set_cons_zero, List.set_cons_succ]
    refine wpAnyH_take (i := 4) (oi := ⟨some 32, Op.move (Operand.tmp 9), 3, _, _, some (1, true)⟩) (v := ?_) rfl (by kernel_rfl) (by kernel_rfl) (by kernel_rfl) (fun _ _ _ h => h) (Or.inl ⟨by rfl, ?_⟩) (by assumption) ?_
    rotate_left
    · (intro w hSw; (try dsimp only at hSw); go_simp; try with_reducible rfl)
    try simp only [Act.put, List.setIfInBounds_toArray, List.set_cons_zero, List.set_cons_succ]
    refine wpAnyH_take (i := 5) (oi := ⟨some 33, Op.indexAddr 42 (Operand.tmp 31) (Operand.tmp 32), 0, _, _, some (1, true)⟩) (v := ?_) rfl (by kernel_rfl) (by kernel_rfl) (by kernel_rfl) (fun _ _ _ h => h) (Or.inl ⟨by rfl, ?_⟩) (by assumption) ?_
    rotate_left
    · (intro w hSw; (try dsimp only at hSw); go_simp; try with_reducible rfl)
    try simp only [Act.put, List.setIfInBounds_toArray, List.set_cons_zero, List.set_cons_succ]
    refine wpAnyH_take (i := 6) (oi := ⟨some 34, Op.fieldAddr 72 (Operand.tmp 33) 1, 0, _, _, some (1, true)⟩) (v := ?_) rfl (by kernel_rfl) (by kernel_rfl) (by kernel_rfl) (fun _ _ _ h => h) (Or.inl ⟨by rfl, ?_⟩) (by assumption) ?_
    rotate_left
    · (intro w hSw; (try dsimp only at hSw); go_simp; try with_reducible rfl)
    try simp only [Act.put, List.setIfInBounds_toArray, List.set_cons_zero, List.set_cons_succ]
    refine wpAnyH_take (i := 7) (oi := ⟨some 35, Op.load 70 (Operand.tmp 34), 70, _, _, some (1, true)⟩) (v := ?_) rfl (by kernel_rfl) (by kernel_rfl) (by kernel_rfl) (fun _ _ _ h => h) (Or.inl ⟨by rfl, ?_⟩) (by assumption) ?_
    rotate_left
    · (intro w hSw; (try dsimp only at hSw); go_simp; try with_reducible rfl)
    try simp only [Act.put, List.setIfInBounds_toArray, List.set_cons_zero, List.set_cons_succ]
    refine wpAnyH_take (i := 8) (oi := ⟨some 36, Op.load 46 (Operand.tmp 7), 46, _, _, some (1, true)⟩) (v := ?_) rfl (by kernel_rfl) (by kernel_rfl) (by kernel_rfl) (fun _ _ _ h => h) (Or.inl ⟨by rfl, ?_⟩) (by assumption) ?_
    rotate_left
    · (intro w hSw; (try dsimp only at hSw); go_simp; try with_reducible rfl)
    try simp only [Act.put, List.setIfInBounds_toArray, List.set_cons_zero, List.set_cons_succ]
    refine wpAnyH_ready (rs := [9]) (by kernel_rfl) (by simp) ?_
    refine AllReadyH.cons (i := 9) (o := ⟨some 37, Op.call { callee := Callee.value (Operand.func 41), args := #[Operand.tmp 30, Operand.tmp 35, Operand.tmp 36], argTypes := #[40, 70, 46] }, 4, _, _, some (1, true)⟩) rfl (fun K hK => ?_) AllReadyH.nil
    go_simp
    refine (iTableHas_c a1 a2 a3 c1 c2 c3 vs fs rs g4 _ es g1 g2 g3 f1 f2 f3 is bs js _ ((unhide HW).call hHeld.2.bel) ((unhide HV).call hHeld.2.bel) ((unhide HF).call hHeld.2.bel) ((unhide HR).call hHeld.2.bel) (unhide HZ) ((unhide OE).call hHeld.2.bel) ((unhide HI).call hHeld.2.bel) ((unhide HBo).call hHeld.2.bel) ((unhide HJ).call hHeld.2.bel)).mono ?_
    rintro e w3 ⟨rfl, hb⟩
    rw [unhide EQ]
    refine hK.out _ _ (J7.call hHeld hb) (fun hHeld => ?_)
    clear hK K
    try simp only [Act.put, List.setIfInBounds_toArray, List.set_cons_zero, List.set_cons_succ]
    refine wpAnyH_take (i := 10) (oi := ⟨some 38, Op.pick (Operand.tmp 29) (Operand.tmp 37) (Operand.const (Value.bool false)), 4, _, _, none⟩) (v := ?_) rfl (by kernel_rfl) (by kernel_rfl) (by kernel_rfl) (fun _ _ _ h => h) (Or.inl ⟨by rfl, ?_⟩) (by assumption) ?_
    rotate_left
    · (intro w hSw; (try dsimp only at hSw); go_simp; try with_reducible rfl)
    try simp only [Act.put, List.setIfInBounds_toArray, List.set_cons_zero, List.set_cons_succ]
    refine wpAnyH_take (i := 11) (oi := ⟨some 8, Op.assign (Operand.tmp 38), 4, _, _, none⟩) (v := ?_) rfl (by kernel_rfl) (by kernel_rfl) (by kernel_rfl) (fun _ _ _ h => h) (Or.inl ⟨by rfl, ?_⟩) (by assumption) ?_
    rotate_left
    · (intro w hSw; (try dsimp only at hSw); go_simp; try with_reducible rfl)
    try simp only [Act.put, List.setIfInBounds_toArray, List.set_cons_zero, List.set_cons_succ]
    refine wpAnyH_done (by kernel_rfl) ?_ _
    have HQ := hide hHeld.2.bel
    clear hHeld hb hh
    go_wp2
    go_ret
    exact ⟨rfl, unhide HQ⟩
end Go.Proofs.YthldhjifnpfmiaaGreatDoor
