/- Declarations, as the specification asks for them. -/
import Derived.Test.YthldhjifnpfmiaaGreatDoorDeclC
import Derived.Test.YthldhjifnpfmiaaGreatDoorAppC
import Derived.Test.YthldhjifnpfmiaaGreatDoorNameF
namespace Go.Proofs.YthldhjifnpfmiaaGreatDoor
open Go.RowKit
set_option linter.unusedSimpArgs false

/-- All are names, and none is there twice. -/
def namesP (all : List ByteArray) : Prop := ∀ k, (h : k < all.length) → nameB all[k] = true ∧ (all.take k).any (fun x => eqS x all[k]) = false
instance (all : List ByteArray) : Decidable (namesP all) := by unfold namesP; infer_instance
def namesOf (vs fs : List ByteArray) (rs : List (ByteArray × Int)) : List ByteArray := vs ++ fs ++ rs.map (·.1)
/-- A right declaration. -/
def declP (vs fs : List ByteArray) (rs : List (ByteArray × Int)) : Prop := vs.length ≤ 5 ∧ fs.length ≤ 3 ∧ rs.length ≤ 2 ∧ (∀ k, (h : k < rs.length) → 1 ≤ rs[k].2 ∧ rs[k].2 ≤ 16) ∧ namesP (namesOf vs fs rs)
instance (vs fs : List ByteArray) (rs : List (ByteArray × Int)) : Decidable (declP vs fs rs) := by unfold declP; infer_instance
def declB (vs fs : List ByteArray) (rs : List (ByteArray × Int)) : Bool := decide (declP vs fs rs)
def cellsS (l : List ByteArray) : List Value := l.map Value.string
theorem cellsS_one (l : List ByteArray) : ∀ u ∈ cellsS l, u.oneCell' = true := by
  intro u hu
  obtain ⟨x, _, rfl⟩ := List.mem_map.1 hu
  rfl
theorem Strs.news {w : World} {b : Nat} {xs : List ByteArray} (h : Strs w (some ⟨b, 0, none⟩) xs) : ∀ j u, (cellsS xs)[j]? = some u → w.cell? ((⟨b, 0, none⟩ : Addr).add j) = some u := by
  intro j u hu
  have hadd : (⟨b, 0, none⟩ : Addr).add j = ⟨b, j, none⟩ := by unfold Addr.add; split <;> simp_all
  rw [hadd]
  unfold cellsS at hu
  rw [List.getElem?_map] at hu
  cases hx : xs[j]? with
  | none => simp [hx] at hu
  | some x =>
    rw [hx] at hu
    obtain ⟨hj, hx2⟩ := List.getElem?_eq_some_iff.1 hx
    rcases h.2 with h0 | ⟨cb, co, e, hc⟩
    · omega
    · cases e
      have := hc j hj
      rw [Nat.zero_add, hx2] at this
      rw [this]
      simpa using hu
theorem Strs.ofOwn {w : World} {base : Nat} {oa : Option Addr} {n cap : Nat} {xs : List ByteArray} (h : w.ownsRow base 9 1 (.slice oa n cap) n (cellsS xs)) (hl : n ≤ 1048576) : n = xs.length ∧ Strs w oa xs := by
  have hn : n = xs.length := by have := h.1; simp [cellsS] at this; omega
  refine ⟨hn, by omega, ?_⟩
  rcases h.2 with ⟨_, h1⟩ | ⟨g, cap', cur, hv, _⟩
  · exact .inl (by omega)
  · cases hv
    refine .inr ⟨g, 0, rfl, fun i hi => ?_⟩
    have k := h.cells (g := g) rfl i (.string xs[i]) (by simp [cellsS, hi])
    have hadd : (⟨g, 0, none⟩ : Addr).add i = ⟨g, i, none⟩ := by unfold Addr.add; split <;> simp_all
    rw [hadd] at k
    rw [Nat.zero_add]
    exact k
theorem row0 (w : World) (base : Nat) (h : base ≤ w.heap.size) : (w.alloc (Obj.cells #[] 9)).ownsRow base 9 1 (.slice (some ⟨w.heap.size, 0, none⟩) 0 0) 0 [] :=
  ⟨rfl, .inr ⟨w.heap.size, 0, #[], rfl, h, heap_alloc_new w _, Nat.le_refl _, by unfold maxLen; omega, rfl, rfl⟩⟩
/-- What stays while names are gathered: the box, and the world below. -/
@[reducible] def SD (w0 : World) (x y z : Value) (w : World) : Prop := w.cell? ⟨w0.heap.size, 0, none⟩ = some x ∧ w.cell? ⟨w0.heap.size, 1, none⟩ = some y ∧ C3 w w0.heap.size x y z ∧ Below w0.heap.size w0 w ∧ w0.heap.size + 1 ≤ w.heap.size
theorem SD.of {w0 w : World} {x y z : Value} (h : C3 w w0.heap.size x y z) (k : Below w0.heap.size w0 w) : SD w0 x y z w := ⟨h.1, h.2.1, h, k, h.lt⟩
theorem SD.drew {w0 w : World} {x y z : Value} (h : SD w0 x y z w) : SD w0 x y z w.drew := SD.of ⟨h.2.2.1.1, h.2.2.1.2.1, h.2.2.1.2.2.1, h.2.2.1.2.2.2⟩ h.2.2.2.1.drew
theorem SD.alloc {w0 w : World} {x y z : Value} (h : SD w0 x y z w) (o : Obj) : SD w0 x y z (w.alloc o) := SD.of (h.2.2.1.alloc o) (h.2.2.2.1.alloc h.2.2.2.1.size o)
theorem SD.call {w0 w w1 : World} {x y z : Value} (hb : Below w.heap.size w w1) (h : SD w0 x y z w) : SD w0 x y z w1 := SD.of (h.2.2.1.call hb) (h.2.2.2.1.trans (hb.mono h.2.2.2.1.size))
theorem SD.grown {w0 w w1 : World} {x y z v : Value} {e : TypeId} {size n : Nat} {xs : List Value} (h : SD w0 x y z w) (ho : w.ownsRow (w0.heap.size + 1) e size v n xs) (hg : w.grownBy w1 v.ownBlock) : SD w0 x y z w1 :=
  SD.of (h.2.2.1.grown hg (fun e => by have := (ho.lt _ e.symm).1; omega)) (h.2.2.2.1.grown hg h.2.2.2.1.size (fun j hj => by have := (ho.lt j hj).1; omega))
theorem l3Place_k (a : Option Addr) (cap k : Nat) (xs : List ByteArray) (s : ByteArray) (w : World) (h : Strs w a xs) (hk : xs.length = k) : Calls Tryz.prog 72 #[.slice a k cap, .string s] w fun e w' => e = .returned (.int .i64 (plc s xs)) ∧ w' = w := by
  subst hk; exact l3Place_c a cap xs s w h
theorem own_cap {w : World} {base : Nat} {e : TypeId} {size : Nat} {oa : Option Addr} {n cap : Nat} {xs : List Value} (h : w.ownsRow base e size (.slice oa n cap) n xs) : n ≤ cap := by
  rcases h.2 with ⟨_, h1⟩ | ⟨g, cap', cur, hv, _, _, hnc, _⟩
  · omega
  · cases hv; exact hnc
theorem Strs.take {w : World} {a : Option Addr} {xs : List ByteArray} (h : Strs w a xs) (k : Nat) : Strs w a (xs.take k) := by
  refine ⟨by have := h.1; rw [List.length_take]; omega, ?_⟩
  rcases h.2 with h0 | ⟨cb, co, e, hc⟩
  · exact .inl (by rw [List.length_take]; omega)
  · refine .inr ⟨cb, co, e, fun i hi => ?_⟩
    rw [List.length_take] at hi
    rw [List.getElem_take]
    exact hc i (by omega)
set_option maxHeartbeats 2000000 in
theorem sDeclOk_c (a1 a2 a3 : Nat) (c1 c2 c3 : Nat) (vs fs : List ByteArray) (rs : List (ByteArray × Int)) (w : World) (hv : Strs w (some ⟨a1, 0, none⟩) vs) (hf : Strs w (some ⟨a2, 0, none⟩) fs) (hr : Arrs w (some ⟨a3, 0, none⟩) rs)
    (hz : ∀ x ∈ namesOf vs fs rs, x.size ≤ 1048576) :
    Calls Tryz.prog 51 #[.agg #[.slice (some ⟨a1, 0, none⟩) vs.length c1, .slice (some ⟨a2, 0, none⟩) fs.length c2, .slice (some ⟨a3, 0, none⟩) rs.length c3]] w fun e w' => e = .returned (.bool (declB vs fs rs)) ∧ Below w.heap.size w w' := by
  have HV := hide hv
  have HF := hide hf
  have HR := hide hr
  have HZ := hide hz
  have T0 := C3.new w (.slice (some ⟨a1, 0, none⟩) vs.length c1) (.slice (some ⟨a2, 0, none⟩) fs.length c2) (.slice (some ⟨a3, 0, none⟩) rs.length c3) 40
  have K0 := (Below.refl _ w).alloc (Nat.le_refl _) (Obj.cells #[.slice (some ⟨a1, 0, none⟩) vs.length c1, .slice (some ⟨a2, 0, none⟩) fs.length c2, .slice (some ⟨a3, 0, none⟩) rs.length c3] 40)
  have HT0 := hide T0
  have HK := hide K0
  clear T0 K0 hv hf hr hz
  by_cases h1 : 5 < vs.length
  · have HN := hide (show declB vs fs rs = false from decide_eq_false (fun h => by have := h.1; omega))
    go_enter Tryz.func51, Tryz.ntmps51
    go_wp2
    go_ret
    exact ⟨by rw [unhide HN]; rfl, unhide HK⟩
  by_cases h2 : 3 < fs.length
  · have HN := hide (show declB vs fs rs = false from decide_eq_false (fun h => by have := h.2.1; omega))
    go_enter Tryz.func51, Tryz.ntmps51
    go_wp2
    go_ret
    exact ⟨by rw [unhide HN]; rfl, unhide HK⟩
  by_cases h3 : 2 < rs.length
  · have HN := hide (show declB vs fs rs = false from decide_eq_false (fun h => by have := h.2.2.1; omega))
    go_enter Tryz.func51, Tryz.ntmps51
    go_wp2
    go_ret
    exact ⟨by rw [unhide HN]; rfl, unhide HK⟩
  have h1' : ¬ (5 : Int) < (vs.length : Int) := by omega
  have h2' : ¬ (3 : Int) < (fs.length : Int) := by omega
  have h3' : ¬ (2 : Int) < (rs.length : Int) := by omega
  obtain ⟨inf, hi, hz0, hz1, hz2⟩ := info_parts strInfo
  go_enter Tryz.func51, Tryz.ntmps51
  go_wp2
  generalize w.alloc (Obj.cells #[.slice (some ⟨a1, 0, none⟩) vs.length c1, .slice (some ⟨a2, 0, none⟩) fs.length c2, .slice (some ⟨a3, 0, none⟩) rs.length c3] 40) = u at HT0 HK ⊢
  have hs := SD.of (unhide HT0) (unhide HK)
  go_region_held3 (SD w (.slice (some ⟨a1, 0, none⟩) vs.length c1) (.slice (some ⟨a2, 0, none⟩) fs.length c2) (.slice (some ⟨a3, 0, none⟩) rs.length c3))
    (first | exact SD.drew (by assumption) | exact SD.alloc (by assumption) _ | exact hs2 | exact hs3)
    (first
      | (refine step_app _ (by rfl) _ _ _ (by rfl) (w.heap.size + 1) 9 inf (.string ⟨#[]⟩) 1 16 Tryz.underlying22 hi hz0 hz1 hz2 rfl (by decide) _ _ _ (by rfl) (row0 _ _ (by exact hs.2.2.2.2)) ⟨a1, 0, none⟩ vs.length c1 (cellsS vs) (by rfl) (by simp [cellsS]) (((unhide HV).call (hs.drew.alloc _).2.2.2.1).news) (cellsS_one _) (by unfold maxLen; omega) (by omega) (by exact (hs.drew.alloc _).2.2.2.2) ?_; intro oa cap w1 hown hgrow; have hs2 := SD.grown (hs.drew.alloc _) (row0 _ _ (by exact hs.2.2.2.2)) hgrow)
      | (refine step_app _ (by rfl) _ _ _ (by rfl) (w.heap.size + 1) 9 inf (.string ⟨#[]⟩) 1 16 Tryz.underlying22 hi hz0 hz1 hz2 rfl (by decide) _ _ _ (by rfl) hown ⟨a2, 0, none⟩ fs.length c2 (cellsS fs) (by rfl) (by simp [cellsS]) (((unhide HF).call hs2.2.2.2.1).news) (cellsS_one _) (by unfold maxLen; omega) (by omega) hs2.2.2.2.2 ?_; intro ob cap2 w2 hown2 hgrow2; have hs3 := SD.grown hs2 hown hgrow2))
  have HO : Hid (w2.ownsRow (w.heap.size + 1) 9 1 (.slice ob (vs.length + fs.length) cap2) (vs.length + fs.length) (cellsS (vs ++ fs))) := hide (by
    rw [Nat.zero_add, List.nil_append] at hown2
    rw [show cellsS (vs ++ fs) = cellsS vs ++ cellsS fs by simp [cellsS]]
    exact hown2)
  have HT := hide hs3.2.2.1
  have HB := hide hs3.2.2.2.1
  clear HT0 HK
  clear hs hs2 hs3 hown hown2 hgrow hgrow2
  rename_i hHeld
  clear hHeld
  simp only [Nat.zero_add]
  go_wp2
  go_loopw [3, 4] (fun all i wr => ∃ (k : Nat) (oa : Option Addr) (cap : Nat), k ≤ rs.length ∧ i = .int .i64 k ∧ all = .slice oa (vs.length + fs.length + k) cap ∧ wr.ownsRow (w.heap.size + 1) 9 1 (.slice oa (vs.length + fs.length + k) cap) (vs.length + fs.length + k) (cellsS (vs ++ fs ++ (rs.take k).map (·.1))) ∧ (∀ j, (h : j < rs.length) → j < k → 1 ≤ rs[j].2 ∧ rs[j].2 ≤ 16) ∧ C3 wr w.heap.size (.slice (some ⟨a1, 0, none⟩) vs.length c1) (.slice (some ⟨a2, 0, none⟩) fs.length c2) (.slice (some ⟨a3, 0, none⟩) rs.length c3) ∧ Below w.heap.size w wr) (fun _ i _ => rs.length - (intOf i).toNat)
  case atStart => exact ⟨0, ob, cap2, Nat.zero_le _, rfl, rfl, by simpa using unhide HO, fun j _ h => by omega, unhide HT, unhide HB⟩
  case round =>
    clear HO HT HB
    obtain ⟨k, oa, cap, hk, rfl, rfl, ho, hall, ht, hb⟩ := hrel
    have HO := hide ho
    have HA := hide hall
    have HT := hide ht
    have HB := hide hb
    have b2 := ht.2.2.1
    clear ho hall ht
    by_cases hlt : k < rs.length
    · rcases ((unhide HR).call hb).2 with h0 | ⟨cb, co, e, hc⟩
      · omega
      cases e
      have d1 := (hc k hlt).1
      have d2 := (hc k hlt).2
      rw [Nat.zero_add] at d1 d2
      have HX := hide (show (rs.take (k + 1)).map (·.1) = (rs.take k).map (·.1) ++ [rs[k].1] by rw [List.take_succ_eq_append_getElem hlt, List.map_append]; rfl)
      have HI := hide (show inB rs[k].2 1 16 = true → ∀ j, (h : j < rs.length) → j < k + 1 → 1 ≤ rs[j].2 ∧ rs[j].2 ≤ 16 from fun e j h hj => by
        by_cases q : j = k
        · subst q; exact of_decide_eq_true e
        · exact unhide HA j h (by omega))
      have HJ := hide (show inB rs[k].2 1 16 = false → declB vs fs rs = false from fun e => decide_eq_false (fun h => absurd (h.2.2.2.1 k hlt) (of_decide_eq_false e)))
      clear hc hb
      generalize rs[k].1 = x at d1 HX
      generalize rs[k].2 = z at d2 HI HJ
      go_wp2_with fail
      refine (l1In_c _ _ _ _).mono ?_
      rintro e w' ⟨rfl, rfl⟩
      cases hin : inB z 1 16
      · have HN := hide (unhide HJ hin)
        go_wp2
        go_ret
        exact ⟨by rw [unhide HN]; rfl, unhide HB⟩
      · have HI2 := hide (unhide HI hin)
        clear HI HJ
        go_wp2_with (at_builtin; refine wpList_app _ rfl _ _ 22 rfl (w.heap.size + 1) 9 inf (.string ⟨#[]⟩) 1 16 Tryz.underlying22 hi hz0 hz1 hz2 rfl (by decide) _ _ _ rfl ((unhide HO).alloc _) ⟨_, 0, none⟩ 1 1 [.string x] rfl rfl (World.news_of_block (heap_alloc_new _ _)) (by simp [Value.oneCell']) (by unfold maxLen; omega) (by omega) (by have := (unhide HT).lt; simp; omega) ?_; intro oa' cap' w3 hown hgrow)
        have hs3 := SD.grown ((SD.of (unhide HT) (unhide HB)).alloc _) ((unhide HO).alloc _) hgrow
        have HO2 : Hid (w3.ownsRow (w.heap.size + 1) 9 1 (.slice oa' (vs.length + fs.length + k + 1) cap') (vs.length + fs.length + k + 1) (cellsS (vs ++ fs ++ (rs.take (k + 1)).map (·.1)))) := hide (by
          rw [unhide HX, ← List.append_assoc, show ∀ l, cellsS (l ++ [x]) = cellsS l ++ [.string x] from fun l => by simp [cellsS]]
          exact hown)
        have HT2 := hide hs3.2.2.1
        have HB2 := hide hs3.2.2.2.1
        clear HO HT HB hs3 hown hgrow d1 d2 b2
        go_wp2
        go_roundw
        case rel => exact ⟨k + 1, oa', cap', by omega, by go_num, rfl, unhide HO2, unhide HI2, unhide HT2, unhide HB2⟩
        case measure => simp [intOf]; omega
    · obtain rfl : k = rs.length := by omega
      rw [show List.map (fun x : ByteArray × Int => x.1) (List.take rs.length rs) = rs.map (·.1) by rw [List.take_length]] at HO
      obtain ⟨hn, hst⟩ := Strs.ofOwn (unhide HO) (by omega)
      have hcap := own_cap (unhide HO)
      have HN := hide hn
      have HS := hide hst
      have HQ := hide (show namesP (namesOf vs fs rs) → declB vs fs rs = true from fun h => decide_eq_true ⟨by omega, by omega, by omega, fun j hj => unhide HA j hj hj, h⟩)
      have HQ2 := hide (show ∀ j, (h : j < (namesOf vs fs rs).length) → (nameB (namesOf vs fs rs)[j] = false ∨ ((namesOf vs fs rs).take j).any (fun x => eqS x (namesOf vs fs rs)[j]) = true) → declB vs fs rs = false from fun j h hh => decide_eq_false (fun hd => by
        have := hd.2.2.2.2 j h
        rcases hh with hh | hh
        · rw [hh] at this; exact absurd this.1 (by simp)
        · rw [hh] at this; exact absurd this.2 (by simp)))
      have hL : vs.length + fs.length + rs.length ≤ 10 := by omega
      have hZ := unhide HZ
      change Hid (_ = (namesOf vs fs rs).length) at HN
      change Hid (Strs wr oa (namesOf vs fs rs)) at HS
      clear hn hst HO HA HZ HT HV HF HR hb
      generalize namesOf vs fs rs = all at HN HS HQ HQ2 hZ
      have HZ := hide hZ
      clear hZ
      go_wp2
      clear b2
      generalize vs.length + fs.length + rs.length = L at HN hcap hL ⊢
      have hL' : (L : Int) ≤ 10 := by omega
      generalize wr = wo at HS HB ⊢
      go_loopw [5] (fun i wq => ∃ k : Nat, k ≤ L ∧ i = .int .i64 k ∧ (∀ j, (h : j < all.length) → j < k → nameB all[j] = true ∧ (all.take j).any (fun x => eqS x all[j]) = false) ∧ Below wo.heap.size wo wq) (fun i _ => L - (intOf i).toNat)
      case atStart => exact ⟨0, Nat.zero_le _, rfl, fun j _ h => by omega, Below.refl _ _⟩
      case round =>
        obtain ⟨k, hk, rfl, hall, hb⟩ := hrel
        have HA := hide hall
        have HB2 := hide hb
        by_cases hlt : k < L
        · have hk' : k < all.length := by rw [← unhide HN]; exact hlt
          have hst := (unhide HS).call hb
          have HS2 := hide ((unhide HS).take k)
          have HLk := hide (show (all.take k).length = k by rw [List.length_take]; omega)
          rcases hst.2 with h0 | ⟨cb, co, rfl, hc⟩
          · omega
          have d := hc k hk'
          have sz := unhide HZ _ (List.getElem_mem hk')
          have HG := hide (show nameB all[k] = true → (all.take k).any (fun x => eqS x all[k]) = false → ∀ j, (h : j < all.length) → j < k + 1 → nameB all[j] = true ∧ (all.take j).any (fun x => eqS x all[j]) = false from fun e1 e2 j h hj => by
            by_cases q : j = k
            · subst q; exact ⟨e1, e2⟩
            · exact unhide HA j h (by omega))
          have HF1 := hide (unhide HQ2 k hk')
          clear hc hall
          have HP := hide (plc_ge all[k] (all.take k))
          generalize all[k] = x at d sz HG HF1 HP
          have hh : H1 wo ⟨cb, co + k, none⟩ (.string x) wr := ⟨d, hb⟩
          cases hx : nameB x
          · have HN2 := hide (unhide HF1 (.inl hx))
            go_wp2
            refine wp_region_held_drew (S := H1 wo ⟨cb, co + k, none⟩ (.string x)) (by kernel_rfl) (H1.drew hh) (fun hHeld => ?_)
            refine wpAnyH_take (i := 0) (oi := { dst := some 59, op := Op.move (Operand.tmp 3), type := 22, pos := _, after := #[], guard := none }) (v := ?_) rfl (by kernel_rfl) (by kernel_rfl) (by kernel_rfl) (fun _ _ _ h => h) (Or.inl ⟨by rfl, ?_⟩) (by assumption) ?_
            rotate_left
            · (intro w hSw; (try dsimp only at hSw); go_simp; try with_reducible rfl)
            try simp only [Act.put, List.setIfInBounds_toArray, List.set_cons_zero, List.set_cons_succ]
            refine wpAnyH_take (i := 1) (oi := { dst := some 60, op := Op.move (Operand.tmp 5), type := 3, pos := _, after := #[], guard := none }) (v := ?_) rfl (by kernel_rfl) (by kernel_rfl) (by kernel_rfl) (fun _ _ _ h => h) (Or.inl ⟨by rfl, ?_⟩) (by assumption) ?_
            rotate_left
            · (intro w hSw; (try dsimp only at hSw); go_simp; try with_reducible rfl)
            try simp only [Act.put, List.setIfInBounds_toArray, List.set_cons_zero, List.set_cons_succ]
            refine wpAnyH_take (i := 2) (oi := { dst := some 61, op := Op.indexAddr 22 (Operand.tmp 59) (Operand.tmp 60), type := 0, pos := _, after := #[{ on := 0, ground := Ground.data }, { on := 1, ground := Ground.data }], guard := none }) (v := ?_) rfl (by kernel_rfl) (by kernel_rfl) (by kernel_rfl) (fun _ _ _ h => h) (Or.inl ⟨by rfl, ?_⟩) (by assumption) ?_
            rotate_left
            · (intro w hSw; (try dsimp only at hSw); go_simp; try with_reducible rfl)
            try simp only [Act.put, List.setIfInBounds_toArray, List.set_cons_zero, List.set_cons_succ]
            refine wpAnyH_take (i := 3) (oi := { dst := some 62, op := Op.load 9 (Operand.tmp 61), type := 9, pos := _, after := #[{ on := 2, ground := Ground.data }], guard := none }) (v := ?_) rfl (by kernel_rfl) (by kernel_rfl) (by kernel_rfl) (fun _ _ _ h => h) (Or.inl ⟨by rfl, ?_⟩) (by assumption) ?_
            rotate_left
            · (intro w hSw; (try dsimp only at hSw); go_simp; try with_reducible rfl)
            try simp only [Act.put, List.setIfInBounds_toArray, List.set_cons_zero, List.set_cons_succ]
            refine wpAnyH_ready (rs := [4]) (by kernel_rfl) (by simp) ?_
            refine AllReadyH.cons (i := 4) (o := { dst := some 63, op := Op.call { callee := Callee.value (Operand.func 71), args := #[Operand.tmp 62], argTypes := #[9] }, type := 4, pos := _, after := #[{ on := 3, ground := Ground.data }], guard := none }) rfl (fun K hK => ?_) AllReadyH.nil
            go_simp
            (refine (l3Name_c _ sz _).mono ?_; rintro e w3 ⟨rfl, hb⟩; rw [hx])
            refine hK.out _ _ (by first | exact hHeld | exact H1.call hb (by assumption)) (fun hHeld => ?_)
            clear hK K
            try simp only [Act.put, List.setIfInBounds_toArray, List.set_cons_zero, List.set_cons_succ]
            refine wpAnyH_take (i := 5) (oi := { dst := some 64, op := Op.unOp UnOp.not 4 (Operand.tmp 63), type := 4, pos := _, after := #[{ on := 4, ground := Ground.data }], guard := none }) (v := ?_) rfl (by kernel_rfl) (by kernel_rfl) (by kernel_rfl) (fun _ _ _ h => h) (Or.inl ⟨by rfl, ?_⟩) (by assumption) ?_
            rotate_left
            · (intro w hSw; (try dsimp only at hSw); go_simp; try with_reducible rfl)
            try simp only [Act.put, List.setIfInBounds_toArray, List.set_cons_zero, List.set_cons_succ]
            refine wpAnyH_take (i := 6) (oi := { dst := some 65, op := Op.move (Operand.tmp 64), type := 4, pos := _, after := #[{ on := 5, ground := Ground.data }, { on := 4, ground := Ground.chain }], guard := none }) (v := ?_) rfl (by kernel_rfl) (by kernel_rfl) (by kernel_rfl) (fun _ _ _ h => h) (Or.inl ⟨by rfl, ?_⟩) (by assumption) ?_
            rotate_left
            · (intro w hSw; (try dsimp only at hSw); go_simp; try with_reducible rfl)
            try simp only [Act.put, List.setIfInBounds_toArray, List.set_cons_zero, List.set_cons_succ]
            refine wpAnyH_take (i := 7) (oi := { dst := some 66, op := Op.move (Operand.tmp 3), type := 22, pos := _, after := #[{ on := 6, ground := Ground.guard }], guard := some (6, false) }) (v := undef) rfl (by kernel_rfl) (by kernel_rfl) (by kernel_rfl) (fun _ _ _ h => h) (Or.inr ⟨by rfl, rfl⟩) (by assumption) ?_
            try simp only [Act.put, List.setIfInBounds_toArray, List.set_cons_zero, List.set_cons_succ]
            refine wpAnyH_take (i := 8) (oi := { dst := some 67, op := Op.move (Operand.tmp 5), type := 3, pos := _, after := #[{ on := 6, ground := Ground.guard }], guard := some (6, false) }) (v := undef) rfl (by kernel_rfl) (by kernel_rfl) (by kernel_rfl) (fun _ _ _ h => h) (Or.inr ⟨by rfl, rfl⟩) (by assumption) ?_
            try simp only [Act.put, List.setIfInBounds_toArray, List.set_cons_zero, List.set_cons_succ]
            refine wpAnyH_take (i := 9) (oi := { dst := some 68, op := Op.slice 22 (Operand.tmp 66) none (some (Operand.tmp 67)) none, type := 22, pos := _, after := #[{ on := 7, ground := Ground.data }, { on := 8, ground := Ground.data }, { on := 6, ground := Ground.guard }], guard := some (6, false) }) (v := undef) rfl (by kernel_rfl) (by kernel_rfl) (by kernel_rfl) (fun _ _ _ h => h) (Or.inr ⟨by rfl, rfl⟩) (by assumption) ?_
            try simp only [Act.put, List.setIfInBounds_toArray, List.set_cons_zero, List.set_cons_succ]
            refine wpAnyH_take (i := 10) (oi := { dst := some 69, op := Op.move (Operand.tmp 3), type := 22, pos := _, after := #[{ on := 6, ground := Ground.guard }], guard := some (6, false) }) (v := undef) rfl (by kernel_rfl) (by kernel_rfl) (by kernel_rfl) (fun _ _ _ h => h) (Or.inr ⟨by rfl, rfl⟩) (by assumption) ?_
            try simp only [Act.put, List.setIfInBounds_toArray, List.set_cons_zero, List.set_cons_succ]
            refine wpAnyH_take (i := 11) (oi := { dst := some 70, op := Op.move (Operand.tmp 5), type := 3, pos := _, after := #[{ on := 6, ground := Ground.guard }], guard := some (6, false) }) (v := undef) rfl (by kernel_rfl) (by kernel_rfl) (by kernel_rfl) (fun _ _ _ h => h) (Or.inr ⟨by rfl, rfl⟩) (by assumption) ?_
            try simp only [Act.put, List.setIfInBounds_toArray, List.set_cons_zero, List.set_cons_succ]
            refine wpAnyH_take (i := 12) (oi := { dst := some 71, op := Op.indexAddr 22 (Operand.tmp 69) (Operand.tmp 70), type := 0, pos := _, after := #[{ on := 10, ground := Ground.data }, { on := 11, ground := Ground.data }, { on := 6, ground := Ground.guard }], guard := some (6, false) }) (v := undef) rfl (by kernel_rfl) (by kernel_rfl) (by kernel_rfl) (fun _ _ _ h => h) (Or.inr ⟨by rfl, rfl⟩) (by assumption) ?_
            try simp only [Act.put, List.setIfInBounds_toArray, List.set_cons_zero, List.set_cons_succ]
            refine wpAnyH_take (i := 13) (oi := { dst := some 72, op := Op.load 9 (Operand.tmp 71), type := 9, pos := _, after := #[{ on := 12, ground := Ground.data }, { on := 6, ground := Ground.guard }], guard := some (6, false) }) (v := undef) rfl (by kernel_rfl) (by kernel_rfl) (by kernel_rfl) (fun _ _ _ h => h) (Or.inr ⟨by rfl, rfl⟩) (by assumption) ?_
            try simp only [Act.put, List.setIfInBounds_toArray, List.set_cons_zero, List.set_cons_succ]
            refine wpAnyH_take (i := 14) (oi := { dst := some 73, op := Op.call { callee := Callee.value (Operand.func 72), args := #[Operand.tmp 68, Operand.tmp 72], argTypes := #[22, 9] }, type := 2, pos := _, after := #[{ on := 9, ground := Ground.data }, { on := 13, ground := Ground.data }, { on := 6, ground := Ground.chain }, { on := 6, ground := Ground.guard }], guard := some (6, false) }) (v := undef) rfl (by kernel_rfl) (by kernel_rfl) (by kernel_rfl) (fun _ _ _ h => h) (Or.inr ⟨by rfl, rfl⟩) (by assumption) ?_
            try simp only [Act.put, List.setIfInBounds_toArray, List.set_cons_zero, List.set_cons_succ]
            refine wpAnyH_take (i := 15) (oi := { dst := some 74, op := Op.binOp BinOp.geq 2 (Operand.tmp 73) (Operand.const (Value.int IntKind.i64 0)) 2, type := 4, pos := _, after := #[{ on := 14, ground := Ground.data }, { on := 6, ground := Ground.guard }], guard := some (6, false) }) (v := undef) rfl (by kernel_rfl) (by kernel_rfl) (by kernel_rfl) (fun _ _ _ h => h) (Or.inr ⟨by rfl, rfl⟩) (by assumption) ?_
            try simp only [Act.put, List.setIfInBounds_toArray, List.set_cons_zero, List.set_cons_succ]
            refine wpAnyH_take (i := 16) (oi := { dst := some 75, op := Op.pick (Operand.tmp 65) (Operand.const (Value.bool true)) (Operand.tmp 74), type := 4, pos := _, after := #[{ on := 6, ground := Ground.data }, { on := 15, ground := Ground.data }], guard := none }) (v := ?_) rfl (by kernel_rfl) (by kernel_rfl) (by kernel_rfl) (fun _ _ _ h => h) (Or.inl ⟨by rfl, ?_⟩) (by assumption) ?_
            rotate_left
            · (intro w hSw; (try dsimp only at hSw); go_simp; try with_reducible rfl)
            try simp only [Act.put, List.setIfInBounds_toArray, List.set_cons_zero, List.set_cons_succ]
            refine wpAnyH_done (by kernel_rfl) ?_ _
            have HB3 := hide ((unhide HB).trans (hHeld.2.mono (unhide HB).size))
            clear hHeld hb
            go_wp2
            go_ret
            exact ⟨by rw [unhide HN2]; rfl, unhide HB3⟩
          · have hkc : k ≤ cap := by omega
            cases ha : (all.take k).any (fun y => eqS y x)
            · have hp : ¬ 0 ≤ plc x (all.take k) := of_decide_eq_false ((unhide HP).trans ha)
              have HG2 := hide (unhide HG hx ha)
              go_wp2
              refine wp_region_held_drew (S := H1 wo ⟨cb, co + k, none⟩ (.string x)) (by kernel_rfl) (H1.drew hh) (fun hHeld => ?_)
              refine wpAnyH_take (i := 0) (oi := { dst := some 59, op := Op.move (Operand.tmp 3), type := 22, pos := _, after := #[], guard := none }) (v := ?_) rfl (by kernel_rfl) (by kernel_rfl) (by kernel_rfl) (fun _ _ _ h => h) (Or.inl ⟨by rfl, ?_⟩) (by assumption) ?_
              rotate_left
              · (intro w hSw; (try dsimp only at hSw); go_simp; try with_reducible rfl)
              try simp only [Act.put, List.setIfInBounds_toArray, List.set_cons_zero, List.set_cons_succ]
              refine wpAnyH_take (i := 1) (oi := { dst := some 60, op := Op.move (Operand.tmp 5), type := 3, pos := _, after := #[], guard := none }) (v := ?_) rfl (by kernel_rfl) (by kernel_rfl) (by kernel_rfl) (fun _ _ _ h => h) (Or.inl ⟨by rfl, ?_⟩) (by assumption) ?_
              rotate_left
              · (intro w hSw; (try dsimp only at hSw); go_simp; try with_reducible rfl)
              try simp only [Act.put, List.setIfInBounds_toArray, List.set_cons_zero, List.set_cons_succ]
              refine wpAnyH_take (i := 2) (oi := { dst := some 61, op := Op.indexAddr 22 (Operand.tmp 59) (Operand.tmp 60), type := 0, pos := _, after := #[{ on := 0, ground := Ground.data }, { on := 1, ground := Ground.data }], guard := none }) (v := ?_) rfl (by kernel_rfl) (by kernel_rfl) (by kernel_rfl) (fun _ _ _ h => h) (Or.inl ⟨by rfl, ?_⟩) (by assumption) ?_
              rotate_left
              · (intro w hSw; (try dsimp only at hSw); go_simp; try with_reducible rfl)
              try simp only [Act.put, List.setIfInBounds_toArray, List.set_cons_zero, List.set_cons_succ]
              refine wpAnyH_take (i := 3) (oi := { dst := some 62, op := Op.load 9 (Operand.tmp 61), type := 9, pos := _, after := #[{ on := 2, ground := Ground.data }], guard := none }) (v := ?_) rfl (by kernel_rfl) (by kernel_rfl) (by kernel_rfl) (fun _ _ _ h => h) (Or.inl ⟨by rfl, ?_⟩) (by assumption) ?_
              rotate_left
              · (intro w hSw; (try dsimp only at hSw); go_simp; try with_reducible rfl)
              try simp only [Act.put, List.setIfInBounds_toArray, List.set_cons_zero, List.set_cons_succ]
              refine wpAnyH_ready (rs := [4]) (by kernel_rfl) (by simp) ?_
              refine AllReadyH.cons (i := 4) (o := { dst := some 63, op := Op.call { callee := Callee.value (Operand.func 71), args := #[Operand.tmp 62], argTypes := #[9] }, type := 4, pos := _, after := #[{ on := 3, ground := Ground.data }], guard := none }) rfl (fun K hK => ?_) AllReadyH.nil
              go_simp
              (refine (l3Name_c _ sz _).mono ?_; rintro e w3 ⟨rfl, hb⟩; rw [hx])
              refine hK.out _ _ (by first | exact hHeld | exact H1.call hb (by assumption)) (fun hHeld => ?_)
              clear hK K
              try simp only [Act.put, List.setIfInBounds_toArray, List.set_cons_zero, List.set_cons_succ]
              refine wpAnyH_take (i := 5) (oi := { dst := some 64, op := Op.unOp UnOp.not 4 (Operand.tmp 63), type := 4, pos := _, after := #[{ on := 4, ground := Ground.data }], guard := none }) (v := ?_) rfl (by kernel_rfl) (by kernel_rfl) (by kernel_rfl) (fun _ _ _ h => h) (Or.inl ⟨by rfl, ?_⟩) (by assumption) ?_
              rotate_left
              · (intro w hSw; (try dsimp only at hSw); go_simp; try with_reducible rfl)
              try simp only [Act.put, List.setIfInBounds_toArray, List.set_cons_zero, List.set_cons_succ]
              refine wpAnyH_take (i := 6) (oi := { dst := some 65, op := Op.move (Operand.tmp 64), type := 4, pos := _, after := #[{ on := 5, ground := Ground.data }, { on := 4, ground := Ground.chain }], guard := none }) (v := ?_) rfl (by kernel_rfl) (by kernel_rfl) (by kernel_rfl) (fun _ _ _ h => h) (Or.inl ⟨by rfl, ?_⟩) (by assumption) ?_
              rotate_left
              · (intro w hSw; (try dsimp only at hSw); go_simp; try with_reducible rfl)
              try simp only [Act.put, List.setIfInBounds_toArray, List.set_cons_zero, List.set_cons_succ]
              refine wpAnyH_take (i := 7) (oi := { dst := some 66, op := Op.move (Operand.tmp 3), type := 22, pos := _, after := #[{ on := 6, ground := Ground.guard }], guard := some (6, false) }) (v := ?_) rfl (by kernel_rfl) (by kernel_rfl) (by kernel_rfl) (fun _ _ _ h => h) (Or.inl ⟨by rfl, ?_⟩) (by assumption) ?_
              rotate_left
              · (intro w hSw; (try dsimp only at hSw); go_simp; try with_reducible rfl)
              try simp only [Act.put, List.setIfInBounds_toArray, List.set_cons_zero, List.set_cons_succ]
              refine wpAnyH_take (i := 8) (oi := { dst := some 67, op := Op.move (Operand.tmp 5), type := 3, pos := _, after := #[{ on := 6, ground := Ground.guard }], guard := some (6, false) }) (v := ?_) rfl (by kernel_rfl) (by kernel_rfl) (by kernel_rfl) (fun _ _ _ h => h) (Or.inl ⟨by rfl, ?_⟩) (by assumption) ?_
              rotate_left
              · (intro w hSw; (try dsimp only at hSw); go_simp; try with_reducible rfl)
              try simp only [Act.put, List.setIfInBounds_toArray, List.set_cons_zero, List.set_cons_succ]
              refine wpAnyH_take (i := 9) (oi := { dst := some 68, op := Op.slice 22 (Operand.tmp 66) none (some (Operand.tmp 67)) none, type := 22, pos := _, after := #[{ on := 7, ground := Ground.data }, { on := 8, ground := Ground.data }, { on := 6, ground := Ground.guard }], guard := some (6, false) }) (v := ?_) rfl (by kernel_rfl) (by kernel_rfl) (by kernel_rfl) (fun _ _ _ h => h) (Or.inl ⟨by rfl, ?_⟩) (by assumption) ?_
              rotate_left
              · (intro w hSw; (try dsimp only at hSw); go_simp; try with_reducible rfl)
              try simp only [Act.put, List.setIfInBounds_toArray, List.set_cons_zero, List.set_cons_succ]
              refine wpAnyH_take (i := 10) (oi := { dst := some 69, op := Op.move (Operand.tmp 3), type := 22, pos := _, after := #[{ on := 6, ground := Ground.guard }], guard := some (6, false) }) (v := ?_) rfl (by kernel_rfl) (by kernel_rfl) (by kernel_rfl) (fun _ _ _ h => h) (Or.inl ⟨by rfl, ?_⟩) (by assumption) ?_
              rotate_left
              · (intro w hSw; (try dsimp only at hSw); go_simp; try with_reducible rfl)
              try simp only [Act.put, List.setIfInBounds_toArray, List.set_cons_zero, List.set_cons_succ]
              refine wpAnyH_take (i := 11) (oi := { dst := some 70, op := Op.move (Operand.tmp 5), type := 3, pos := _, after := #[{ on := 6, ground := Ground.guard }], guard := some (6, false) }) (v := ?_) rfl (by kernel_rfl) (by kernel_rfl) (by kernel_rfl) (fun _ _ _ h => h) (Or.inl ⟨by rfl, ?_⟩) (by assumption) ?_
              rotate_left
              · (intro w hSw; (try dsimp only at hSw); go_simp; try with_reducible rfl)
              try simp only [Act.put, List.setIfInBounds_toArray, List.set_cons_zero, List.set_cons_succ]
              refine wpAnyH_take (i := 12) (oi := { dst := some 71, op := Op.indexAddr 22 (Operand.tmp 69) (Operand.tmp 70), type := 0, pos := _, after := #[{ on := 10, ground := Ground.data }, { on := 11, ground := Ground.data }, { on := 6, ground := Ground.guard }], guard := some (6, false) }) (v := ?_) rfl (by kernel_rfl) (by kernel_rfl) (by kernel_rfl) (fun _ _ _ h => h) (Or.inl ⟨by rfl, ?_⟩) (by assumption) ?_
              rotate_left
              · (intro w hSw; (try dsimp only at hSw); go_simp; try with_reducible rfl)
              try simp only [Act.put, List.setIfInBounds_toArray, List.set_cons_zero, List.set_cons_succ]
              refine wpAnyH_take (i := 13) (oi := { dst := some 72, op := Op.load 9 (Operand.tmp 71), type := 9, pos := _, after := #[{ on := 12, ground := Ground.data }, { on := 6, ground := Ground.guard }], guard := some (6, false) }) (v := ?_) rfl (by kernel_rfl) (by kernel_rfl) (by kernel_rfl) (fun _ _ _ h => h) (Or.inl ⟨by rfl, ?_⟩) (by assumption) ?_
              rotate_left
              · (intro w hSw; (try dsimp only at hSw); go_simp; try with_reducible rfl)
              try simp only [Act.put, List.setIfInBounds_toArray, List.set_cons_zero, List.set_cons_succ]
              refine wpAnyH_ready (rs := [14]) (by kernel_rfl) (by simp) ?_
              refine AllReadyH.cons (i := 14) (o := { dst := some 73, op := Op.call { callee := Callee.value (Operand.func 72), args := #[Operand.tmp 68, Operand.tmp 72], argTypes := #[22, 9] }, type := 2, pos := _, after := #[{ on := 9, ground := Ground.data }, { on := 13, ground := Ground.data }, { on := 6, ground := Ground.chain }, { on := 6, ground := Ground.guard }], guard := some (6, false) }) rfl (fun K hK => ?_) AllReadyH.nil
              go_simp
              (refine (l3Place_k _ _ _ (all.take k) _ _ ((unhide HS2).call hHeld.2) (unhide HLk)).mono ?_; rintro e w4 ⟨rfl, rfl⟩)
              refine hK.out _ _ (by first | exact hHeld | exact H1.call hb (by assumption)) (fun hHeld => ?_)
              clear hK K
              try simp only [Act.put, List.setIfInBounds_toArray, List.set_cons_zero, List.set_cons_succ]
              refine wpAnyH_take (i := 15) (oi := { dst := some 74, op := Op.binOp BinOp.geq 2 (Operand.tmp 73) (Operand.const (Value.int IntKind.i64 0)) 2, type := 4, pos := _, after := #[{ on := 14, ground := Ground.data }, { on := 6, ground := Ground.guard }], guard := some (6, false) }) (v := ?_) rfl (by kernel_rfl) (by kernel_rfl) (by kernel_rfl) (fun _ _ _ h => h) (Or.inl ⟨by rfl, ?_⟩) (by assumption) ?_
              rotate_left
              · (intro w hSw; (try dsimp only at hSw); go_simp; try with_reducible rfl)
              try simp only [Act.put, List.setIfInBounds_toArray, List.set_cons_zero, List.set_cons_succ]
              refine wpAnyH_take (i := 16) (oi := { dst := some 75, op := Op.pick (Operand.tmp 65) (Operand.const (Value.bool true)) (Operand.tmp 74), type := 4, pos := _, after := #[{ on := 6, ground := Ground.data }, { on := 15, ground := Ground.data }], guard := none }) (v := ?_) rfl (by kernel_rfl) (by kernel_rfl) (by kernel_rfl) (fun _ _ _ h => h) (Or.inl ⟨by rfl, ?_⟩) (by assumption) ?_
              rotate_left
              · (intro w hSw; (try dsimp only at hSw); go_simp; try with_reducible rfl)
              try simp only [Act.put, List.setIfInBounds_toArray, List.set_cons_zero, List.set_cons_succ]
              refine wpAnyH_done (by kernel_rfl) ?_ _
              have HB3 := hide hHeld.2
              clear hHeld hb
              rw [show decide (0 ≤ plc x (List.take k all)) = false from decide_eq_false (by omega)]
              clear hst hh d HG HF1 HP HS2 ha hx hp
              go_wp2
              go_roundw
              case rel => exact ⟨k + 1, by omega, by go_num, unhide HG2, unhide HB3⟩
              case measure => simp [intOf]; omega
            · have hp : 0 ≤ plc x (all.take k) := of_decide_eq_true ((unhide HP).trans ha)
              have HN2 := hide (unhide HF1 (.inr ha))
              go_wp2
              refine wp_region_held_drew (S := H1 wo ⟨cb, co + k, none⟩ (.string x)) (by kernel_rfl) (H1.drew hh) (fun hHeld => ?_)
              refine wpAnyH_take (i := 0) (oi := { dst := some 59, op := Op.move (Operand.tmp 3), type := 22, pos := _, after := #[], guard := none }) (v := ?_) rfl (by kernel_rfl) (by kernel_rfl) (by kernel_rfl) (fun _ _ _ h => h) (Or.inl ⟨by rfl, ?_⟩) (by assumption) ?_
              rotate_left
              · (intro w hSw; (try dsimp only at hSw); go_simp; try with_reducible rfl)
              try simp only [Act.put, List.setIfInBounds_toArray, List.set_cons_zero, List.set_cons_succ]
              refine wpAnyH_take (i := 1) (oi := { dst := some 60, op := Op.move (Operand.tmp 5), type := 3, pos := _, after := #[], guard := none }) (v := ?_) rfl (by kernel_rfl) (by kernel_rfl) (by kernel_rfl) (fun _ _ _ h => h) (Or.inl ⟨by rfl, ?_⟩) (by assumption) ?_
              rotate_left
              · (intro w hSw; (try dsimp only at hSw); go_simp; try with_reducible rfl)
              try simp only [Act.put, List.setIfInBounds_toArray, List.set_cons_zero, List.set_cons_succ]
              refine wpAnyH_take (i := 2) (oi := { dst := some 61, op := Op.indexAddr 22 (Operand.tmp 59) (Operand.tmp 60), type := 0, pos := _, after := #[{ on := 0, ground := Ground.data }, { on := 1, ground := Ground.data }], guard := none }) (v := ?_) rfl (by kernel_rfl) (by kernel_rfl) (by kernel_rfl) (fun _ _ _ h => h) (Or.inl ⟨by rfl, ?_⟩) (by assumption) ?_
              rotate_left
              · (intro w hSw; (try dsimp only at hSw); go_simp; try with_reducible rfl)
              try simp only [Act.put, List.setIfInBounds_toArray, List.set_cons_zero, List.set_cons_succ]
              refine wpAnyH_take (i := 3) (oi := { dst := some 62, op := Op.load 9 (Operand.tmp 61), type := 9, pos := _, after := #[{ on := 2, ground := Ground.data }], guard := none }) (v := ?_) rfl (by kernel_rfl) (by kernel_rfl) (by kernel_rfl) (fun _ _ _ h => h) (Or.inl ⟨by rfl, ?_⟩) (by assumption) ?_
              rotate_left
              · (intro w hSw; (try dsimp only at hSw); go_simp; try with_reducible rfl)
              try simp only [Act.put, List.setIfInBounds_toArray, List.set_cons_zero, List.set_cons_succ]
              refine wpAnyH_ready (rs := [4]) (by kernel_rfl) (by simp) ?_
              refine AllReadyH.cons (i := 4) (o := { dst := some 63, op := Op.call { callee := Callee.value (Operand.func 71), args := #[Operand.tmp 62], argTypes := #[9] }, type := 4, pos := _, after := #[{ on := 3, ground := Ground.data }], guard := none }) rfl (fun K hK => ?_) AllReadyH.nil
              go_simp
              (refine (l3Name_c _ sz _).mono ?_; rintro e w3 ⟨rfl, hb⟩; rw [hx])
              refine hK.out _ _ (by first | exact hHeld | exact H1.call hb (by assumption)) (fun hHeld => ?_)
              clear hK K
              try simp only [Act.put, List.setIfInBounds_toArray, List.set_cons_zero, List.set_cons_succ]
              refine wpAnyH_take (i := 5) (oi := { dst := some 64, op := Op.unOp UnOp.not 4 (Operand.tmp 63), type := 4, pos := _, after := #[{ on := 4, ground := Ground.data }], guard := none }) (v := ?_) rfl (by kernel_rfl) (by kernel_rfl) (by kernel_rfl) (fun _ _ _ h => h) (Or.inl ⟨by rfl, ?_⟩) (by assumption) ?_
              rotate_left
              · (intro w hSw; (try dsimp only at hSw); go_simp; try with_reducible rfl)
              try simp only [Act.put, List.setIfInBounds_toArray, List.set_cons_zero, List.set_cons_succ]
              refine wpAnyH_take (i := 6) (oi := { dst := some 65, op := Op.move (Operand.tmp 64), type := 4, pos := _, after := #[{ on := 5, ground := Ground.data }, { on := 4, ground := Ground.chain }], guard := none }) (v := ?_) rfl (by kernel_rfl) (by kernel_rfl) (by kernel_rfl) (fun _ _ _ h => h) (Or.inl ⟨by rfl, ?_⟩) (by assumption) ?_
              rotate_left
              · (intro w hSw; (try dsimp only at hSw); go_simp; try with_reducible rfl)
              try simp only [Act.put, List.setIfInBounds_toArray, List.set_cons_zero, List.set_cons_succ]
              refine wpAnyH_take (i := 7) (oi := { dst := some 66, op := Op.move (Operand.tmp 3), type := 22, pos := _, after := #[{ on := 6, ground := Ground.guard }], guard := some (6, false) }) (v := ?_) rfl (by kernel_rfl) (by kernel_rfl) (by kernel_rfl) (fun _ _ _ h => h) (Or.inl ⟨by rfl, ?_⟩) (by assumption) ?_
              rotate_left
              · (intro w hSw; (try dsimp only at hSw); go_simp; try with_reducible rfl)
              try simp only [Act.put, List.setIfInBounds_toArray, List.set_cons_zero, List.set_cons_succ]
              refine wpAnyH_take (i := 8) (oi := { dst := some 67, op := Op.move (Operand.tmp 5), type := 3, pos := _, after := #[{ on := 6, ground := Ground.guard }], guard := some (6, false) }) (v := ?_) rfl (by kernel_rfl) (by kernel_rfl) (by kernel_rfl) (fun _ _ _ h => h) (Or.inl ⟨by rfl, ?_⟩) (by assumption) ?_
              rotate_left
              · (intro w hSw; (try dsimp only at hSw); go_simp; try with_reducible rfl)
              try simp only [Act.put, List.setIfInBounds_toArray, List.set_cons_zero, List.set_cons_succ]
              refine wpAnyH_take (i := 9) (oi := { dst := some 68, op := Op.slice 22 (Operand.tmp 66) none (some (Operand.tmp 67)) none, type := 22, pos := _, after := #[{ on := 7, ground := Ground.data }, { on := 8, ground := Ground.data }, { on := 6, ground := Ground.guard }], guard := some (6, false) }) (v := ?_) rfl (by kernel_rfl) (by kernel_rfl) (by kernel_rfl) (fun _ _ _ h => h) (Or.inl ⟨by rfl, ?_⟩) (by assumption) ?_
              rotate_left
              · (intro w hSw; (try dsimp only at hSw); go_simp; try with_reducible rfl)
              try simp only [Act.put, List.setIfInBounds_toArray, List.set_cons_zero, List.set_cons_succ]
              refine wpAnyH_take (i := 10) (oi := { dst := some 69, op := Op.move (Operand.tmp 3), type := 22, pos := _, after := #[{ on := 6, ground := Ground.guard }], guard := some (6, false) }) (v := ?_) rfl (by kernel_rfl) (by kernel_rfl) (by kernel_rfl) (fun _ _ _ h => h) (Or.inl ⟨by rfl, ?_⟩) (by assumption) ?_
              rotate_left
              · (intro w hSw; (try dsimp only at hSw); go_simp; try with_reducible rfl)
              try simp only [Act.put, List.setIfInBounds_toArray, List.set_cons_zero, List.set_cons_succ]
              refine wpAnyH_take (i := 11) (oi := { dst := some 70, op := Op.move (Operand.tmp 5), type := 3, pos := _, after := #[{ on := 6, ground := Ground.guard }], guard := some (6, false) }) (v := ?_) rfl (by kernel_rfl) (by kernel_rfl) (by kernel_rfl) (fun _ _ _ h => h) (Or.inl ⟨by rfl, ?_⟩) (by assumption) ?_
              rotate_left
              · (intro w hSw; (try dsimp only at hSw); go_simp; try with_reducible rfl)
              try simp only [Act.put, List.setIfInBounds_toArray, List.set_cons_zero, List.set_cons_succ]
              refine wpAnyH_take (i := 12) (oi := { dst := some 71, op := Op.indexAddr 22 (Operand.tmp 69) (Operand.tmp 70), type := 0, pos := _, after := #[{ on := 10, ground := Ground.data }, { on := 11, ground := Ground.data }, { on := 6, ground := Ground.guard }], guard := some (6, false) }) (v := ?_) rfl (by kernel_rfl) (by kernel_rfl) (by kernel_rfl) (fun _ _ _ h => h) (Or.inl ⟨by rfl, ?_⟩) (by assumption) ?_
              rotate_left
              · (intro w hSw; (try dsimp only at hSw); go_simp; try with_reducible rfl)
              try simp only [Act.put, List.setIfInBounds_toArray, List.set_cons_zero, List.set_cons_succ]
              refine wpAnyH_take (i := 13) (oi := { dst := some 72, op := Op.load 9 (Operand.tmp 71), type := 9, pos := _, after := #[{ on := 12, ground := Ground.data }, { on := 6, ground := Ground.guard }], guard := some (6, false) }) (v := ?_) rfl (by kernel_rfl) (by kernel_rfl) (by kernel_rfl) (fun _ _ _ h => h) (Or.inl ⟨by rfl, ?_⟩) (by assumption) ?_
              rotate_left
              · (intro w hSw; (try dsimp only at hSw); go_simp; try with_reducible rfl)
              try simp only [Act.put, List.setIfInBounds_toArray, List.set_cons_zero, List.set_cons_succ]
              refine wpAnyH_ready (rs := [14]) (by kernel_rfl) (by simp) ?_
              refine AllReadyH.cons (i := 14) (o := { dst := some 73, op := Op.call { callee := Callee.value (Operand.func 72), args := #[Operand.tmp 68, Operand.tmp 72], argTypes := #[22, 9] }, type := 2, pos := _, after := #[{ on := 9, ground := Ground.data }, { on := 13, ground := Ground.data }, { on := 6, ground := Ground.chain }, { on := 6, ground := Ground.guard }], guard := some (6, false) }) rfl (fun K hK => ?_) AllReadyH.nil
              go_simp
              (refine (l3Place_k _ _ _ (all.take k) _ _ ((unhide HS2).call hHeld.2) (unhide HLk)).mono ?_; rintro e w4 ⟨rfl, rfl⟩)
              refine hK.out _ _ (by first | exact hHeld | exact H1.call hb (by assumption)) (fun hHeld => ?_)
              clear hK K
              try simp only [Act.put, List.setIfInBounds_toArray, List.set_cons_zero, List.set_cons_succ]
              refine wpAnyH_take (i := 15) (oi := { dst := some 74, op := Op.binOp BinOp.geq 2 (Operand.tmp 73) (Operand.const (Value.int IntKind.i64 0)) 2, type := 4, pos := _, after := #[{ on := 14, ground := Ground.data }, { on := 6, ground := Ground.guard }], guard := some (6, false) }) (v := ?_) rfl (by kernel_rfl) (by kernel_rfl) (by kernel_rfl) (fun _ _ _ h => h) (Or.inl ⟨by rfl, ?_⟩) (by assumption) ?_
              rotate_left
              · (intro w hSw; (try dsimp only at hSw); go_simp; try with_reducible rfl)
              try simp only [Act.put, List.setIfInBounds_toArray, List.set_cons_zero, List.set_cons_succ]
              refine wpAnyH_take (i := 16) (oi := { dst := some 75, op := Op.pick (Operand.tmp 65) (Operand.const (Value.bool true)) (Operand.tmp 74), type := 4, pos := _, after := #[{ on := 6, ground := Ground.data }, { on := 15, ground := Ground.data }], guard := none }) (v := ?_) rfl (by kernel_rfl) (by kernel_rfl) (by kernel_rfl) (fun _ _ _ h => h) (Or.inl ⟨by rfl, ?_⟩) (by assumption) ?_
              rotate_left
              · (intro w hSw; (try dsimp only at hSw); go_simp; try with_reducible rfl)
              try simp only [Act.put, List.setIfInBounds_toArray, List.set_cons_zero, List.set_cons_succ]
              refine wpAnyH_done (by kernel_rfl) ?_ _
              have HB3 := hide ((unhide HB).trans (hHeld.2.mono (unhide HB).size))
              clear hHeld hb
              go_wp2
              go_ret
              exact ⟨by rw [unhide HN2]; rfl, unhide HB3⟩
        · have HE := hide (unhide HQ (fun j hj => unhide HA j hj (by have := unhide HN; omega)))
          have HB3 := hide ((unhide HB).trans (hb.mono (unhide HB).size))
          clear hb hall
          go_wp2
          go_ret
          exact ⟨by rw [unhide HE]; rfl, unhide HB3⟩
end Go.Proofs.YthldhjifnpfmiaaGreatDoor
