/- Declarations, as the program asks for them. -/
import Derived.Test.YthldhjifnpfmiaaGreatDoorDeclE
namespace Go.Proofs.YthldhjifnpfmiaaGreatDoor
open Go.RowKit
set_option linter.unusedSimpArgs false

theorem own_below {w w1 : World} {base : Nat} {e : TypeId} {size n : Nat} {v : Value} {xs : List Value} (h : w.ownsRow base e size v n xs) (hb : Below w.heap.size w w1) : w1.ownsRow base e size v n xs := by
  refine ⟨h.1, ?_⟩
  rcases h.2 with h0 | ⟨g, cap, cur, hv, hg, hh, hr⟩
  · exact .inl h0
  · refine .inr ⟨g, cap, cur, hv, hg, ?_, hr⟩
    rw [hb.block g (by rcases Nat.lt_or_ge g w.heap.size with hlt | hge
                       · exact hlt
                       · rw [Array.getElem?_eq_none hge] at hh; cases hh)]
    exact hh
theorem heap_new2 (w : World) (o p : Obj) : ((w.alloc o).alloc p).heap[w.heap.size + 1]? = some p := by
  have h := heap_alloc_new (w.alloc o) p
  rwa [show (w.alloc o).heap.size = w.heap.size + 1 by simp] at h
theorem Contains_k (a : Option Addr) (cap k : Nat) (xs : List ByteArray) (s : ByteArray) (w : World) (h : Strs w a xs) (hk : xs.length = k) : Calls Tryz.prog 78 #[.slice a k cap, .string s] w fun e w' => e = .returned (.bool (xs.any fun x => eqS x s)) ∧ w' = w := by
  subst hk; exact Contains_c a cap xs s w h
set_option maxRecDepth 20000 in
set_option maxHeartbeats 4000000 in
theorem iDeclOk_c (a1 a2 a3 : Nat) (c1 c2 c3 : Nat) (vs fs : List ByteArray) (rs : List (ByteArray × Int)) (w : World) (hw : KW w) (hv : Strs w (some ⟨a1, 0, none⟩) vs) (hf : Strs w (some ⟨a2, 0, none⟩) fs) (hr : Arrs w (some ⟨a3, 0, none⟩) rs)
    (hz : ∀ x ∈ namesOf vs fs rs, x.size ≤ 1048576) :
    Calls Tryz.prog 60 #[.agg #[.slice (some ⟨a1, 0, none⟩) vs.length c1, .slice (some ⟨a2, 0, none⟩) fs.length c2, .slice (some ⟨a3, 0, none⟩) rs.length c3]] w fun e w' => e = .returned (.bool (declB vs fs rs)) ∧ Below w.heap.size w w' := by
  have HW := hide hw
  have HV := hide hv
  have HF := hide hf
  have HR := hide hr
  have HZ := hide hz
  have T0 := C3.new w (.slice (some ⟨a1, 0, none⟩) vs.length c1) (.slice (some ⟨a2, 0, none⟩) fs.length c2) (.slice (some ⟨a3, 0, none⟩) rs.length c3) 40
  have K0 := (Below.refl _ w).alloc (Nat.le_refl _) (Obj.cells #[.slice (some ⟨a1, 0, none⟩) vs.length c1, .slice (some ⟨a2, 0, none⟩) fs.length c2, .slice (some ⟨a3, 0, none⟩) rs.length c3] 40)
  have HT0 := hide T0
  have HK := hide K0
  clear T0 K0 hv hf hr hz hw
  by_cases h1 : 5 < vs.length
  · have HN := hide (show declB vs fs rs = false from decide_eq_false (fun h => by have := h.1; omega))
    go_enter Tryz.func60, Tryz.ntmps60
    go_wp2
    go_ret
    exact ⟨by rw [unhide HN]; rfl, unhide HK⟩
  by_cases h2 : 3 < fs.length
  · have HN := hide (show declB vs fs rs = false from decide_eq_false (fun h => by have := h.2.1; omega))
    go_enter Tryz.func60, Tryz.ntmps60
    go_wp2
    go_ret
    exact ⟨by rw [unhide HN]; rfl, unhide HK⟩
  by_cases h3 : 2 < rs.length
  · have HN := hide (show declB vs fs rs = false from decide_eq_false (fun h => by have := h.2.2.1; omega))
    go_enter Tryz.func60, Tryz.ntmps60
    go_wp2
    go_ret
    exact ⟨by rw [unhide HN]; rfl, unhide HK⟩
  have h1' : ¬ (5 : Int) < (vs.length : Int) := by omega
  have h2' : ¬ (3 : Int) < (fs.length : Int) := by omega
  have h3' : ¬ (2 : Int) < (rs.length : Int) := by omega
  obtain ⟨inf, hi, hz0, hz1, hz2⟩ := info_parts strInfo
  go_enter Tryz.func60, Tryz.ntmps60
  go_wp2_with fail
  have KB := ((unhide HK).alloc (unhide HK).size (Obj.cells #[.slice (some ⟨a1, 0, none⟩) vs.length c1, .slice (some ⟨a2, 0, none⟩) fs.length c2] 22))
  have TB := (unhide HT0).alloc (Obj.cells #[.slice (some ⟨a1, 0, none⟩) vs.length c1, .slice (some ⟨a2, 0, none⟩) fs.length c2] 22)
  have q0 : ((w.alloc (Obj.cells #[.slice (some ⟨a1, 0, none⟩) vs.length c1, .slice (some ⟨a2, 0, none⟩) fs.length c2, .slice (some ⟨a3, 0, none⟩) rs.length c3] 40)).alloc (Obj.cells #[.slice (some ⟨a1, 0, none⟩) vs.length c1, .slice (some ⟨a2, 0, none⟩) fs.length c2] 22)).cell? ⟨w.heap.size + 1, 0, none⟩ = some (.slice (some ⟨a1, 0, none⟩) vs.length c1) := by simp
  have q1 : ((w.alloc (Obj.cells #[.slice (some ⟨a1, 0, none⟩) vs.length c1, .slice (some ⟨a2, 0, none⟩) fs.length c2, .slice (some ⟨a3, 0, none⟩) rs.length c3] 40)).alloc (Obj.cells #[.slice (some ⟨a1, 0, none⟩) vs.length c1, .slice (some ⟨a2, 0, none⟩) fs.length c2] 22)).cell? ⟨w.heap.size + 1, 1, none⟩ = some (.slice (some ⟨a2, 0, none⟩) fs.length c2) := by simp
  generalize (w.alloc (Obj.cells #[.slice (some ⟨a1, 0, none⟩) vs.length c1, .slice (some ⟨a2, 0, none⟩) fs.length c2, .slice (some ⟨a3, 0, none⟩) rs.length c3] 40)).alloc (Obj.cells #[.slice (some ⟨a1, 0, none⟩) vs.length c1, .slice (some ⟨a2, 0, none⟩) fs.length c2] 22) = u at KB TB q0 q1 ⊢
  refine (Concat_c (w.heap.size + 1) a1 a2 c1 c2 vs fs _ q0 q1 ((unhide HV).call KB) ((unhide HF).call KB) (by omega) (by omega)).mono ?_
  rintro e u1 ⟨oa, cap, rfl, ho, hb⟩
  have b2 := (TB.call hb).2.2.1
  have KB1 := KB.trans (hb.mono KB.size)
  have HO := hide ho
  have HB := hide KB1
  have HUs := hide hb.size
  have HU := hide KB.size
  clear HT0 HK KB TB q0 q1 ho hb KB1
  go_wp2
  clear b2
  go_loopw [3, 33] (fun all i wr => ∃ (k : Nat) (oa : Option Addr) (cap : Nat), k ≤ rs.length ∧ i = .int .i64 k ∧ all = .slice oa (vs.length + fs.length + k) cap ∧ wr.ownsRow u.heap.size 9 1 (.slice oa (vs.length + fs.length + k) cap) (vs.length + fs.length + k) (cellsS (vs ++ fs ++ (rs.take k).map (·.1))) ∧ (∀ j, (h : j < rs.length) → j < k → 1 ≤ rs[j].2 ∧ rs[j].2 ≤ 16) ∧ Below w.heap.size w wr ∧ u.heap.size ≤ wr.heap.size) (fun _ i _ => rs.length - (intOf i).toNat)
  case atStart => exact ⟨0, oa, cap, Nat.zero_le _, rfl, rfl, by simpa using unhide HO, fun j _ h => by omega, unhide HB, unhide HUs⟩
  case round =>
    clear HO HB HUs
    obtain ⟨k, oa, cap, hk, rfl, rfl, ho, hall, hb, hs⟩ := hrel
    have HO := hide ho
    have HA := hide hall
    have HB := hide hb
    have HBs : Hid (u.heap.size ≤ wr.heap.size) := hide hs
    clear ho hall hs
    by_cases hlt : k < rs.length
    · rcases ((unhide HR).call hb).2 with h0 | ⟨cb, co, e, hc⟩
      · omega
      cases e
      have d1 := (hc k hlt).1
      have d2 := (hc k hlt).2
      rw [Nat.zero_add] at d1 d2
      have HX := hide (show (rs.take (k + 1)).map (·.1) = (rs.take k).map (·.1) ++ [rs[k].1] by rw [List.take_succ_eq_append_getElem hlt, List.map_append]; rfl)
      have HI := hide (show (1 ≤ rs[k].2 ∧ rs[k].2 ≤ 16) → ∀ j, (h : j < rs.length) → j < k + 1 → 1 ≤ rs[j].2 ∧ rs[j].2 ≤ 16 from fun e j h hj => by
        by_cases q : j = k
        · subst q; exact e
        · exact unhide HA j h (by omega))
      have HJ := hide (show ¬ (1 ≤ rs[k].2 ∧ rs[k].2 ≤ 16) → declB vs fs rs = false from fun e => decide_eq_false (fun h => absurd (h.2.2.2.1 k hlt) e))
      clear hc hb
      generalize rs[k].1 = x at d1 HX
      generalize rs[k].2 = z at d2 HI HJ
      by_cases g1 : z < 1
      · have HN := hide (unhide HJ (by omega))
        have HB2 := hide ((unhide HB).alloc (unhide HB).size (Obj.cells #[.string x, .int .i64 z] 106))
        go_wp2
        go_ret
        exact ⟨by rw [unhide HN]; rfl, unhide HB2⟩
      by_cases g2 : 16 < z
      · have HN := hide (unhide HJ (by omega))
        have HB2 := hide ((unhide HB).alloc (unhide HB).size (Obj.cells #[.string x, .int .i64 z] 106))
        go_wp2
        go_ret
        exact ⟨by rw [unhide HN]; rfl, unhide HB2⟩
      have HI2 := hide (unhide HI (by omega))
      clear HI HJ
      go_wp2_with (at_builtin; refine wpList_app _ rfl _ _ 22 rfl u.heap.size 9 inf (.string ⟨#[]⟩) 1 16 Tryz.underlying22 hi hz0 hz1 hz2 rfl (by decide) _ _ _ rfl (((unhide HO).alloc _).alloc _) ⟨_, 0, none⟩ 1 1 [.string x] rfl rfl (World.news_of_block (heap_new2 _ _ _)) (by simp [Value.oneCell']) (by unfold maxLen; omega) (by omega) (by have := unhide HBs; simp; omega) ?_; intro oa' cap' w3 hown hgrow)
      have HO2 : Hid (w3.ownsRow u.heap.size 9 1 (.slice oa' (vs.length + fs.length + k + 1) cap') (vs.length + fs.length + k + 1) (cellsS (vs ++ fs ++ (rs.take (k + 1)).map (·.1)))) := hide (by
        rw [unhide HX, ← List.append_assoc, show ∀ l, cellsS (l ++ [x]) = cellsS l ++ [.string x] from fun l => by simp [cellsS]]
        exact hown)
      have HB2 := hide ((((unhide HB).alloc (unhide HB).size (Obj.cells #[.string x, .int .i64 z] 106)).alloc (by have := (unhide HB).size; simp; omega) (Obj.cells #[.string x] 9)).grown hgrow (by have := (unhide HB).size; simp; omega) (fun j hj => by have := (((unhide HO).alloc (Obj.cells #[.string x, .int .i64 z] 106)).lt j hj).1; have := unhide HU; omega))
      have HS2 : Hid (u.heap.size ≤ w3.heap.size) := hide (by have := hgrow.size; have := unhide HBs; simp at *; omega)
      clear HO HB HBs hown hgrow d1 d2
      exact ⟨⟨k + 1, oa', cap', by omega, by go_num, rfl, unhide HO2, unhide HI2, unhide HB2, unhide HS2⟩, by simp [intOf]; omega⟩
    · obtain rfl : k = rs.length := by omega
      rw [show List.map (fun x : ByteArray × Int => x.1) (List.take rs.length rs) = rs.map (·.1) by rw [List.take_length]] at HO
      obtain ⟨hn, hst⟩ := Strs.ofOwn (unhide HO) (by omega)
      have hcap := own_cap (unhide HO)
      have HN := hide hn
      have HS := hide hst
      have HW2 := hide ((unhide HW).call hb)
      have HQ := hide (show namesP (namesOf vs fs rs) → declB vs fs rs = true from fun h => decide_eq_true ⟨by omega, by omega, by omega, fun j hj => unhide HA j hj hj, h⟩)
      have HQ2 := hide (show ∀ j, (h : j < (namesOf vs fs rs).length) → (nameB (namesOf vs fs rs)[j] = false ∨ ((namesOf vs fs rs).take j).any (fun x => eqS x (namesOf vs fs rs)[j]) = true) → declB vs fs rs = false from fun j h hh => decide_eq_false (fun hd => by
        have := hd.2.2.2.2 j h
        rcases hh with hh | hh
        · rw [hh] at this; exact absurd this.1 (by simp)
        · rw [hh] at this; exact absurd this.2 (by simp)))
      have hL : vs.length + fs.length + rs.length ≤ 10 := by omega
      have hZ := unhide HZ
      change Hid (_ = (namesOf vs fs rs).length) at HN
      change Hid (Strs wr oa (namesOf vs fs rs)) at HS
      clear hn hst HO HA HZ HV HF HR HW hb HU HBs
      generalize namesOf vs fs rs = all at HN HS HQ HQ2 hZ
      have HZ := hide hZ
      clear hZ
      generalize vs.length + fs.length + rs.length = L at HN hcap hL ⊢
      have hL' : (L : Int) ≤ 10 := by omega
      go_wp2
      generalize wr = wo at HS HB HW2 ⊢
      go_loop [53] (fun i => ∃ k : Nat, k ≤ L ∧ i = .int .i64 k ∧ (∀ j, (h : j < all.length) → j < k → nameB all[j] = true ∧ (all.take j).any (fun x => eqS x all[j]) = false)) (fun i => L - (intOf i).toNat)
      case atStart => exact ⟨0, Nat.zero_le _, rfl, fun j _ h => by omega⟩
      case round =>
        obtain ⟨k, hk, rfl, hall⟩ := hrel
        have HA := hide hall
        by_cases hlt : k < L
        · have hk' : k < all.length := by rw [← unhide HN]; exact hlt
          have HS2 := hide ((unhide HS).take k)
          have HLk := hide (show (all.take k).length = k by rw [List.length_take]; omega)
          rcases (unhide HS).2 with h0 | ⟨cb, co, rfl, hc⟩
          · omega
          have d := hc k hk'
          have sz := unhide HZ _ (List.getElem_mem hk')
          have HG := hide (show nameB all[k] = true → (all.take k).any (fun x => eqS x all[k]) = false → ∀ j, (h : j < all.length) → j < k + 1 → nameB all[j] = true ∧ (all.take j).any (fun x => eqS x all[j]) = false from fun e1 e2 j h hj => by
            by_cases q : j = k
            · subst q; exact ⟨e1, e2⟩
            · exact unhide HA j h (by omega))
          have HF1 := hide (unhide HQ2 k hk')
          clear hc hall
          generalize all[k] = x at d sz HG HF1
          have hkc : k ≤ cap := by omega
          cases hx : nameB x
          · have HN2 := hide (unhide HF1 (.inl hx))
            go_wp2_with fail
            refine (nameOk_c _ sz _ (unhide HW2)).mono ?_
            rintro e w3 ⟨rfl, rfl⟩
            rw [hx]
            clear hx
            go_wp2
            go_ret
            exact ⟨by rw [unhide HN2]; rfl, unhide HB⟩
          · go_wp2_with fail
            refine (nameOk_c _ sz _ (unhide HW2)).mono ?_
            rintro e w3 ⟨rfl, rfl⟩
            rw [hx]
            go_wp2_with fail
            refine (Contains_k _ _ _ (all.take k) _ _ (unhide HS2) (unhide HLk)).mono ?_
            rintro e w3 ⟨rfl, rfl⟩
            cases ha : (all.take k).any (fun y => eqS y x)
            · have HG2 := hide (unhide HG hx ha)
              clear ha hx HG HF1 HS2 HLk
              go_wp2
              go_round
              case rel => exact ⟨k + 1, by omega, by go_num, unhide HG2⟩
              case measure => simp [intOf]; omega
            · have HN2 := hide (unhide HF1 (.inr ha))
              clear ha hx HG HF1 HS2 HLk
              go_wp2
              go_ret
              exact ⟨by rw [unhide HN2]; rfl, unhide HB⟩
        · have HE := hide (unhide HQ (fun j hj => unhide HA j hj (by have := unhide HN; omega)))
          clear hall
          go_wp2
          go_ret
          exact ⟨by rw [unhide HE]; rfl, unhide HB⟩
end Go.Proofs.YthldhjifnpfmiaaGreatDoor
