/- Texts that go together: DeclE, DeclF. -/
import Derived.Test.YtpdnnpnclgcpoaaDoorApZ
import Derived.Lib.AppendZeros
/- Names gathered by the library's Grow and Concat. -/
namespace Go.Proofs.YtpdnnpnclgcpoaaDoor
open Go.RowKit
set_option linter.unusedSimpArgs false

set_option maxRecDepth 20000 in
set_option maxHeartbeats 1000000 in
theorem Grow_c (n : Nat) (hn : n ≤ 1000) (w : World) : Calls Tryd.prog 116 #[.slice none 0 0, .int .i64 n] w fun e w' => ∃ oa cap, e = .returned (.slice oa 0 cap) ∧ w'.ownsRow w.heap.size 9 1 (.slice oa 0 cap) 0 [] ∧ Below w.heap.size w w' := by
  have hn' : (n : Int) ≤ 1000 := by omega
  obtain ⟨inf, hi, hz0, hz1, hz2⟩ := info_parts strInfo
  by_cases h0 : n = 0
  · subst h0
    go_enter Tryd.func116, Tryd.ntmps116
    go_wp2
    go_ret
    exact ⟨none, 0, rfl, World.ownsRow_nil _ _ _ _, Below.refl _ _⟩
  · have hr := fun (w : World) (ty : TypeId) => Go.Lib.run_append_nil_zeros (P := Tryd.prog) w 24 3 ty 9 inf (.string ⟨#[]⟩) .i64 .i64 Tryd.underlying24 Tryd.underlying3 hi hz0 n (by omega) (by omega) (by omega) (by rw [hz2]; omega)
    have HR := hide hr
    clear hr
    have hp : 0 < n := by omega
    clear h0
    go_enter Tryd.func116, Tryd.ntmps116
    go_wp2_with (at_builtin; refine Go.Lib.wpList_append_run _ rfl _ _ _ _ rfl _ _ rfl rfl _ _ (unhide HR _ _) ?_)
    go_ret
    refine ⟨_, _, rfl, ⟨rfl, .inr ⟨_, _, _, rfl, Nat.le_refl _, heap_alloc_new w _, Nat.zero_le _, grownCap_le_maxLen _ _ _ _ (by unfold maxLen; omega), ?_, rfl⟩⟩, ((Below.refl _ w).alloc (Nat.le_refl _) _).drew⟩
    have := grownCap_ge w n 0 9
    simp only [Array.size_append, size_zeroCells, Array.size_singleton]
    first | omega | (simp; omega)
theorem own_far {w w1 : World} {base : Nat} {e : TypeId} {size n b o : Nat} {v x : Value} {xs : List Value} (h : w.ownsRow base e size v n xs) (hg : w.grownBy w1 v.ownBlock) (hc : w.cell? ⟨b, o, none⟩ = some x) (hb : b < base) : w1.cell? ⟨b, o, none⟩ = some x :=
  (hg.cell_far ⟨b, o, none⟩ (World.block_lt_of_cell? w _ hc) (fun e => by have := (h.lt b e.symm).1; omega)).trans hc
set_option maxRecDepth 20000 in
set_option maxHeartbeats 2000000 in
theorem Concat_c (b : Nat) (a1 a2 : Option Addr) (c1 c2 : Nat) (vs fs : List ByteArray) (w : World) (h0 : w.cell? ⟨b, 0, none⟩ = some (.slice a1 vs.length c1)) (h1 : w.cell? ⟨b, 1, none⟩ = some (.slice a2 fs.length c2))
    (hv : Strs w a1 vs) (hf : Strs w a2 fs) (h5 : vs.length ≤ 5) (h3 : fs.length ≤ 3) : Calls Tryd.prog 88 #[.slice (some ⟨b, 0, none⟩) 2 2] w
    fun e w' => ∃ oa cap, e = .returned (.slice oa (vs.length + fs.length) cap) ∧ w'.ownsRow w.heap.size 9 1 (.slice oa (vs.length + fs.length) cap) (vs.length + fs.length) (cellsS (vs ++ fs)) ∧ Below w.heap.size w w' := by
  have HV := hide hv
  have HF := hide hf
  have hl5 : (vs.length : Int) ≤ 5 := by omega
  have hl3 : (fs.length : Int) ≤ 3 := by omega
  clear hv hf
  obtain ⟨inf, hi, hz0, hz1, hz2⟩ := info_parts strInfo
  obtain ⟨M, hM⟩ : ∃ M, M = vs.length := ⟨_, rfl⟩
  obtain ⟨N, hN⟩ : ∃ N, N = fs.length := ⟨_, rfl⟩
  have HM := hide hM
  have HN := hide hN
  rw [← hM] at h0 h5 hl5 ⊢
  rw [← hN] at h1 h3 hl3 ⊢
  clear hM hN
  go_enter Tryd.func88, Tryd.ntmps88
  go_wp2
  go_loop [3, 11] (fun s i => (i = .int .i64 0 ∧ s = .int .i64 0) ∨ (i = .int .i64 1 ∧ s = .int .i64 (M : Int)) ∨ (i = .int .i64 2 ∧ s = .int .i64 ((M + N : Nat) : Int))) (fun _ i => 2 - (intOf i).toNat)
  case atStart => exact .inl ⟨rfl, rfl⟩
  case round =>
    rcases hrel with ⟨rfl, rfl⟩ | ⟨rfl, rfl⟩ | ⟨rfl, rfl⟩
    · go_wp2
      go_round
      case rel => exact .inr (.inl ⟨by go_num, by go_num⟩)
      case measure => simp [intOf]
    · go_wp2
      go_round
      case rel => exact .inr (.inr ⟨by go_num, by go_num⟩)
      case measure => simp [intOf]
    · go_wp2_with fail
      rw [show ((M : Int) + (N : Int)) = ((M + N : Nat) : Int) from by omega]
      refine (Grow_c (M + N) (by omega) _).mono ?_
      rintro e w1 ⟨oa, cap, rfl, ho, hb⟩
      have HO := hide ho
      have HB := hide hb
      have k0 := (hb.cell (World.block_lt_of_cell? w _ h0)).trans h0
      have k1 := (hb.cell (World.block_lt_of_cell? w _ h1)).trans h1
      have hbl : b < w.heap.size := World.block_lt_of_cell? w _ h0
      have Q0 := hide h0
      have Q1 := hide h1
      clear ho hb h0 h1
      rw [show ((M + N : Nat) : Int) = ((M : Int) + (N : Int)) from by omega]
      go_wp2
      clear k0 k1
      go_loopw [6, 27] (fun s i wr => ∃ (oa : Option Addr) (cap : Nat), wr.cell? ⟨b, 0, none⟩ = some (.slice a1 M c1) ∧ wr.cell? ⟨b, 1, none⟩ = some (.slice a2 N c2) ∧ Below w.heap.size w wr ∧
        ((i = .int .i64 0 ∧ s = .slice oa 0 cap ∧ wr.ownsRow w.heap.size 9 1 (.slice oa 0 cap) 0 []) ∨ (i = .int .i64 1 ∧ s = .slice oa M cap ∧ wr.ownsRow w.heap.size 9 1 (.slice oa M cap) M (cellsS vs)) ∨ (i = .int .i64 2 ∧ s = .slice oa (M + N) cap ∧ wr.ownsRow w.heap.size 9 1 (.slice oa (M + N) cap) (M + N) (cellsS (vs ++ fs))))) (fun _ i _ => 2 - (intOf i).toNat)
      case atStart => exact ⟨oa, cap, ((unhide HB).cell (by exact hbl)).trans (unhide Q0), ((unhide HB).cell (by exact hbl)).trans (unhide Q1), unhide HB, .inl ⟨rfl, rfl, unhide HO⟩⟩
      case round =>
        clear HO HB
        obtain ⟨oa, cap, k0, k1, hb, hrel⟩ := hrel
        have HB := hide hb
        rcases hrel with ⟨rfl, rfl, ho⟩ | ⟨rfl, rfl, ho⟩ | ⟨rfl, rfl, ho⟩
        · have HO := hide ho
          have HS := hide ((unhide HV).call hb)
          clear ho hb
          go_wp2_with (at_builtin; refine wpList_appO _ rfl _ _ 24 rfl w.heap.size 9 inf (.string ⟨#[]⟩) 1 16 Tryd.underlying24 hi hz0 hz1 hz2 rfl (by decide) _ _ _ rfl (unhide HO) a1 M c1 (cellsS vs) rfl (by rw [unhide HM]; simp [cellsS]) (unhide HS).news (cellsS_one _) (by unfold maxLen; omega) (by omega) (unhide HB).size ?_; intro oa' cap' w3 hown hgrow)
          rw [Nat.zero_add, List.nil_append] at hown
          exact ⟨⟨oa', cap', own_far (unhide HO) hgrow k0 hbl, own_far (unhide HO) hgrow k1 hbl, (unhide HB).grown hgrow (unhide HB).size (fun j hj => ((unhide HO).lt j hj).1), .inr (.inl ⟨rfl, rfl, hown⟩)⟩, by simp [intOf]⟩
        · have HO := hide ho
          have HS := hide ((unhide HF).call hb)
          clear ho hb
          go_wp2_with (at_builtin; refine wpList_appO _ rfl _ _ 24 rfl w.heap.size 9 inf (.string ⟨#[]⟩) 1 16 Tryd.underlying24 hi hz0 hz1 hz2 rfl (by decide) _ _ _ rfl (unhide HO) a2 N c2 (cellsS fs) rfl (by rw [unhide HN]; simp [cellsS]) (unhide HS).news (cellsS_one _) (by unfold maxLen; omega) (by omega) (unhide HB).size ?_; intro oa' cap' w3 hown hgrow)
          rw [show cellsS vs ++ cellsS fs = cellsS (vs ++ fs) by simp [cellsS]] at hown
          exact ⟨⟨oa', cap', own_far (unhide HO) hgrow k0 hbl, own_far (unhide HO) hgrow k1 hbl, (unhide HB).grown hgrow (unhide HB).size (fun j hj => ((unhide HO).lt j hj).1), .inr (.inr ⟨rfl, rfl, hown⟩)⟩, by simp [intOf]⟩
        · have HO := hide ho
          clear ho hb
          go_wp2
          go_ret
          exact ⟨oa, cap, rfl, unhide HO, unhide HB⟩
end Go.Proofs.YtpdnnpnclgcpoaaDoor

/- Declarations, as the program asks for them. -/
namespace Go.Proofs.YtpdnnpnclgcpoaaDoor
open Go.RowKit
set_option linter.unusedSimpArgs false

theorem own_below {w w1 : World} {base : Nat} {e : TypeId} {size n : Nat} {v : Value} {xs : List Value} (h : w.ownsRow base e size v n xs) (hb : Below w.heap.size w w1) : w1.ownsRow base e size v n xs := by
  refine ⟨h.1, ?_⟩
  rcases h.2 with h0 | ⟨g, cap, cur, hv, hg, hh, hr⟩
  · exact .inl h0
  · refine .inr ⟨g, cap, cur, hv, hg, ?_, hr⟩
    rw [hb.block g (by rcases Nat.lt_or_ge g w.heap.size with hlt | hge
                       · exact hlt
                       · rw [Array.getElem?_eq_none hge] at hh; cases hh)]
    exact hh
theorem heap_new2 (w : World) (o p : Obj) : ((w.alloc o).alloc p).heap[w.heap.size + 1]? = some p := by
  have h := heap_alloc_new (w.alloc o) p
  rwa [show (w.alloc o).heap.size = w.heap.size + 1 by simp] at h
theorem Contains_k (a : Option Addr) (cap k : Nat) (xs : List ByteArray) (s : ByteArray) (w : World) (h : Strs w a xs) (hk : xs.length = k) : Calls Tryd.prog 90 #[.slice a k cap, .string s] w fun e w' => e = .returned (.bool (xs.any fun x => eqS x s)) ∧ w' = w := by
  subst hk; exact Contains_c a cap xs s w h
set_option maxRecDepth 20000 in
set_option maxHeartbeats 4000000 in
theorem iDeclOk_c (a1 a2 a3 : Option Addr) (c1 c2 c3 : Nat) (vs fs : List ByteArray) (rs : List (ByteArray × Int)) (w : World) (hw : KW w) (hv : Strs w a1 vs) (hf : Strs w a2 fs) (hr : Arrs w a3 rs)
    (hz : ∀ x ∈ namesOf vs fs rs, x.size ≤ 1048576) :
    Calls Tryd.prog 47 #[.agg #[.slice a1 vs.length c1, .slice a2 fs.length c2, .slice a3 rs.length c3]] w fun e w' => e = .returned (.bool (declB vs fs rs)) ∧ Below w.heap.size w w' := by
  have HW := hide hw
  have HV := hide hv
  have HF := hide hf
  have HR := hide hr
  have HZ := hide hz
  have T0 := C3.new w (.slice a1 vs.length c1) (.slice a2 fs.length c2) (.slice a3 rs.length c3) 27
  have K0 := (Below.refl _ w).alloc (Nat.le_refl _) (Obj.cells #[.slice a1 vs.length c1, .slice a2 fs.length c2, .slice a3 rs.length c3] 27)
  have HT0 := hide T0
  have HK := hide K0
  clear T0 K0 hv hf hr hz hw
  by_cases h1 : 5 < vs.length
  · have HN := hide (show declB vs fs rs = false from decide_eq_false (fun h => by have := h.1; omega))
    go_enter Tryd.func47, Tryd.ntmps47
    go_wp2
    go_ret
    exact ⟨by rw [unhide HN]; rfl, unhide HK⟩
  by_cases h2 : 3 < fs.length
  · have HN := hide (show declB vs fs rs = false from decide_eq_false (fun h => by have := h.2.1; omega))
    go_enter Tryd.func47, Tryd.ntmps47
    go_wp2
    go_ret
    exact ⟨by rw [unhide HN]; rfl, unhide HK⟩
  by_cases h3 : 2 < rs.length
  · have HN := hide (show declB vs fs rs = false from decide_eq_false (fun h => by have := h.2.2.1; omega))
    go_enter Tryd.func47, Tryd.ntmps47
    go_wp2
    go_ret
    exact ⟨by rw [unhide HN]; rfl, unhide HK⟩
  have h1' : ¬ (5 : Int) < (vs.length : Int) := by omega
  have h2' : ¬ (3 : Int) < (fs.length : Int) := by omega
  have h3' : ¬ (2 : Int) < (rs.length : Int) := by omega
  obtain ⟨inf, hi, hz0, hz1, hz2⟩ := info_parts strInfo
  go_enter Tryd.func47, Tryd.ntmps47
  go_wp2_with fail
  have KB := ((unhide HK).alloc (unhide HK).size (Obj.cells #[.slice a1 vs.length c1, .slice a2 fs.length c2] 24))
  have TB := (unhide HT0).alloc (Obj.cells #[.slice a1 vs.length c1, .slice a2 fs.length c2] 24)
  have q0 : ((w.alloc (Obj.cells #[.slice a1 vs.length c1, .slice a2 fs.length c2, .slice a3 rs.length c3] 27)).alloc (Obj.cells #[.slice a1 vs.length c1, .slice a2 fs.length c2] 24)).cell? ⟨w.heap.size + 1, 0, none⟩ = some (.slice a1 vs.length c1) := by simp
  have q1 : ((w.alloc (Obj.cells #[.slice a1 vs.length c1, .slice a2 fs.length c2, .slice a3 rs.length c3] 27)).alloc (Obj.cells #[.slice a1 vs.length c1, .slice a2 fs.length c2] 24)).cell? ⟨w.heap.size + 1, 1, none⟩ = some (.slice a2 fs.length c2) := by simp
  generalize (w.alloc (Obj.cells #[.slice a1 vs.length c1, .slice a2 fs.length c2, .slice a3 rs.length c3] 27)).alloc (Obj.cells #[.slice a1 vs.length c1, .slice a2 fs.length c2] 24) = u at KB TB q0 q1 ⊢
  refine (Concat_c (w.heap.size + 1) a1 a2 c1 c2 vs fs _ q0 q1 ((unhide HV).call KB) ((unhide HF).call KB) (by omega) (by omega)).mono ?_
  rintro e u1 ⟨oa, cap, rfl, ho, hb⟩
  have b2 := (TB.call hb).2.2.1
  have KB1 := KB.trans (hb.mono KB.size)
  have HO := hide ho
  have HB := hide KB1
  have HUs := hide hb.size
  have HU := hide KB.size
  clear HT0 HK KB TB q0 q1 ho hb KB1
  go_wp2
  clear b2
  go_loopw [3, 33] (fun all i wr => ∃ (k : Nat) (oa : Option Addr) (cap : Nat), k ≤ rs.length ∧ i = .int .i64 k ∧ all = .slice oa (vs.length + fs.length + k) cap ∧ wr.ownsRow u.heap.size 9 1 (.slice oa (vs.length + fs.length + k) cap) (vs.length + fs.length + k) (cellsS (vs ++ fs ++ (rs.take k).map (·.1))) ∧ (∀ j, (h : j < rs.length) → j < k → 1 ≤ rs[j].2 ∧ rs[j].2 ≤ 16) ∧ Below w.heap.size w wr ∧ u.heap.size ≤ wr.heap.size) (fun _ i _ => rs.length - (intOf i).toNat)
  case atStart => exact ⟨0, oa, cap, Nat.zero_le _, rfl, rfl, by simpa using unhide HO, fun j _ h => by omega, unhide HB, unhide HUs⟩
  case round =>
    clear HO HB HUs
    obtain ⟨k, oa, cap, hk, rfl, rfl, ho, hall, hb, hs⟩ := hrel
    have HO := hide ho
    have HA := hide hall
    have HB := hide hb
    have HBs : Hid (u.heap.size ≤ wr.heap.size) := hide hs
    clear ho hall hs
    by_cases hlt : k < rs.length
    · rcases ((unhide HR).call hb).2 with h0 | ⟨cb, co, e, hc⟩
      · omega
      cases e
      have d1 := (hc k hlt).1
      have d2 := (hc k hlt).2
      have HX := hide (show (rs.take (k + 1)).map (·.1) = (rs.take k).map (·.1) ++ [rs[k].1] by rw [List.take_succ_eq_append_getElem hlt, List.map_append]; rfl)
      have HI := hide (show (1 ≤ rs[k].2 ∧ rs[k].2 ≤ 16) → ∀ j, (h : j < rs.length) → j < k + 1 → 1 ≤ rs[j].2 ∧ rs[j].2 ≤ 16 from fun e j h hj => by
        by_cases q : j = k
        · subst q; exact e
        · exact unhide HA j h (by omega))
      have HJ := hide (show ¬ (1 ≤ rs[k].2 ∧ rs[k].2 ≤ 16) → declB vs fs rs = false from fun e => decide_eq_false (fun h => absurd (h.2.2.2.1 k hlt) e))
      clear hc hb
      generalize rs[k].1 = x at d1 HX
      generalize rs[k].2 = z at d2 HI HJ
      by_cases g1 : z < 1
      · have HN := hide (unhide HJ (by omega))
        have HB2 := hide ((unhide HB).alloc (unhide HB).size (Obj.cells #[.string x, .int .i64 z] 95))
        go_wp2
        go_ret
        exact ⟨by rw [unhide HN]; rfl, unhide HB2⟩
      by_cases g2 : 16 < z
      · have HN := hide (unhide HJ (by omega))
        have HB2 := hide ((unhide HB).alloc (unhide HB).size (Obj.cells #[.string x, .int .i64 z] 95))
        go_wp2
        go_ret
        exact ⟨by rw [unhide HN]; rfl, unhide HB2⟩
      have HI2 := hide (unhide HI (by omega))
      clear HI HJ
      go_wp2_with (at_builtin; refine wpList_app _ rfl _ _ 24 rfl u.heap.size 9 inf (.string ⟨#[]⟩) 1 16 Tryd.underlying24 hi hz0 hz1 hz2 rfl (by decide) _ _ _ rfl (((unhide HO).alloc _).alloc _) ⟨_, 0, none⟩ 1 1 [.string x] rfl rfl (World.news_of_block (heap_new2 _ _ _)) (by simp [Value.oneCell']) (by unfold maxLen; omega) (by omega) (by have := unhide HBs; simp; omega) ?_; intro oa' cap' w3 hown hgrow)
      have HO2 : Hid (w3.ownsRow u.heap.size 9 1 (.slice oa' (vs.length + fs.length + k + 1) cap') (vs.length + fs.length + k + 1) (cellsS (vs ++ fs ++ (rs.take (k + 1)).map (·.1)))) := hide (by
        rw [unhide HX, ← List.append_assoc, show ∀ l, cellsS (l ++ [x]) = cellsS l ++ [.string x] from fun l => by simp [cellsS]]
        exact hown)
      have HB2 := hide ((((unhide HB).alloc (unhide HB).size (Obj.cells #[.string x, .int .i64 z] 95)).alloc (by have := (unhide HB).size; simp; omega) (Obj.cells #[.string x] 9)).grown hgrow (by have := (unhide HB).size; simp; omega) (fun j hj => by have := (((unhide HO).alloc (Obj.cells #[.string x, .int .i64 z] 95)).lt j hj).1; have := unhide HU; omega))
      have HS2 : Hid (u.heap.size ≤ w3.heap.size) := hide (by have := hgrow.size; have := unhide HBs; simp at *; omega)
      clear HO HB HBs hown hgrow d1 d2
      exact ⟨⟨k + 1, oa', cap', by omega, by go_num, rfl, unhide HO2, unhide HI2, unhide HB2, unhide HS2⟩, by simp [intOf]; omega⟩
    · obtain rfl : k = rs.length := by omega
      rw [show List.map (fun x : ByteArray × Int => x.1) (List.take rs.length rs) = rs.map (·.1) by rw [List.take_length]] at HO
      obtain ⟨hn, hst⟩ := Strs.ofOwn (unhide HO) (by omega)
      have hcap := own_cap (unhide HO)
      have HN := hide hn
      have HS := hide hst
      have HW2 := hide ((unhide HW).call hb)
      have HQ := hide (show namesP (namesOf vs fs rs) → declB vs fs rs = true from fun h => decide_eq_true ⟨by omega, by omega, by omega, fun j hj => unhide HA j hj hj, h⟩)
      have HQ2 := hide (show ∀ j, (h : j < (namesOf vs fs rs).length) → (nameB (namesOf vs fs rs)[j] = false ∨ ((namesOf vs fs rs).take j).any (fun x => eqS x (namesOf vs fs rs)[j]) = true) → declB vs fs rs = false from fun j h hh => decide_eq_false (fun hd => by
        have := hd.2.2.2.2 j h
        rcases hh with hh | hh
        · rw [hh] at this; exact absurd this.1 (by simp)
        · rw [hh] at this; exact absurd this.2 (by simp)))
      have hL : vs.length + fs.length + rs.length ≤ 10 := by omega
      have hZ := unhide HZ
      change Hid (_ = (namesOf vs fs rs).length) at HN
      change Hid (Strs wr oa (namesOf vs fs rs)) at HS
      clear hn hst HO HA HZ HV HF HR HW hb HU HBs
      generalize namesOf vs fs rs = all at HN HS HQ HQ2 hZ
      have HZ := hide hZ
      clear hZ
      generalize vs.length + fs.length + rs.length = L at HN hcap hL ⊢
      have hL' : (L : Int) ≤ 10 := by omega
      go_wp2
      generalize wr = wo at HS HB HW2 ⊢
      go_loop [53] (fun i => ∃ k : Nat, k ≤ L ∧ i = .int .i64 k ∧ (∀ j, (h : j < all.length) → j < k → nameB all[j] = true ∧ (all.take j).any (fun x => eqS x all[j]) = false)) (fun i => L - (intOf i).toNat)
      case atStart => exact ⟨0, Nat.zero_le _, rfl, fun j _ h => by omega⟩
      case round =>
        obtain ⟨k, hk, rfl, hall⟩ := hrel
        have HA := hide hall
        by_cases hlt : k < L
        · have hk' : k < all.length := by rw [← unhide HN]; exact hlt
          have HS2 := hide ((unhide HS).take k)
          have HLk := hide (show (all.take k).length = k by rw [List.length_take]; omega)
          rcases (unhide HS).2 with h0 | ⟨cb, co, rfl, hc⟩
          · omega
          have d := hc k hk'
          have sz := unhide HZ _ (List.getElem_mem hk')
          have HG := hide (show nameB all[k] = true → (all.take k).any (fun x => eqS x all[k]) = false → ∀ j, (h : j < all.length) → j < k + 1 → nameB all[j] = true ∧ (all.take j).any (fun x => eqS x all[j]) = false from fun e1 e2 j h hj => by
            by_cases q : j = k
            · subst q; exact ⟨e1, e2⟩
            · exact unhide HA j h (by omega))
          have HF1 := hide (unhide HQ2 k hk')
          clear hc hall
          generalize all[k] = x at d sz HG HF1
          have hkc : k ≤ cap := by omega
          cases hx : nameB x
          · have HN2 := hide (unhide HF1 (.inl hx))
            go_wp2_with fail
            refine (nameOk_c _ sz _ (unhide HW2)).mono ?_
            rintro e w3 ⟨rfl, rfl⟩
            rw [hx]
            clear hx
            go_wp2
            go_ret
            exact ⟨by rw [unhide HN2]; rfl, unhide HB⟩
          · go_wp2_with fail
            refine (nameOk_c _ sz _ (unhide HW2)).mono ?_
            rintro e w3 ⟨rfl, rfl⟩
            rw [hx]
            go_wp2_with fail
            refine (Contains_k _ _ _ (all.take k) _ _ (unhide HS2) (unhide HLk)).mono ?_
            rintro e w3 ⟨rfl, rfl⟩
            cases ha : (all.take k).any (fun y => eqS y x)
            · have HG2 := hide (unhide HG hx ha)
              clear ha hx HG HF1 HS2 HLk
              go_wp2
              go_round
              case rel => exact ⟨k + 1, by omega, by go_num, unhide HG2⟩
              case measure => simp [intOf]; omega
            · have HN2 := hide (unhide HF1 (.inr ha))
              clear ha hx HG HF1 HS2 HLk
              go_wp2
              go_ret
              exact ⟨by rw [unhide HN2]; rfl, unhide HB⟩
        · have HE := hide (unhide HQ (fun j hj => unhide HA j hj (by have := unhide HN; omega)))
          clear hall
          go_wp2
          go_ret
          exact ⟨by rw [unhide HE]; rfl, unhide HB⟩
end Go.Proofs.YtpdnnpnclgcpoaaDoor

