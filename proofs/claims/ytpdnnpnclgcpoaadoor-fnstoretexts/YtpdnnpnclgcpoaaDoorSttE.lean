/- The text of a store: the program's closure, which gathers a name and its numbers. -/
import Derived.Test.YtpdnnpnclgcpoaaDoorNaZ
import Derived.Test.YtpdnnpnclgcpoaaDoorSuZ
import Derived.Test.YtpdnnpnclgcpoaaDoorEtxE
namespace Go.Proofs.YtpdnnpnclgcpoaaDoor
open Go.RowKit
set_option linter.unusedSimpArgs false
set_option linter.unusedVariables false

/-- The words' variable stays. -/
@[reducible] def W3 (w0 : World) (wb : Nat) (v : Value) (u : World) : Prop := u.cell? ⟨wb, 0, none⟩ = some v ∧ u.frozen? ⟨wb, 0, none⟩ = false ∧ Hid (Below wb w0 u ∧ wb < u.heap.size)
section
variable {w0 u u' : World} {wb : Nat} {v : Value}
theorem W3.call (hb : Below u.heap.size u u') (h : W3 w0 wb v u) : W3 w0 wb v u' := by
 obtain ⟨h1, h2, q⟩ := h
 obtain ⟨q1, q2⟩ := unhide q
 exact ⟨(hb.cell (by exact q2)).trans h1, (hb.frozen (by exact q2)).trans h2, hide ⟨q1.trans (hb.mono (by omega)), Nat.lt_of_lt_of_le q2 hb.size⟩⟩
theorem W3.drew (h : W3 w0 wb v u) : W3 w0 wb v u.drew := W3.call (Below.refl _ _).drew h
theorem W3.alloc (h : W3 w0 wb v u) (o : Obj) : W3 w0 wb v (u.alloc o) := W3.call ((Below.refl _ _).alloc (Nat.le_refl _) o) h
theorem W3.grown {row : Option Nat} (h : W3 w0 wb v u) (hg : u.grownBy u' row) (hr : ∀ j, row = some j → wb + 1 ≤ j) : W3 w0 wb v u' := by
 obtain ⟨h1, h2, q⟩ := h
 obtain ⟨q1, q2⟩ := unhide q
 have n1 : some wb ≠ row := fun e => by have := hr wb e.symm; omega
 exact ⟨(hg.cell_far ⟨wb, 0, none⟩ q2 n1).trans h1, (hg.frozen_far ⟨wb, 0, none⟩ q2 n1).trans h2, hide ⟨q1.grown hg (by omega) (fun j hj => by have := hr j hj; omega), Nat.lt_of_lt_of_le q2 hg.size⟩⟩
theorem W3.low (h : W3 w0 wb v u) : Below wb w0 u := (unhide h.2.2).1
theorem W3.lt (h : W3 w0 wb v u) : wb < u.heap.size := (unhide h.2.2).2
end
theorem fmtBool_c (b : Bool) (w : World) : Calls Tryd.prog 71 #[.bool b] w fun e w' => e = .returned (.string (boT b)) ∧ Below w.heap.size w w' := by
 cases b
 ·go_enter Tryd.func71, Tryd.ntmps71
  go_wp2
  go_ret
  exact ⟨rfl, Below.refl _ _⟩
 ·go_enter Tryd.func71, Tryd.ntmps71
  go_wp2
  go_ret
  exact ⟨rfl, Below.refl _ _⟩
set_option maxRecDepth 20000 in
set_option maxHeartbeats 16000000 in
theorem tellS_c (N : ByteArray) (b : Option Addr) (rc : Nat) (R : List Int) (wb : Nat) (oc : Option Addr) (n cc : Nat) (zs : List Value) (w : World) (hin : InI R) (hR : Ints w b R) (hl : R.length ≤ 16) (h1 : R.length ≤ 1 ∨ ∀ c d, b = some ⟨c, d, none⟩ → c < wb) (hfar : 0 < R.length → ∀ c d, b = some ⟨c, d, none⟩ → (Value.slice oc n cc).ownBlock ≠ some c ∧ c ≠ wb) (hp : PT wb w) (hc : w.cell? ⟨wb, 0, none⟩ = some (.slice oc n cc)) (hf : w.frozen? ⟨wb, 0, none⟩ = false) (ho : w.ownsRow (wb + 1) 9 1 (.slice oc n cc) n zs) (hn : n ≤ 60) :
  Calls Tryd.prog 70 #[.string N, .slice b R.length rc, .pointer (some ⟨wb, 0, none⟩)] w fun e w' => ∃ oc' n' cc', e = .returned (.tuple #[]) ∧ n' = n + 1 + R.length ∧ w'.cell? ⟨wb, 0, none⟩ = some (.slice oc' n' cc') ∧ w'.frozen? ⟨wb, 0, none⟩ = false ∧ w'.ownsRow (wb + 1) 9 1 (.slice oc' n' cc') n' (zs ++ [.string N] ++ cellsS (R.map itB)) ∧ Below wb w w' := by
 obtain ⟨inf, hi, hz0, hz1, hz2⟩ := info_parts strInfo
 have HIN := hide hin
 have HRR := hide hR
 have H1 := hide h1
 have HFR := hide hfar
 have HPT := hide hp
 have HO := hide ho
 have hsm := hide (show n ≤ 100 by omega)
 have HN60 := hide hn
 have hl16 : (R.length : Int) ≤ 16 := by omega
 have lwb : wb < w.heap.size := World.block_lt_of_cell? _ _ hc
 have HP : Hid (W3 w wb (.slice oc n cc) w) := hide ⟨hc, hf, hide ⟨Below.refl _ _, lwb⟩⟩
 clear hin hR h1 hfar hp ho hn hf lwb
 go_enter Tryd.func70, Tryd.ntmps70
 go_wp2_with (refine wpList_app _ (by rfl) _ _ _ (by rfl) (wb + 1) 9 inf (.string ⟨#[]⟩) 1 16 Tryd.underlying24 hi hz0 hz1 hz2 rfl (by decide) _ _ _ (by rfl) ((unhide HO).alloc _) ⟨_, 0, none⟩ 1 1 [.string N] (by rfl) rfl (World.news_of_block (heap_alloc_new _ _)) (by intro u hu; simp at hu; subst hu; rfl) (by unfold maxLen; have := unhide hsm; omega) (by have := unhide hsm; omega) (by have := (unhide HP).lt; simp; omega) ?_; intro oc5 cc5 w5 hown hgrow; have hp5 := W3.grown (W3.alloc (unhide HP) _) hgrow (fun j hj => ((unhide HO).lt j hj).1); have q5 := hp5.1; have f5 := hp5.2.1)
 have HCL := hide (show ∀ c d, b = some ⟨c, d, none⟩ → ∀ i, (h : i < R.length) → (w5.setCell ⟨wb, 0, none⟩ (.slice oc5 (n + 1) cc5)).cell? ⟨c, d + i, none⟩ = some (.int .i64 R[i]) from fun c d hb i hi => by
  rcases (unhide HRR).2 with h9 | ⟨c', d', e9, hc9⟩
  ·omega
  ·rw [hb] at e9
   cases e9
   have y := hc9 i hi
   have yl : c < w.heap.size := World.block_lt_of_cell? _ _ y
   obtain ⟨f1, f2⟩ := unhide HFR (by omega) c d hb
   have ya := cell_on ((Below.refl w.heap.size w).alloc (Nat.le_refl _) (Obj.cells #[.string N] 9)) yl y
   exact (World.cell?_setCell_other _ _ _ _ (fun e => f2 (congrArg Addr.block e).symm)).trans ((hgrow.cell_far ⟨c, d + i, none⟩ (World.block_lt_of_cell? _ _ ya) (fun e => f1 e.symm)).trans ya))
 have HC5 := hide (World.cell?_setCell_same _ _ (.slice oc5 (n + 1) cc5) hp5.1)
 have HF5 := hide (show (w5.setCell ⟨wb, 0, none⟩ (.slice oc5 (n + 1) cc5)).frozen? ⟨wb, 0, none⟩ = false from (World.frozen?_setCell _ _ _ _).trans hp5.2.1)
 have HO5 := hide (own_setE (b := wb) (o := 0) (x := .slice oc5 (n + 1) cc5) hown (fun e => by have := (hown.lt wb e).1; omega))
 have HB5 := hide (hp5.low.setCell (p := ⟨wb, 0, none⟩) (Nat.le_refl _) (.slice oc5 (n + 1) cc5))
 clear hown hgrow hp5 q5 f5 HP HO hc hsm
 generalize w5.setCell ⟨wb, 0, none⟩ (.slice oc5 (n + 1) cc5) = w6 at HCL HC5 HF5 HO5 HB5 ⊢
 go_loopw [13] (fun i wr => ∃ (j m : Nat) (oc : Option Addr) (cc : Nat), j ≤ R.length ∧ i = .int .i64 j ∧ m = n + 1 + j ∧ wr.cell? ⟨wb, 0, none⟩ = some (.slice oc m cc) ∧ wr.frozen? ⟨wb, 0, none⟩ = false ∧ wr.ownsRow (wb + 1) 9 1 (.slice oc m cc) m (zs ++ [.string N] ++ cellsS ((R.take j).map itB)) ∧ Below wb w wr ∧ (j = 0 → ∀ c d, b = some ⟨c, d, none⟩ → ∀ i, (h : i < R.length) → wr.cell? ⟨c, d + i, none⟩ = some (.int .i64 R[i]))) (fun i _ => R.length - (intOf i).toNat)
 case atStart => exact ⟨0, n + 1, oc5, cc5, Nat.zero_le _, rfl, rfl, unhide HC5, unhide HF5, by simpa [cellsS] using unhide HO5, unhide HB5, fun _ => unhide HCL⟩
 case round =>
  clear HCL HC5 HF5 HO5 HB5
  obtain ⟨j, m, oc, cc, hj, rfl, hm, hc, hf, ho, hb, hcl⟩ := hrel
  have HM := hide hm
  have HO := hide ho
  have lwb : wb < wr.heap.size := World.block_lt_of_cell? _ _ hc
  have HP : Hid (W3 w wb (.slice oc m cc) wr) := hide ⟨hc, hf, hide ⟨hb, lwb⟩⟩
  clear hm hc hf ho lwb
  by_cases hjl : j < R.length
  ·have HI1 := hide ((unhide HIN) j hjl)
   rcases (unhide HRR).2 with h9 | ⟨c, d, rfl, hc9⟩
   ·omega
   have y4 : wr.cell? ⟨c, d + j, none⟩ = some (.int .i64 R[j]) := by
    by_cases h0 : j = 0
    ·exact hcl h0 c d rfl j hjl
    ·rcases unhide H1 with h | h
     ·omega
     ·exact cell_on hb (h c d rfl) (hc9 j hjl)
   have HT3 := hide (show (R.take (j + 1)).map itB = (R.take j).map itB ++ [itB R[j]] by rw [List.take_succ_eq_append_getElem hjl, List.map_append]; rfl)
   have k1 : ∀ v, Below wb w v → Calls Tryd.prog 67 #[.int .i64 R[j]] v fun e w' => e = .returned (.string (itB R[j])) ∧ Below v.heap.size v w' := fun v hb => decimalG_c _ (unhide HI1).1 (unhide HI1).2 v ((unhide HPT) v hb)
   generalize itB R[j] = Y at HT3 k1
   generalize R[j] = p at y4 k1 HI1
   have KI := hide k1
   have HI1 := hide HI1
   have hjl' : (j : Int) < (R.length : Int) := by omega
   have hsm := hide (show m ≤ 100 by have := unhide HM; have := unhide HN60; omega)
   clear k1 hcl hc9 hb
   go_upto_region 4 with fail
   clear y4
   have HP := hide (W3.drew (unhide HP))
   have HO := hide (own_on (unhide HO) ((Below.refl _ wr).drew))
   refine wp_region_held_drew (S := fun _ => True) (by kernel_rfl) trivial (fun hHeld => ?_)
   generalize wr.drew = wz at HP HO hHeld ⊢
   refine tk 1 (v := ?_) rfl ?_ ?_
   rotate_left
   ·(intro w9 hSw; (try dsimp only at hSw); go_simp; try with_reducible rfl)
   try simp only [Act.put, sa, sb, sc]
   refine wpAnyH_ready (rs := [0, 2]) (by kernel_rfl) (by simp) ?_
   refine AllReadyH.cons (i := 0) rfl (fun K hK => ?_) (AllReadyH.cons (i := 2) rfl (fun K hK => ?_) AllReadyH.nil)
   ·have q1 := (unhide HP).1
    go_simp
    refine hK.out _ _ hHeld (fun hHeld => ?_)
    clear hK K q1
    try simp only [Act.put, sa, sb, sc]
    refine wpAnyH_ready (rs := [2]) (by kernel_rfl) (by simp) ?_
    refine AllReadyH.cons (i := 2) rfl (fun K hK => ?_) AllReadyH.nil
    go_simp
    refine ((unhide KI) _ (unhide HP).low).mono ?_
    rintro e u9 ⟨rfl, kb⟩
    have HP := hide (W3.call kb (unhide HP))
    have HO := hide (own_on (unhide HO) kb)
    clear kb
    refine hK.out _ _ trivial (fun hHeld => ?_)
    clear hK K
    try simp only [Act.put, sa, sb, sc]
    refine wpAnyH_ready (rs := [3]) (by kernel_rfl) (by simp) ?_
    refine AllReadyH.cons (i := 3) rfl (fun K hK => ?_) AllReadyH.nil
    go_simp
    refine hK.out _ _ trivial (fun hHeld => ?_)
    clear hK K
    try simp only [Act.put, sa, sb, sc]
    refine wpAnyH_ready (rs := [4]) (by kernel_rfl) (by simp) ?_
    refine AllReadyH.cons (i := 4) rfl (fun K hK => ?_) AllReadyH.nil
    refine step_app _ (by rfl) _ _ _ (by rfl) (wb + 1) 9 inf (.string ⟨#[]⟩) 1 16 Tryd.underlying24 hi hz0 hz1 hz2 rfl (by decide) _ _ _ (by rfl) ((unhide HO).alloc _) ⟨_, 0, none⟩ 1 1 [.string Y] (by rfl) rfl (World.news_of_block (heap_alloc_new _ _)) (by intro u hu; simp at hu; subst hu; rfl) (by unfold maxLen; have := unhide hsm; omega) (by have := unhide hsm; omega) (by have := (unhide HP).lt; simp; omega) ?_
    intro oc' cc' w5 hown hgrow
    have HP := hide (W3.grown (W3.alloc (unhide HP) _) hgrow (fun j hj => ((unhide HO).lt j hj).1))
    have HO := hide hown
    clear hown hgrow
    refine hK.out _ _ trivial (fun hHeld => ?_)
    clear hK K
    try simp only [Act.put, sa, sb, sc]
    refine wpAnyH_ready (rs := [5]) (by kernel_rfl) (by simp) ?_
    refine AllReadyH.cons (i := 5) rfl (fun K hK => ?_) AllReadyH.nil
    have q0 := (unhide HP).1
    have f0 := (unhide HP).2.1
    go_simp
    refine hK.out _ _ trivial (fun hHeld => ?_)
    clear hK K q0 f0
    try simp only [Act.put, sa, sb, sc]
    refine wpAnyH_done (by kernel_rfl) ?_ _
    have HC5 := hide (World.cell?_setCell_same _ _ (.slice oc' (m + 1) cc') (unhide HP).1)
    have HF5 := hide (show (w5.setCell ⟨wb, 0, none⟩ (.slice oc' (m + 1) cc')).frozen? ⟨wb, 0, none⟩ = false from (World.frozen?_setCell _ _ _ _).trans (unhide HP).2.1)
    have HO5 := hide (own_setE (b := wb) (o := 0) (x := .slice oc' (m + 1) cc') (unhide HO) (fun e => by have := ((unhide HO).lt wb e).1; omega))
    have HB5 := hide ((unhide HP).low.setCell (p := ⟨wb, 0, none⟩) (Nat.le_refl _) (.slice oc' (m + 1) cc'))
    clear HP HO
    generalize w5.setCell ⟨wb, 0, none⟩ (.slice oc' (m + 1) cc') = w6 at HC5 HF5 HO5 HB5 ⊢
    go_wp2
    go_roundw
    case rel => exact ⟨j + 1, m + 1, oc', cc', by omega, by go_num, by have := unhide HM; omega, unhide HC5, unhide HF5, (by have q := unhide HO5; rw [List.append_assoc, show cellsS (R.take j |>.map itB) ++ [Value.string Y] = cellsS ((R.take (j + 1)).map itB) by rw [unhide HT3]; simp [cellsS]] at q; exact q), unhide HB5, fun h0 => by omega⟩
    case measure => simp [intOf]; omega
   ·go_simp
    refine ((unhide KI) _ (unhide HP).low).mono ?_
    rintro e u9 ⟨rfl, kb⟩
    have HP := hide (W3.call kb (unhide HP))
    have HO := hide (own_on (unhide HO) kb)
    clear kb
    refine hK.out _ _ trivial (fun hHeld => ?_)
    clear hK K
    try simp only [Act.put, sa, sb, sc]
    refine wpAnyH_ready (rs := [0, 3]) (by kernel_rfl) (by simp) ?_
    refine AllReadyH.cons (i := 0) rfl (fun K hK => ?_) (AllReadyH.cons (i := 3) rfl (fun K hK => ?_) AllReadyH.nil)
    ·have q1 := (unhide HP).1
     go_simp
     refine hK.out _ _ hHeld (fun hHeld => ?_)
     clear hK K q1
     try simp only [Act.put, sa, sb, sc]
     refine wpAnyH_ready (rs := [3]) (by kernel_rfl) (by simp) ?_
     refine AllReadyH.cons (i := 3) rfl (fun K hK => ?_) AllReadyH.nil
     go_simp
     refine hK.out _ _ trivial (fun hHeld => ?_)
     clear hK K
     try simp only [Act.put, sa, sb, sc]
     refine wpAnyH_ready (rs := [4]) (by kernel_rfl) (by simp) ?_
     refine AllReadyH.cons (i := 4) rfl (fun K hK => ?_) AllReadyH.nil
     refine step_app _ (by rfl) _ _ _ (by rfl) (wb + 1) 9 inf (.string ⟨#[]⟩) 1 16 Tryd.underlying24 hi hz0 hz1 hz2 rfl (by decide) _ _ _ (by rfl) ((unhide HO).alloc _) ⟨_, 0, none⟩ 1 1 [.string Y] (by rfl) rfl (World.news_of_block (heap_alloc_new _ _)) (by intro u hu; simp at hu; subst hu; rfl) (by unfold maxLen; have := unhide hsm; omega) (by have := unhide hsm; omega) (by have := (unhide HP).lt; simp; omega) ?_
     intro oc' cc' w5 hown hgrow
     have HP := hide (W3.grown (W3.alloc (unhide HP) _) hgrow (fun j hj => ((unhide HO).lt j hj).1))
     have HO := hide hown
     clear hown hgrow
     refine hK.out _ _ trivial (fun hHeld => ?_)
     clear hK K
     try simp only [Act.put, sa, sb, sc]
     refine wpAnyH_ready (rs := [5]) (by kernel_rfl) (by simp) ?_
     refine AllReadyH.cons (i := 5) rfl (fun K hK => ?_) AllReadyH.nil
     have q0 := (unhide HP).1
     have f0 := (unhide HP).2.1
     go_simp
     refine hK.out _ _ trivial (fun hHeld => ?_)
     clear hK K q0 f0
     try simp only [Act.put, sa, sb, sc]
     refine wpAnyH_done (by kernel_rfl) ?_ _
     have HC5 := hide (World.cell?_setCell_same _ _ (.slice oc' (m + 1) cc') (unhide HP).1)
     have HF5 := hide (show (w5.setCell ⟨wb, 0, none⟩ (.slice oc' (m + 1) cc')).frozen? ⟨wb, 0, none⟩ = false from (World.frozen?_setCell _ _ _ _).trans (unhide HP).2.1)
     have HO5 := hide (own_setE (b := wb) (o := 0) (x := .slice oc' (m + 1) cc') (unhide HO) (fun e => by have := ((unhide HO).lt wb e).1; omega))
     have HB5 := hide ((unhide HP).low.setCell (p := ⟨wb, 0, none⟩) (Nat.le_refl _) (.slice oc' (m + 1) cc'))
     clear HP HO
     generalize w5.setCell ⟨wb, 0, none⟩ (.slice oc' (m + 1) cc') = w6 at HC5 HF5 HO5 HB5 ⊢
     go_wp2
     go_roundw
     case rel => exact ⟨j + 1, m + 1, oc', cc', by omega, by go_num, by have := unhide HM; omega, unhide HC5, unhide HF5, (by have q := unhide HO5; rw [List.append_assoc, show cellsS (R.take j |>.map itB) ++ [Value.string Y] = cellsS ((R.take (j + 1)).map itB) by rw [unhide HT3]; simp [cellsS]] at q; exact q), unhide HB5, fun h0 => by omega⟩
     case measure => simp [intOf]; omega
    ·go_simp
     refine hK.out _ _ trivial (fun hHeld => ?_)
     clear hK K
     try simp only [Act.put, sa, sb, sc]
     refine wpAnyH_ready (rs := [0]) (by kernel_rfl) (by simp) ?_
     refine AllReadyH.cons (i := 0) rfl (fun K hK => ?_) AllReadyH.nil
     have q1 := (unhide HP).1
     have q2 := (W3.alloc (unhide HP) (Obj.cells #[.string Y] 9)).1
     go_simp
     refine hK.out _ _ hHeld (fun hHeld => ?_)
     clear hK K q1 q2
     try simp only [Act.put, sa, sb, sc]
     refine wpAnyH_ready (rs := [4]) (by kernel_rfl) (by simp) ?_
     refine AllReadyH.cons (i := 4) rfl (fun K hK => ?_) AllReadyH.nil
     refine step_app _ (by rfl) _ _ _ (by rfl) (wb + 1) 9 inf (.string ⟨#[]⟩) 1 16 Tryd.underlying24 hi hz0 hz1 hz2 rfl (by decide) _ _ _ (by rfl) ((unhide HO).alloc _) ⟨_, 0, none⟩ 1 1 [.string Y] (by rfl) rfl (World.news_of_block (heap_alloc_new _ _)) (by intro u hu; simp at hu; subst hu; rfl) (by unfold maxLen; have := unhide hsm; omega) (by have := unhide hsm; omega) (by have := (unhide HP).lt; simp; omega) ?_
     intro oc' cc' w5 hown hgrow
     have HP := hide (W3.grown (W3.alloc (unhide HP) _) hgrow (fun j hj => ((unhide HO).lt j hj).1))
     have HO := hide hown
     clear hown hgrow
     refine hK.out _ _ trivial (fun hHeld => ?_)
     clear hK K
     try simp only [Act.put, sa, sb, sc]
     refine wpAnyH_ready (rs := [5]) (by kernel_rfl) (by simp) ?_
     refine AllReadyH.cons (i := 5) rfl (fun K hK => ?_) AllReadyH.nil
     have q0 := (unhide HP).1
     have f0 := (unhide HP).2.1
     go_simp
     refine hK.out _ _ trivial (fun hHeld => ?_)
     clear hK K q0 f0
     try simp only [Act.put, sa, sb, sc]
     refine wpAnyH_done (by kernel_rfl) ?_ _
     have HC5 := hide (World.cell?_setCell_same _ _ (.slice oc' (m + 1) cc') (unhide HP).1)
     have HF5 := hide (show (w5.setCell ⟨wb, 0, none⟩ (.slice oc' (m + 1) cc')).frozen? ⟨wb, 0, none⟩ = false from (World.frozen?_setCell _ _ _ _).trans (unhide HP).2.1)
     have HO5 := hide (own_setE (b := wb) (o := 0) (x := .slice oc' (m + 1) cc') (unhide HO) (fun e => by have := ((unhide HO).lt wb e).1; omega))
     have HB5 := hide ((unhide HP).low.setCell (p := ⟨wb, 0, none⟩) (Nat.le_refl _) (.slice oc' (m + 1) cc'))
     clear HP HO
     generalize w5.setCell ⟨wb, 0, none⟩ (.slice oc' (m + 1) cc') = w6 at HC5 HF5 HO5 HB5 ⊢
     go_wp2
     go_roundw
     case rel => exact ⟨j + 1, m + 1, oc', cc', by omega, by go_num, by have := unhide HM; omega, unhide HC5, unhide HF5, (by have q := unhide HO5; rw [List.append_assoc, show cellsS (R.take j |>.map itB) ++ [Value.string Y] = cellsS ((R.take (j + 1)).map itB) by rw [unhide HT3]; simp [cellsS]] at q; exact q), unhide HB5, fun h0 => by omega⟩
     case measure => simp [intOf]; omega
  ·have ej : j = R.length := by omega
   subst ej
   have hjl' : ¬ ((R.length : Int) < (R.length : Int)) := by omega
   clear hcl
   go_wp2
   go_end0
   have e9 := unhide HM
   exact ⟨rfl, oc, cc, by rw [← e9]; exact (unhide HP).1, (unhide HP).2.1, by rw [← e9]; have q := unhide HO; rw [List.take_length, List.append_assoc] at q; exact q, hb⟩
end Go.Proofs.YtpdnnpnclgcpoaaDoor
