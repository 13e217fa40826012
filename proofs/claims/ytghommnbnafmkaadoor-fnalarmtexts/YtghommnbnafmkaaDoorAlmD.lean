/- The text of an alarm: both functions. -/
import Derived.Test.YtghommnbnafmkaaDoorAlmC
namespace Go.Proofs.YtghommnbnafmkaaDoor
open Go.RowKit
set_option linter.unusedSimpArgs false
set_option linter.unusedVariables false

/-- The word of a kind, by the place that it has in the program's table. -/
def wordK (k : Int) : ByteArray := if k = 1 then ⟨#[100, 105, 118]⟩ else if k = 2 then ⟨#[98, 111, 117, 110, 100, 115]⟩ else if k = 4 then ⟨#[111, 118, 101, 114]⟩ else if k = 8 then ⟨#[97, 115, 115, 101, 114, 116]⟩ else ⟨#[]⟩
theorem wordK_size (k : Int) : (wordK k).size ≤ 6 := by
  unfold wordK
  repeat (first | (split; · decide) | decide)
theorem empty_list : (⟨#[]⟩ : ByteArray).toList.isEmpty = true := by
  unfold ByteArray.toList ByteArray.toList.loop
  rfl
/-- Whether it is an alarm; its text. -/
def almB (l k : Int) : Bool := inB l 0 29 && !(wordK k).toList.isEmpty
def almT (l k : Int) : ByteArray := if almB l k = true then decB l.toNat ++ (⟨#[32]⟩ : ByteArray) ++ wordK k else ⟨#[]⟩
theorem almB_kind {l k : Int} (h : almB l k = true) : k = 1 ∨ k = 2 ∨ k = 4 ∨ k = 8 := by
  unfold almB wordK at h
  rw [Bool.and_eq_true] at h
  by_cases h1 : k = 1; · exact .inl h1
  by_cases h2 : k = 2; · exact .inr (.inl h2)
  by_cases h4 : k = 4; · exact .inr (.inr (.inl h4))
  by_cases h8 : k = 8; · exact .inr (.inr (.inr h8))
  rw [if_neg h1, if_neg h2, if_neg h4, if_neg h8] at h
  rw [empty_list] at h
  exact absurd h.2 (by decide)
theorem almB_line {l k : Int} (h : almB l k = true) : ∃ n : Nat, l = n ∧ n < 30 := by
  unfold almB inB at h
  rw [Bool.and_eq_true, decide_eq_true_iff] at h
  exact ⟨l.toNat, by omega, by omega⟩
/-- The words in the package's variable, one a place. -/
def ALW (w : World) : Prop := ∀ k : Nat, k < 9 → w.cell? ⟨0, k, none⟩ = some (.string (wordK k))
theorem ALW.call {w w1 : World} (h : ALW w) (hb : Below w.heap.size w w1) : ALW w1 := fun k hk => (hb.cell (World.block_lt_of_cell? w _ (h k hk))).trans (h k hk)
theorem l13Kind_c (k : Int) (w : World) : Calls Tryd.prog 25 #[.int .i64 k] w fun e w' => e = .returned (.string (wordK k)) ∧ w' = w := by
  obtain ⟨V, hV⟩ : ∃ V, V = wordK k := ⟨_, rfl⟩
  rw [← hV]
  have HV := hide hV
  clear hV
  by_cases h1 : k = 1
  · subst h1
    go_enter Tryd.func25, Tryd.ntmps25
    go_wp2
    go_ret
    exact ⟨by rw [unhide HV]; rfl, rfl⟩
  by_cases h2 : k = 2
  · subst h2
    go_enter Tryd.func25, Tryd.ntmps25
    go_wp2
    go_ret
    exact ⟨by rw [unhide HV]; rfl, rfl⟩
  by_cases h4 : k = 4
  · subst h4
    go_enter Tryd.func25, Tryd.ntmps25
    go_wp2
    go_ret
    exact ⟨by rw [unhide HV]; rfl, rfl⟩
  by_cases h8 : k = 8
  · subst h8
    go_enter Tryd.func25, Tryd.ntmps25
    go_wp2
    go_ret
    exact ⟨by rw [unhide HV]; rfl, rfl⟩
  have HN := hide (show V = ⟨#[]⟩ by rw [unhide HV]; unfold wordK; rw [if_neg h1, if_neg h2, if_neg h4, if_neg h8])
  have e1 : (k == 1) = false := by simpa using h1
  have e2 : (k == 2) = false := by simpa using h2
  have e4 : (k == 4) = false := by simpa using h4
  have e8 : (k == 8) = false := by simpa using h8
  clear h1 h2 h4 h8
  go_enter Tryd.func25, Tryd.ntmps25
  go_wp2
  go_ret
  exact ⟨by rw [unhide HN]; rfl, rfl⟩
/-- An alarm in a block of the call's own. -/
theorem sAlarm_box (w : World) (l k : Int) (t : TypeId) : H2 w ⟨w.heap.size, 0, none⟩ ⟨w.heap.size, 1, none⟩ (.int .i64 l) (.int .i64 k) (w.alloc (Obj.cells #[.int .i64 l, .int .i64 k] t)) :=
  ⟨by simp [go_sem], by simp [go_sem], (Below.refl _ _).alloc (Nat.le_refl _) _⟩
theorem plus_size {X Y : ByteArray} (h : X.size ≤ 2) (h2 : Y.size ≤ 6) : X.size ≤ 2 ∧ (X ++ (⟨#[32]⟩ : ByteArray)).size ≤ 3 := by
  refine ⟨h, ?_⟩
  rw [ByteArray.size_append]
  have : (⟨#[32]⟩ : ByteArray).size = 1 := rfl
  omega
@[reducible] def H3 (w0 : World) (a1 a2 a3 : Addr) (v1 v2 v3 : Value) (w : World) : Prop := w.cell? a1 = some v1 ∧ w.cell? a2 = some v2 ∧ w.cell? a3 = some v3 ∧ Below w0.heap.size w0 w
theorem H3.drew {w0 w : World} {a1 a2 a3 : Addr} {v1 v2 v3 : Value} (h : H3 w0 a1 a2 a3 v1 v2 v3 w) : H3 w0 a1 a2 a3 v1 v2 v3 w.drew := ⟨h.1, h.2.1, h.2.2.1, h.2.2.2.drew⟩
theorem H3.call {w0 w w1 : World} {a1 a2 a3 : Addr} {v1 v2 v3 : Value} (hb : Below w.heap.size w w1) (h : H3 w0 a1 a2 a3 v1 v2 v3 w) : H3 w0 a1 a2 a3 v1 v2 v3 w1 :=
  ⟨(hb.cell (World.block_lt_of_cell? w _ h.1)).trans h.1, (hb.cell (World.block_lt_of_cell? w _ h.2.1)).trans h.2.1, (hb.cell (World.block_lt_of_cell? w _ h.2.2.1)).trans h.2.2.1, h.2.2.2.trans (hb.mono h.2.2.2.size)⟩
set_option maxRecDepth 20000 in
set_option maxHeartbeats 8000000 in
theorem sAlarmText_c (l k : Int) (w : World) : Calls Tryd.prog 12 #[.agg #[.int .i64 l, .int .i64 k]] w fun e w' => e = .returned (.string (almT l k)) ∧ Below w.heap.size w w' := by
  obtain ⟨V, hV⟩ : ∃ V, V = almT l k := ⟨_, rfl⟩
  rw [← hV]
  have HV := hide hV
  have HB := hide (sAlarm_box w l k 25)
  clear hV
  go_enter Tryd.func12, Tryd.ntmps12
  go_upto_region 1 with fail
  generalize w.alloc (Obj.cells #[.int .i64 l, .int .i64 k] 25) = u at HB ⊢
  have p0 := (unhide HB).1
  have p1 := (unhide HB).2.1
  go_wp2_with fail
  refine (l1In_c l 0 29 _).mono ?_
  rintro e u1 ⟨rfl, rfl⟩
  cases h1 : inB l 0 29
  · have HN := hide (show V = ⟨#[]⟩ by rw [unhide HV]; unfold almT almB; rw [h1]; rfl)
    clear h1
    go_wp2
    go_ret
    exact ⟨by rw [unhide HN]; rfl, (unhide HB).2.2⟩
  have H1 := hide h1
  clear h1
  go_wp2_with fail
  refine (l13Kind_c k _).mono ?_
  rintro e u2 ⟨rfl, rfl⟩
  cases h2 : (wordK k).toList.isEmpty
  case true =>
    have HN := hide (show V = ⟨#[]⟩ by rw [unhide HV]; unfold almT almB; rw [h2]; simp)
    clear HV
    generalize wordK k = W at h2 ⊢
    go_wp2
    go_ret
    exact ⟨by rw [unhide HN]; rfl, (unhide HB).2.2⟩
  have HA := hide (show almB l k = true by unfold almB; rw [unhide H1, h2]; rfl)
  obtain ⟨n, rfl, hn⟩ := almB_line (unhide HA)
  have X0 := hide (decB_size n (by omega))
  have k1 : ∀ w, Calls Tryd.prog 27 #[.int .i64 (n : Int)] w fun e w' => e = .returned (.string (decB n)) ∧ Below w.heap.size w w' := fun w => l1Dec_c n (by omega) w
  have HT := hide (show V = decB n ++ (⟨#[32]⟩ : ByteArray) ++ wordK k by rw [unhide HV]; unfold almT; rw [if_pos (unhide HA)]; rfl)
  have Y0 := hide (wordK_size k)
  have k2 : ∀ w, Calls Tryd.prog 25 #[.int .i64 k] w fun e w' => e = .returned (.string (wordK k)) ∧ w' = w := fun w => l13Kind_c k w
  generalize decB n = X at X0 HT k1
  generalize wordK k = Y at Y0 HT k2 h2
  have K1 := hide k1
  have K2 := hide k2
  have z := plus_size (unhide X0) (unhide Y0)
  have s1' : (X.size : Int) ≤ 2 := by omega
  have s2' : (Y.size : Int) ≤ 6 := by have := unhide Y0; omega
  have s5' : ((X ++ (⟨#[32]⟩ : ByteArray)).size : Int) ≤ 3 := by omega
  have s6 : (⟨#[32]⟩ : ByteArray).size = 1 := rfl
  have n1 : ¬ (9223372036854775807 < X.size + 1) := by omega
  have n2 : ¬ (9223372036854775807 < X.size + 1 + Y.size) := by omega
  have hh : H2 u2 ⟨w.heap.size, 0, none⟩ ⟨w.heap.size, 1, none⟩ (.int .i64 (n : Int)) (.int .i64 k) u2 := ⟨p0, p1, Below.refl _ _⟩
  clear k1 k2 z hn p0 p1
  go_wp2_with fail
  go_region_held3 (H2 u2 ⟨w.heap.size, 0, none⟩ ⟨w.heap.size, 1, none⟩ (.int .i64 (n : Int)) (.int .i64 k))
    (first | exact H2.drew (by assumption) | exact hq2 | exact hq)
    (first
      | (go_at_call 25; refine ((unhide K2) _).mono ?_; rintro e u9 ⟨rfl, rfl⟩; have hq2 := hq)
      | (go_at_call 27; refine ((unhide K1) _).mono ?_; rintro e u3 ⟨rfl, hb1⟩; have hq := H2.call hb1 (H2.drew hh)))
  all_goals
    have HD := hide ((unhide HB).2.2.trans (hq2.2.2.mono (unhide HB).2.2.size))
    rename_i hHeld
    clear hHeld hh hq hq2 hb1 HB K1 K2
    go_wp2
    go_ret
    exact ⟨by rw [unhide HT]; rfl, unhide HD⟩
set_option maxRecDepth 20000 in
set_option maxHeartbeats 8000000 in
theorem iAlarmText_c (l k : Int) (w : World) (hw : ALW w) : Calls Tryd.prog 8 #[.agg #[.int .i64 l, .int .i64 k]] w fun e w' => e = .returned (.string (almT l k)) ∧ Below w.heap.size w w' := by
  obtain ⟨V, hV⟩ : ∃ V, V = almT l k := ⟨_, rfl⟩
  rw [← hV]
  have HV := hide hV
  have HB := hide (sAlarm_box w l k 25)
  have HWU := hide (hw.call ((Below.refl _ w).alloc (Nat.le_refl _) (Obj.cells #[.int .i64 l, .int .i64 k] 25)))
  clear hw
  clear hV
  go_enter Tryd.func8, Tryd.ntmps8
  go_upto_region 1 with fail
  generalize w.alloc (Obj.cells #[.int .i64 l, .int .i64 k] 25) = u at HB HWU ⊢
  have p0 := (unhide HB).1
  have p1 := (unhide HB).2.1
  go_wp2_with fail
  refine (isBelow_c l 30 _).mono ?_
  rintro e u1 ⟨rfl, rfl⟩
  rw [show (30 : Int) - 1 = 29 from rfl]
  cases h1 : inB l 0 29
  · have HN := hide (show V = ⟨#[]⟩ by rw [unhide HV]; unfold almT almB; rw [h1]; rfl)
    clear h1
    go_wp2
    go_ret
    exact ⟨by rw [unhide HN]; rfl, (unhide HB).2.2⟩
  have H1 := hide h1
  clear h1
  go_wp2_with fail
  refine (isBelow_c k 9 _).mono ?_
  rintro e u2 ⟨rfl, rfl⟩
  rw [show (9 : Int) - 1 = 8 from rfl]
  cases h2 : inB k 0 8
  · have HN := hide (show V = ⟨#[]⟩ by
      rw [unhide HV]; unfold almT almB
      have q := of_decide_eq_false h2
      have e : wordK k = ⟨#[]⟩ := by unfold wordK; rw [if_neg (by omega), if_neg (by omega), if_neg (by omega), if_neg (by omega)]
      rw [e, empty_list]; simp)
    clear h2
    go_wp2
    go_ret
    exact ⟨by rw [unhide HN]; rfl, (unhide HB).2.2⟩
  obtain ⟨m, rfl, hm⟩ : ∃ m : Nat, k = m ∧ m < 9 := by
    have q := of_decide_eq_true h2
    exact ⟨k.toNat, by omega, by omega⟩
  clear h2
  have hm' : (m : Int) < 9 := by omega
  have ca := (unhide HWU) m hm
  cases h2 : (wordK m).toList.isEmpty
  case true =>
    have HN := hide (show V = ⟨#[]⟩ by rw [unhide HV]; unfold almT almB; rw [h2]; simp)
    clear HV
    generalize wordK m = W at h2 ca
    go_wp2
    go_ret
    exact ⟨by rw [unhide HN]; rfl, (unhide HB).2.2⟩
  have HA := hide (show almB l m = true by unfold almB; rw [unhide H1, h2]; rfl)
  obtain ⟨n, rfl, hn⟩ := almB_line (unhide HA)
  have X0 := hide (decB_size n (by omega))
  have k1 : ∀ w, Calls Tryd.prog 19 #[.int .i64 (n : Int)] w fun e w' => e = .returned (.string (decB n)) ∧ Below w.heap.size w w' := fun w => (decimal_c n (by omega) w).mono (by rintro e w' ⟨h1, rfl⟩; exact ⟨h1, Below.refl _ _⟩)
  have HT := hide (show V = decB n ++ (⟨#[32]⟩ : ByteArray) ++ wordK m by rw [unhide HV]; unfold almT; rw [if_pos (unhide HA)]; rfl)
  have Y0 := hide (wordK_size m)
  generalize decB n = X at X0 HT k1
  generalize wordK m = Y at Y0 HT h2 ca
  have K1 := hide k1
  have z := plus_size (unhide X0) (unhide Y0)
  have s1' : (X.size : Int) ≤ 2 := by omega
  have s2' : (Y.size : Int) ≤ 6 := by have := unhide Y0; omega
  have s5' : ((X ++ (⟨#[32]⟩ : ByteArray)).size : Int) ≤ 3 := by omega
  have s6 : (⟨#[32]⟩ : ByteArray).size = 1 := rfl
  have n1 : ¬ (9223372036854775807 < X.size + 1) := by omega
  have n2 : ¬ (9223372036854775807 < X.size + 1 + Y.size) := by omega
  have hh : H3 u2 ⟨w.heap.size, 0, none⟩ ⟨w.heap.size, 1, none⟩ ⟨0, m, none⟩ (.int .i64 (n : Int)) (.int .i64 (m : Int)) (.string Y) u2 := ⟨p0, p1, ca, Below.refl _ _⟩
  clear k1 z hn
  go_wp2_with fail
  go_region_held3 (H3 u2 ⟨w.heap.size, 0, none⟩ ⟨w.heap.size, 1, none⟩ ⟨0, m, none⟩ (.int .i64 (n : Int)) (.int .i64 (m : Int)) (.string Y))
    (first | exact H3.drew (by assumption) | exact hq)
    (first
      | (go_at_call 19; refine ((unhide K1) _).mono ?_; rintro e u3 ⟨rfl, hb1⟩; have hq := H3.call hb1 (H3.drew hh)))
  all_goals
    have HD := hide ((unhide HB).2.2.trans (hq.2.2.2.mono (unhide HB).2.2.size))
    rename_i hHeld
    clear hHeld hh hq hb1 HB K1 p0 p1 ca
    go_wp2
    go_ret
    exact ⟨by rw [unhide HT]; rfl, unhide HD⟩
end Go.Proofs.YtghommnbnafmkaaDoor
