/- Reading an alarm: the program's functions. -/
import Derived.Test.YtghommnbnafmkaaDoorAlmT
namespace Go.Proofs.YtghommnbnafmkaaDoor
open Go.RowKit
set_option linter.unusedSimpArgs false
set_option linter.unusedVariables false

/-- The table's words, one a place. -/
theorem idx_0 (a0 a1 a2 a3 a4 a5 a6 a7 a8 : Value) (w : World) : (Instr.index 42 (.agg #[a0, a1, a2, a3, a4, a5, a6, a7, a8]) (.int .i64 ((0 : Nat) : Int))).run Tryd.prog w = .ok a0 w := by kernel_rfl
theorem idy_0 (a0 a1 a2 a3 a4 a5 a6 a7 a8 : Value) (w : World) : (Instr.index 42 (.agg #[a0, a1, a2, a3, a4, a5, a6, a7, a8]) (.int .i64 0)).run Tryd.prog w = .ok a0 w := by kernel_rfl
theorem idx_1 (a0 a1 a2 a3 a4 a5 a6 a7 a8 : Value) (w : World) : (Instr.index 42 (.agg #[a0, a1, a2, a3, a4, a5, a6, a7, a8]) (.int .i64 ((1 : Nat) : Int))).run Tryd.prog w = .ok a1 w := by kernel_rfl
theorem idy_1 (a0 a1 a2 a3 a4 a5 a6 a7 a8 : Value) (w : World) : (Instr.index 42 (.agg #[a0, a1, a2, a3, a4, a5, a6, a7, a8]) (.int .i64 1)).run Tryd.prog w = .ok a1 w := by kernel_rfl
theorem idx_2 (a0 a1 a2 a3 a4 a5 a6 a7 a8 : Value) (w : World) : (Instr.index 42 (.agg #[a0, a1, a2, a3, a4, a5, a6, a7, a8]) (.int .i64 ((2 : Nat) : Int))).run Tryd.prog w = .ok a2 w := by kernel_rfl
theorem idy_2 (a0 a1 a2 a3 a4 a5 a6 a7 a8 : Value) (w : World) : (Instr.index 42 (.agg #[a0, a1, a2, a3, a4, a5, a6, a7, a8]) (.int .i64 2)).run Tryd.prog w = .ok a2 w := by kernel_rfl
theorem idx_3 (a0 a1 a2 a3 a4 a5 a6 a7 a8 : Value) (w : World) : (Instr.index 42 (.agg #[a0, a1, a2, a3, a4, a5, a6, a7, a8]) (.int .i64 ((3 : Nat) : Int))).run Tryd.prog w = .ok a3 w := by kernel_rfl
theorem idy_3 (a0 a1 a2 a3 a4 a5 a6 a7 a8 : Value) (w : World) : (Instr.index 42 (.agg #[a0, a1, a2, a3, a4, a5, a6, a7, a8]) (.int .i64 3)).run Tryd.prog w = .ok a3 w := by kernel_rfl
theorem idx_4 (a0 a1 a2 a3 a4 a5 a6 a7 a8 : Value) (w : World) : (Instr.index 42 (.agg #[a0, a1, a2, a3, a4, a5, a6, a7, a8]) (.int .i64 ((4 : Nat) : Int))).run Tryd.prog w = .ok a4 w := by kernel_rfl
theorem idy_4 (a0 a1 a2 a3 a4 a5 a6 a7 a8 : Value) (w : World) : (Instr.index 42 (.agg #[a0, a1, a2, a3, a4, a5, a6, a7, a8]) (.int .i64 4)).run Tryd.prog w = .ok a4 w := by kernel_rfl
theorem idx_5 (a0 a1 a2 a3 a4 a5 a6 a7 a8 : Value) (w : World) : (Instr.index 42 (.agg #[a0, a1, a2, a3, a4, a5, a6, a7, a8]) (.int .i64 ((5 : Nat) : Int))).run Tryd.prog w = .ok a5 w := by kernel_rfl
theorem idy_5 (a0 a1 a2 a3 a4 a5 a6 a7 a8 : Value) (w : World) : (Instr.index 42 (.agg #[a0, a1, a2, a3, a4, a5, a6, a7, a8]) (.int .i64 5)).run Tryd.prog w = .ok a5 w := by kernel_rfl
theorem idx_6 (a0 a1 a2 a3 a4 a5 a6 a7 a8 : Value) (w : World) : (Instr.index 42 (.agg #[a0, a1, a2, a3, a4, a5, a6, a7, a8]) (.int .i64 ((6 : Nat) : Int))).run Tryd.prog w = .ok a6 w := by kernel_rfl
theorem idy_6 (a0 a1 a2 a3 a4 a5 a6 a7 a8 : Value) (w : World) : (Instr.index 42 (.agg #[a0, a1, a2, a3, a4, a5, a6, a7, a8]) (.int .i64 6)).run Tryd.prog w = .ok a6 w := by kernel_rfl
theorem idx_7 (a0 a1 a2 a3 a4 a5 a6 a7 a8 : Value) (w : World) : (Instr.index 42 (.agg #[a0, a1, a2, a3, a4, a5, a6, a7, a8]) (.int .i64 ((7 : Nat) : Int))).run Tryd.prog w = .ok a7 w := by kernel_rfl
theorem idy_7 (a0 a1 a2 a3 a4 a5 a6 a7 a8 : Value) (w : World) : (Instr.index 42 (.agg #[a0, a1, a2, a3, a4, a5, a6, a7, a8]) (.int .i64 7)).run Tryd.prog w = .ok a7 w := by kernel_rfl
theorem idx_8 (a0 a1 a2 a3 a4 a5 a6 a7 a8 : Value) (w : World) : (Instr.index 42 (.agg #[a0, a1, a2, a3, a4, a5, a6, a7, a8]) (.int .i64 ((8 : Nat) : Int))).run Tryd.prog w = .ok a8 w := by kernel_rfl
theorem idy_8 (a0 a1 a2 a3 a4 a5 a6 a7 a8 : Value) (w : World) : (Instr.index 42 (.agg #[a0, a1, a2, a3, a4, a5, a6, a7, a8]) (.int .i64 8)).run Tryd.prog w = .ok a8 w := by kernel_rfl
theorem C2.set1 {u : World} {b : Nat} {x y : Value} (h : C2 u b x y) (v : Value) : C2 (u.setCell ⟨b, 1, none⟩ v) b x v := by
  refine ⟨?_, World.cell?_setCell_same _ _ _ h.2.1, fun o => (World.frozen?_setCell _ _ _ _).trans (h.2.2 o)⟩
  rw [World.cell?_setCell_other _ _ _ _ (by simp)]
  exact h.1
theorem C2.other {u : World} {b c o : Nat} {x y v : Value} (h : C2 u b x y) (hne : c ≠ b) : C2 (u.setCell ⟨c, o, none⟩ v) b x y := by
  refine ⟨?_, ?_, fun o => (World.frozen?_setCell _ _ _ _).trans (h.2.2 o)⟩
  · rw [World.cell?_setCell_other _ _ _ _ (fun e => hne (congrArg Addr.block e))]; exact h.1
  · rw [World.cell?_setCell_other _ _ _ _ (fun e => hne (congrArg Addr.block e))]; exact h.2.1
theorem D2.other {w u : World} {c o : Nat} {x y : Value} (h : D2 w x y u) (hc : w.heap.size < c) (v : Value) : D2 w x y (u.setCell ⟨c, o, none⟩ v) := ⟨h.1.other (by omega), h.2.setCell (by show w.heap.size ≤ c; omega) _⟩
theorem eq_list {a b : ByteArray} (h : a = b) : (a.toList == b.toList) = true := by
  rw [h]
  simp
/-- A number read, and what it is at a small number's text. -/
def LikP (a : ByteArray) (e : Ending) : Prop := ∃ n : Int, e = .returned (.int .i64 n) ∧ ∀ m : Nat, m < 100 → a = decB m → n = m
theorem likP_c (a : ByteArray) (ha : a.size ≤ 1048576) (w : World) (he : ERR w) : Calls Tryd.prog 32 #[.string a] w fun e w' => LikP a e ∧ Below w.heap.size w w' := by
  by_cases h : ∃ n : Nat, n < 100 ∧ a = decB n
  · obtain ⟨n, h1, rfl⟩ := h
    refine (likelyD_c n h1 w).mono ?_
    rintro e u ⟨rfl, kb⟩
    refine ⟨⟨n, rfl, fun m hm e => ?_⟩, kb⟩
    have p := parse_dec n h1
    rw [e, parse_dec m hm] at p
    exact (Lib.NumEnd.ok.inj p).symm
  · refine (likely_c a ha w he).mono ?_
    rintro e u ⟨⟨n, rfl⟩, kb⟩
    exact ⟨⟨n, rfl, fun m hm e => absurd ⟨m, hm, e⟩ h⟩, kb⟩
theorem word_of {s : ByteArray} {l K : Int} {b : Bool} (h : RA s l K b) (a t : ByteArray) (f : Bool) (line : Int) (hc : CutE s (.returned (.tuple #[.string a, .string t, .bool f]))) (hl : ∀ n : Nat, n < 100 → a = decB n → line = n) : b = true → line = l ∧ t = wordK K ∧ (K = 1 ∨ K = 2 ∨ K = 4 ∨ K = 8) := by
  intro hb
  rcases h with ⟨rfl, h1, h2⟩ | ⟨rfl, _⟩
  · obtain ⟨n, rfl, hn⟩ := almB_line h1
    rw [h2] at hc
    have q := cut_alarm (by omega) h1 hc
    simp only [Ending.returned.injEq, Value.tuple.injEq, Array.mk.injEq, List.cons.injEq, Value.string.injEq, Value.bool.injEq, and_true] at q
    obtain ⟨rfl, rfl, rfl⟩ := q
    exact ⟨hl n (by omega) rfl, rfl, almB_kind h1⟩
  · cases hb
theorem word_at {K : Int} (hk : K = 1 ∨ K = 2 ∨ K = 4 ∨ K = 8) (i : Nat) (hi : i < 9) : wordK (i : Int) = wordK K ↔ (i : Int) = K := by
  constructor
  · intro h
    have hm : K ∈ [1, 2, 4, 8] := by rcases hk with rfl | rfl | rfl | rfl <;> simp
    exact (word_inj K hm ⟨i, hi⟩ h.symm).symm
  · intro h
    rw [h]
/-- What the table's kind is behind so many words. -/
def kindAt (K : Int) (i : Nat) : Int := if K < i then K else 0
theorem kindAt_next {K κ : Int} {b : Bool} {t : ByteArray} {i : Nat} (hi : i < 9) (h : b = true → t = wordK K ∧ (K = 1 ∨ K = 2 ∨ K = 4 ∨ K = 8)) (hw : ¬ wordK (i : Int) = t) (hκ : b = true → κ = kindAt K i) : b = true → κ = kindAt K (i + 1) := by
  intro e
  obtain ⟨h1, h2⟩ := h e
  rw [h1] at hw
  have : ¬ (i : Int) = K := fun q => hw ((word_at h2 i hi).2 q)
  rw [hκ e]
  unfold kindAt
  by_cases q : K < (i : Int)
  · rw [if_pos q, if_pos (by omega)]
  · rw [if_neg q, if_neg (by omega)]
theorem kindAt_here {K : Int} {b : Bool} {t : ByteArray} {i : Nat} (hi : i < 9) (h : b = true → t = wordK K ∧ (K = 1 ∨ K = 2 ∨ K = 4 ∨ K = 8)) (hw : wordK (i : Int) = t) : b = true → (i : Int) = kindAt K (i + 1) := by
  intro e
  obtain ⟨h1, h2⟩ := h e
  rw [h1] at hw
  have q := (word_at h2 i hi).1 hw
  unfold kindAt
  rw [if_pos (by omega), q]
set_option maxRecDepth 20000 in
set_option maxHeartbeats 16000000 in
theorem likelyAlarm_c (s : ByteArray) (hs : s.size ≤ 1048576) (l K : Int) (b : Bool) (hr : RA s l K b) (w : World) (hw : ALW w) (he : ERR w) : Calls Tryd.prog 22 #[.string s] w fun e w' => (∃ line κ : Int, e = .returned (.agg #[.int .i64 line, .int .i64 κ]) ∧ (b = true → line = l ∧ κ = K)) ∧ Below w.heap.size w w' := by
  have HR := hide hr
  have HW := hide hw
  have HE := hide he
  have HB := hide (D2.new w (.int .i64 0) (.int .i64 0) 25)
  clear hr hw he
  go_enter Tryd.func22, Tryd.ntmps22
  go_upto_region 1 with fail
  generalize w.alloc (Obj.cells #[.int .i64 0, .int .i64 0] 25) = u at HB ⊢
  go_wp2_with fail
  refine (cut_c s hs _).mono ?_
  rintro e u1 ⟨hc, kb⟩
  obtain ⟨a, t, f, rfl⟩ := cut_tuple hc
  have HB := hide ((unhide HB).call kb)
  have HS := hide (cut_sizes hc)
  have HC := hide hc
  clear hc kb
  go_wp2_with fail
  refine (likP_c a (Nat.le_trans (unhide HS) hs) _ ((unhide HE).call (unhide HB).2)).mono ?_
  rintro e u2 ⟨⟨line, rfl, hl⟩, kb⟩
  have HB := hide ((unhide HB).call kb)
  have HT := hide (word_of (unhide HR) a t f line (unhide HC) hl)
  have HT2 : Hid (b = true → t = wordK K ∧ (K = 1 ∨ K = 2 ∨ K = 4 ∨ K = 8)) := fun e => ⟨((unhide HT) e).2.1, ((unhide HT) e).2.2⟩
  clear hl kb HC HS
  have HA := hide (D2.new u2 (.int .i64 line) (.int .i64 0) 25)
  have HB2 := hide ((unhide HB).call (unhide HA).2)
  go_upto_region 3 with fail
  generalize u2.alloc (Obj.cells #[.int .i64 line, .int .i64 0] 25) = x at HA HB2 ⊢
  have hgl : w.heap.size < u2.heap.size := (unhide HB).1.lt
  have HGL : Hid (w.heap.size < u2.heap.size) := hgl
  obtain ⟨g, hg⟩ : ∃ g, g = u2.heap.size := ⟨_, rfl⟩
  have HA1 := hide (unhide HA).1
  rw [← hg] at HA1 HGL ⊢
  have hx := (unhide HW).call (unhide HB2).2
  have w0 : x.cell? ⟨0, 0, none⟩ = some (.string (wordK 0)) := hx 0 (by decide)
  have w1 : x.cell? ⟨0, 1, none⟩ = some (.string (wordK 1)) := hx 1 (by decide)
  have w2 : x.cell? ⟨0, 2, none⟩ = some (.string (wordK 2)) := hx 2 (by decide)
  have w3 : x.cell? ⟨0, 3, none⟩ = some (.string (wordK 3)) := hx 3 (by decide)
  have w4 : x.cell? ⟨0, 4, none⟩ = some (.string (wordK 4)) := hx 4 (by decide)
  have w5 : x.cell? ⟨0, 5, none⟩ = some (.string (wordK 5)) := hx 5 (by decide)
  have w6 : x.cell? ⟨0, 6, none⟩ = some (.string (wordK 6)) := hx 6 (by decide)
  have w7 : x.cell? ⟨0, 7, none⟩ = some (.string (wordK 7)) := hx 7 (by decide)
  have w8 : x.cell? ⟨0, 8, none⟩ = some (.string (wordK 8)) := hx 8 (by decide)
  clear hx hgl hg HA HB
  go_wp2
  clear w0 w1 w2 w3 w4 w5 w6 w7 w8
  go_loopw [19] (fun i wr => ∃ (k : Nat) (κ : Int), k ≤ 9 ∧ i = .int .i64 k ∧ (b = true → κ = kindAt K k) ∧ C2 wr g (.int .i64 line) (.int .i64 κ) ∧ D2 w (.int .i64 0) (.int .i64 0) wr) (fun i _ => 9 - (intOf i).toNat)
  case atStart => exact ⟨0, 0, by decide, rfl, fun e => (by rcases ((unhide HT2) e).2 with h | h | h | h <;> simp [kindAt, h]), unhide HA1, unhide HB2⟩
  case round =>
    obtain ⟨k, κ, hk, rfl, hκ, hc, hd⟩ := hrel
    have HC := hide hc
    have HD := hide hd
    have HK := hide hκ
    clear hc hd hκ HA1 HB2
    have c0 := (unhide HC).1
    have c1 := (unhide HC).2.1
    have f0 := (unhide HC).2.2 0
    have f1 := (unhide HC).2.2 1
    rcases (show k = 0 ∨ k = 1 ∨ k = 2 ∨ k = 3 ∨ k = 4 ∨ k = 5 ∨ k = 6 ∨ k = 7 ∨ k = 8 ∨ k = 9 by omega) with rfl | rfl | rfl | rfl | rfl | rfl | rfl | rfl | rfl | rfl
    · by_cases hq : wordK 0 = t
      · have hv := eq_list hq
        have hz := hide (kindAt_here (i := 0) (by decide) (unhide HT2) hq)
        have ix := idx_0
        have iy := idy_0
        clear hq hk
        go_wp2
        go_roundw
        case rel => exact ⟨1, 0, by decide, rfl, unhide hz, (unhide HC).set1 _, (unhide HD).other (unhide HGL) _⟩
        case measure => simp [intOf]
      · have hv := ne_list hq
        have hz := hide (kindAt_next (i := 0) (by decide) (unhide HT2) hq (unhide HK))
        have ix := idx_0
        have iy := idy_0
        clear hq hk
        go_wp2
        go_roundw
        case rel => exact ⟨1, κ, by decide, rfl, unhide hz, unhide HC, unhide HD⟩
        case measure => simp [intOf]
    · by_cases hq : wordK 1 = t
      · have hv := eq_list hq
        have hz := hide (kindAt_here (i := 1) (by decide) (unhide HT2) hq)
        have ix := idx_1
        have iy := idy_1
        clear hq hk
        go_wp2
        go_roundw
        case rel => exact ⟨2, 1, by decide, rfl, unhide hz, (unhide HC).set1 _, (unhide HD).other (unhide HGL) _⟩
        case measure => simp [intOf]
      · have hv := ne_list hq
        have hz := hide (kindAt_next (i := 1) (by decide) (unhide HT2) hq (unhide HK))
        have ix := idx_1
        have iy := idy_1
        clear hq hk
        go_wp2
        go_roundw
        case rel => exact ⟨2, κ, by decide, rfl, unhide hz, unhide HC, unhide HD⟩
        case measure => simp [intOf]
    · by_cases hq : wordK 2 = t
      · have hv := eq_list hq
        have hz := hide (kindAt_here (i := 2) (by decide) (unhide HT2) hq)
        have ix := idx_2
        have iy := idy_2
        clear hq hk
        go_wp2
        go_roundw
        case rel => exact ⟨3, 2, by decide, rfl, unhide hz, (unhide HC).set1 _, (unhide HD).other (unhide HGL) _⟩
        case measure => simp [intOf]
      · have hv := ne_list hq
        have hz := hide (kindAt_next (i := 2) (by decide) (unhide HT2) hq (unhide HK))
        have ix := idx_2
        have iy := idy_2
        clear hq hk
        go_wp2
        go_roundw
        case rel => exact ⟨3, κ, by decide, rfl, unhide hz, unhide HC, unhide HD⟩
        case measure => simp [intOf]
    · by_cases hq : wordK 3 = t
      · have hv := eq_list hq
        have hz := hide (kindAt_here (i := 3) (by decide) (unhide HT2) hq)
        have ix := idx_3
        have iy := idy_3
        clear hq hk
        go_wp2
        go_roundw
        case rel => exact ⟨4, 3, by decide, rfl, unhide hz, (unhide HC).set1 _, (unhide HD).other (unhide HGL) _⟩
        case measure => simp [intOf]
      · have hv := ne_list hq
        have hz := hide (kindAt_next (i := 3) (by decide) (unhide HT2) hq (unhide HK))
        have ix := idx_3
        have iy := idy_3
        clear hq hk
        go_wp2
        go_roundw
        case rel => exact ⟨4, κ, by decide, rfl, unhide hz, unhide HC, unhide HD⟩
        case measure => simp [intOf]
    · by_cases hq : wordK 4 = t
      · have hv := eq_list hq
        have hz := hide (kindAt_here (i := 4) (by decide) (unhide HT2) hq)
        have ix := idx_4
        have iy := idy_4
        clear hq hk
        go_wp2
        go_roundw
        case rel => exact ⟨5, 4, by decide, rfl, unhide hz, (unhide HC).set1 _, (unhide HD).other (unhide HGL) _⟩
        case measure => simp [intOf]
      · have hv := ne_list hq
        have hz := hide (kindAt_next (i := 4) (by decide) (unhide HT2) hq (unhide HK))
        have ix := idx_4
        have iy := idy_4
        clear hq hk
        go_wp2
        go_roundw
        case rel => exact ⟨5, κ, by decide, rfl, unhide hz, unhide HC, unhide HD⟩
        case measure => simp [intOf]
    · by_cases hq : wordK 5 = t
      · have hv := eq_list hq
        have hz := hide (kindAt_here (i := 5) (by decide) (unhide HT2) hq)
        have ix := idx_5
        have iy := idy_5
        clear hq hk
        go_wp2
        go_roundw
        case rel => exact ⟨6, 5, by decide, rfl, unhide hz, (unhide HC).set1 _, (unhide HD).other (unhide HGL) _⟩
        case measure => simp [intOf]
      · have hv := ne_list hq
        have hz := hide (kindAt_next (i := 5) (by decide) (unhide HT2) hq (unhide HK))
        have ix := idx_5
        have iy := idy_5
        clear hq hk
        go_wp2
        go_roundw
        case rel => exact ⟨6, κ, by decide, rfl, unhide hz, unhide HC, unhide HD⟩
        case measure => simp [intOf]
    · by_cases hq : wordK 6 = t
      · have hv := eq_list hq
        have hz := hide (kindAt_here (i := 6) (by decide) (unhide HT2) hq)
        have ix := idx_6
        have iy := idy_6
        clear hq hk
        go_wp2
        go_roundw
        case rel => exact ⟨7, 6, by decide, rfl, unhide hz, (unhide HC).set1 _, (unhide HD).other (unhide HGL) _⟩
        case measure => simp [intOf]
      · have hv := ne_list hq
        have hz := hide (kindAt_next (i := 6) (by decide) (unhide HT2) hq (unhide HK))
        have ix := idx_6
        have iy := idy_6
        clear hq hk
        go_wp2
        go_roundw
        case rel => exact ⟨7, κ, by decide, rfl, unhide hz, unhide HC, unhide HD⟩
        case measure => simp [intOf]
    · by_cases hq : wordK 7 = t
      · have hv := eq_list hq
        have hz := hide (kindAt_here (i := 7) (by decide) (unhide HT2) hq)
        have ix := idx_7
        have iy := idy_7
        clear hq hk
        go_wp2
        go_roundw
        case rel => exact ⟨8, 7, by decide, rfl, unhide hz, (unhide HC).set1 _, (unhide HD).other (unhide HGL) _⟩
        case measure => simp [intOf]
      · have hv := ne_list hq
        have hz := hide (kindAt_next (i := 7) (by decide) (unhide HT2) hq (unhide HK))
        have ix := idx_7
        have iy := idy_7
        clear hq hk
        go_wp2
        go_roundw
        case rel => exact ⟨8, κ, by decide, rfl, unhide hz, unhide HC, unhide HD⟩
        case measure => simp [intOf]
    · by_cases hq : wordK 8 = t
      · have hv := eq_list hq
        have hz := hide (kindAt_here (i := 8) (by decide) (unhide HT2) hq)
        have ix := idx_8
        have iy := idy_8
        clear hq hk
        go_wp2
        go_roundw
        case rel => exact ⟨9, 8, by decide, rfl, unhide hz, (unhide HC).set1 _, (unhide HD).other (unhide HGL) _⟩
        case measure => simp [intOf]
      · have hv := ne_list hq
        have hz := hide (kindAt_next (i := 8) (by decide) (unhide HT2) hq (unhide HK))
        have ix := idx_8
        have iy := idy_8
        clear hq hk
        go_wp2
        go_roundw
        case rel => exact ⟨9, κ, by decide, rfl, unhide hz, unhide HC, unhide HD⟩
        case measure => simp [intOf]
    · have d0 := (unhide HD).1.1
      have d1 := (unhide HD).1.2.1
      have e0 := (unhide HD).1.2.2 0
      have e1 := (unhide HD).1.2.2 1
      clear hk
      go_wp2
      exact bodyPost_ret (v := .agg #[.int .i64 line, .int .i64 κ]) (by simp [results, Tryd.results22, go_sem, d0, d1]) rfl ⟨⟨line, κ, rfl, fun e => ⟨((unhide HT) e).1, by rw [(unhide HK) e]; rcases ((unhide HT2) e).2 with h | h | h | h <;> simp [kindAt, h]⟩⟩, (((unhide HD).2.setCell (by first | exact Nat.le_refl _ | omega) _).setCell (by first | exact Nat.le_refl _ | omega) _)⟩
set_option maxRecDepth 20000 in
set_option maxHeartbeats 16000000 in
theorem iReadAlarm_c (s : ByteArray) (hs : s.size ≤ 1048576) (l K : Int) (b : Bool) (hr : RA s l K b) (w : World) (hw : ALW w) (he : ERR w) : Calls Tryd.prog 10 #[.string s] w fun e w' => e = .returned (.tuple #[.agg #[.int .i64 l, .int .i64 K], .bool b]) ∧ Below w.heap.size w w' := by
  have HR := hide hr
  have HW := hide hw
  have HE := hide he
  have HB := hide (D2.new w (.int .i64 0) (.int .i64 0) 25)
  clear hr hw he
  go_enter Tryd.func10, Tryd.ntmps10
  go_upto_region 1 with fail
  generalize w.alloc (Obj.cells #[.int .i64 0, .int .i64 0] 25) = u at HB ⊢
  go_wp2_with fail
  refine (likelyAlarm_c s hs l K b (unhide HR) _ ((unhide HW).call (unhide HB).2) ((unhide HE).call (unhide HB).2)).mono ?_
  rintro e u1 ⟨⟨line, κ, rfl, hlk⟩, kb⟩
  have HB := hide ((unhide HB).call kb)
  have HL := hide hlk
  clear kb hlk
  have HA := hide (D2.new u1 (.int .i64 line) (.int .i64 κ) 25)
  have HB2 := hide ((unhide HB).call (unhide HA).2)
  go_upto_region 2 with fail
  generalize u1.alloc (Obj.cells #[.int .i64 line, .int .i64 κ] 25) = x at HA HB2 ⊢
  have hgl : w.heap.size < u1.heap.size := (unhide HB).1.lt
  have HGL : Hid (w.heap.size < u1.heap.size) := hgl
  obtain ⟨g, hg⟩ : ∃ g, g = u1.heap.size := ⟨_, rfl⟩
  have HA1 := hide (unhide HA).1
  rw [← hg] at HA1 HGL ⊢
  clear hgl hg HA HB
  cases hz : s.toList.isEmpty
  case true =>
    have hb : b = false ∧ l = 0 ∧ K = 0 := by
      rcases unhide HR with ⟨_, h1, h2⟩ | ⟨h1, h2, h3, _⟩
      · rw [h2, (almT_ne h1).1] at hz
        cases hz
      · exact ⟨h1, h2, h3⟩
    have d0 := (unhide HB2).1.1
    have d1 := (unhide HB2).1.2.1
    have e0 := (unhide HB2).1.2.2 0
    have e1 := (unhide HB2).1.2.2 1
    obtain ⟨rfl, rfl, rfl⟩ := hb
    go_wp2
    exact bodyPost_ret (v := .tuple #[.agg #[.int .i64 0, .int .i64 0], .bool false]) (by simp [results, Tryd.results10, go_sem, d0, d1]) rfl ⟨rfl, (((unhide HB2).2.setCell (by first | exact Nat.le_refl _ | omega) _).setCell (by first | exact Nat.le_refl _ | omega) _)⟩
  have a0 := (unhide HA1).1
  have a1 := (unhide HA1).2.1
  go_wp2_with fail
  refine (iAlarmText_c line κ _ ((unhide HW).call (unhide HB2).2)).mono ?_
  rintro e x2 ⟨rfl, kb⟩
  have HA1 := hide ((unhide HA1).call kb)
  have HB2 := hide ((unhide HB2).call kb)
  clear kb a0 a1
  have d0 := (unhide HB2).1.1
  have d1 := (unhide HB2).1.2.1
  have e0 := (unhide HB2).1.2.2 0
  have e1 := (unhide HB2).1.2.2 1
  have a0 := (unhide HA1).1
  have a1 := (unhide HA1).2.1
  cases b
  · have hne : ¬ almT line κ = s := by
      rcases unhide HR with ⟨h, _⟩ | ⟨_, _, _, h⟩
      · cases h
      · rcases h with h | h
        · rw [h, empty_list] at hz
          cases hz
        · exact h _ _
    have h00 : l = 0 ∧ K = 0 := by
      rcases unhide HR with ⟨h, _⟩ | ⟨_, h2, h3, _⟩
      · cases h
      · exact ⟨h2, h3⟩
    obtain ⟨rfl, rfl⟩ := h00
    have hq := ne_list hne
    have hq2 : (almT line κ).toList ≠ s.toList := by simpa using hq
    have hq3 : ((almT line κ).toList != s.toList) = true := by simpa using hq
    clear hne
    generalize almT line κ = V at hq hq2 hq3 ⊢
    go_wp2
    exact bodyPost_ret (v := .tuple #[.agg #[.int .i64 0, .int .i64 0], .bool false]) (by simp [results, Tryd.results10, go_sem, d0, d1]) rfl ⟨rfl, (((unhide HB2).2.setCell (by first | exact Nat.le_refl _ | omega) _).setCell (by first | exact Nat.le_refl _ | omega) _)⟩
  · have heq : almT line κ = s := by
      rcases unhide HR with ⟨_, _, h⟩ | ⟨h, _⟩
      · rw [((unhide HL) rfl).1, ((unhide HL) rfl).2, h]
      · cases h
    obtain ⟨rfl, rfl⟩ := (unhide HL) rfl
    rw [heq]
    clear heq
    go_wp2
    exact bodyPost_ret (v := .tuple #[.agg #[.int .i64 line, .int .i64 κ], .bool true]) (by simp [results, Tryd.results10, go_sem, d0, d1]) rfl ⟨rfl, (((unhide HB2).2.setCell (by first | exact Nat.le_refl _ | omega) _).setCell (by first | exact Nat.le_refl _ | omega) _)⟩
end Go.Proofs.YtghommnbnafmkaaDoor
