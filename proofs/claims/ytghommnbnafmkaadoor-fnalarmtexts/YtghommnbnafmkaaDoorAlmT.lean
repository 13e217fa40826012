/- Reading an alarm: the specification's function. -/
import Derived.Test.YtghommnbnafmkaaDoorAlmS
namespace Go.Proofs.YtghommnbnafmkaaDoor
open Go.RowKit
set_option linter.unusedSimpArgs false
set_option linter.unusedVariables false

theorem ne_list {a b : ByteArray} (h : ¬ a = b) : (a.toList == b.toList) = false := by
  rw [Lib.toList_data, Lib.toList_data]
  simp only [beq_eq_false_iff_ne, ne_eq]
  intro e
  exact h (ByteArray.ext (Array.ext' e))
/-- Two cells of the call's own. -/
def C2 (u : World) (b : Nat) (x y : Value) : Prop := u.cell? ⟨b, 0, none⟩ = some x ∧ u.cell? ⟨b, 1, none⟩ = some y ∧ (∀ o, u.frozen? ⟨b, o, none⟩ = false)
theorem C2.lt {u : World} {b : Nat} {x y : Value} (h : C2 u b x y) : b < u.heap.size := World.block_lt_of_cell? u _ h.1
theorem C2.call {u v : World} {b : Nat} {x y : Value} (h : C2 u b x y) (hb : Below u.heap.size u v) : C2 v b x y :=
  ⟨(hb.cell (by exact h.lt)).trans h.1, (hb.cell (by exact h.lt)).trans h.2.1, fun o => (hb.frozen (by exact h.lt)).trans (h.2.2 o)⟩
theorem C2.new (w : World) (x y : Value) (t : TypeId) : C2 (w.alloc (Obj.cells #[x, y] t)) w.heap.size x y := ⟨by simp [go_sem], by simp [go_sem], fun o => by simp [go_sem]⟩
/-- And nothing of an older world has turned. -/
def D2 (w : World) (x y : Value) (u : World) : Prop := C2 u w.heap.size x y ∧ Below w.heap.size w u
theorem D2.call {w u v : World} {x y : Value} (h : D2 w x y u) (hb : Below u.heap.size u v) : D2 w x y v := ⟨h.1.call hb, h.2.trans (hb.mono h.2.size)⟩
theorem D2.new (w : World) (x y : Value) (t : TypeId) : D2 w x y (w.alloc (Obj.cells #[x, y] t)) := ⟨C2.new w x y t, (Below.refl _ _).alloc (Nat.le_refl _) _⟩
/-- Its loop, whatever was cut and read: 'ok' says of each kind whether it is the one. -/
def Fits (s word : ByteArray) (line K : Int) (b : Bool) : Prop := ∀ k : Int, k = 1 ∨ k = 2 ∨ k = 4 ∨ k = 8 → ((wordK k = word ∧ almT line k = s) ↔ (b = true ∧ k = K))
theorem fits_of {s : ByteArray} {l K : Int} {b : Bool} (h : RA s l K b) (a t : ByteArray) (f : Bool) (line : Int) (hc : CutE s (.returned (.tuple #[.string a, .string t, .bool f]))) (hl : ∀ n : Nat, n < 100 → a = decB n → line = n) : Fits s t line K b ∧ (b = true → line = l ∧ (K = 1 ∨ K = 2 ∨ K = 4 ∨ K = 8)) ∧ (b = false → l = 0 ∧ K = 0) := by
  rcases h with ⟨rfl, h1, h2⟩ | ⟨rfl, rfl, rfl, h1⟩
  · obtain ⟨n, rfl, hn⟩ := almB_line h1
    have hk := almB_kind h1
    rw [h2] at hc
    have q := cut_alarm (by omega) h1 hc
    simp only [Ending.returned.injEq, Value.tuple.injEq, Array.mk.injEq, List.cons.injEq, Value.string.injEq, Value.bool.injEq, and_true] at q
    obtain ⟨rfl, rfl, rfl⟩ := q
    have el := hl n (by omega) rfl
    subst el
    refine ⟨fun k hk' => ⟨fun ⟨q1, q2⟩ => ⟨rfl, ?_⟩, fun ⟨_, q⟩ => ⟨by rw [q], by rw [q, h2]⟩⟩, fun _ => ⟨rfl, hk⟩, fun e => (by cases e)⟩
    rcases hk' with rfl | rfl | rfl | rfl <;> rcases hk with rfl | rfl | rfl | rfl <;> first | rfl | (exfalso; revert q1; decide)
  · refine ⟨fun k hk' => ⟨fun ⟨q1, q2⟩ => ?_, fun ⟨q, _⟩ => (by cases q)⟩, fun e => (by cases e), fun _ => ⟨rfl, rfl⟩⟩
    exfalso
    rcases h1 with h1 | h1
    · rw [h1] at hc
      have q := cut_empty hc
      simp only [Ending.returned.injEq, Value.tuple.injEq, Array.mk.injEq, List.cons.injEq, Value.string.injEq, Value.bool.injEq, and_true] at q
      obtain ⟨rfl, rfl, rfl⟩ := q
      rcases hk' with rfl | rfl | rfl | rfl <;> (revert q1; decide)
    · exact h1 _ _ q2
/-- What is read ahead of the blank. -/
theorem num_any (a : ByteArray) (ha : a.size ≤ 1048576) : ∃ v : Int, (∀ n : Nat, n < 100 → a = decB n → v = n) ∧ True := by
  by_cases h : ∃ n : Nat, n < 100 ∧ a = decB n
  · obtain ⟨n, h1, h2⟩ := h
    refine ⟨n, fun m hm e => ?_, trivial⟩
    have p := parse_dec n h1
    rw [← h2, e, parse_dec m hm] at p
    exact (Lib.NumEnd.ok.inj p).symm
  · exact ⟨0, fun n h1 h2 => absurd ⟨n, h1, h2⟩ h, trivial⟩
/-- A number read, and what it is at a small number's text. -/
def NumP (a : ByteArray) (e : Ending) : Prop := ∃ (n : Int) (b : Bool), e = .returned (.tuple #[.int .i64 n, .bool b]) ∧ ∀ m : Nat, m < 100 → a = decB m → n = m
theorem l1NumP_c (a : ByteArray) (ha : a.size ≤ 1048576) (w : World) : Calls Tryd.prog 24 #[.string a] w fun e w' => NumP a e ∧ Below w.heap.size w w' := by
  by_cases h : ∃ n : Nat, n < 100 ∧ a = decB n
  · obtain ⟨n, h1, rfl⟩ := h
    refine (l1NumD_c n h1 w).mono ?_
    rintro e u ⟨rfl, kb⟩
    refine ⟨⟨n, true, rfl, fun m hm e => ?_⟩, kb⟩
    have p := parse_dec n h1
    rw [e, parse_dec m hm] at p
    exact (Lib.NumEnd.ok.inj p).symm
  · refine (l1Num_c a ha w).mono ?_
    rintro e u ⟨⟨n, b, rfl⟩, kb⟩
    exact ⟨⟨n, b, rfl, fun m hm e => absurd ⟨m, hm, e⟩ h⟩, kb⟩
theorem cut_sizes {s a t : ByteArray} {f : Bool} (h : CutE s (.returned (.tuple #[.string a, .string t, .bool f]))) : a.size ≤ s.size := by
  rcases h with ⟨k, hk, _, _, e⟩ | ⟨_, e⟩
  · simp only [Ending.returned.injEq, Value.tuple.injEq, Array.mk.injEq, List.cons.injEq, Value.string.injEq, Value.bool.injEq, and_true] at e
    obtain ⟨rfl, _⟩ := e
    rw [ByteArray.size_extract]
    omega
  · simp only [Ending.returned.injEq, Value.tuple.injEq, Array.mk.injEq, List.cons.injEq, Value.string.injEq, Value.bool.injEq, and_true] at e
    obtain ⟨rfl, _⟩ := e
    exact Nat.le_refl _
set_option maxRecDepth 20000 in
set_option maxHeartbeats 16000000 in
theorem sReadAlarm_c (s : ByteArray) (hs : s.size ≤ 1048576) (l K : Int) (b : Bool) (hr : RA s l K b) (w : World) : Calls Tryd.prog 11 #[.string s] w fun e w' => e = .returned (.tuple #[.agg #[.int .i64 l, .int .i64 K], .bool b]) ∧ Below w.heap.size w w' := by
  have HR := hide hr
  have HB := hide (D2.new w (.int .i64 0) (.int .i64 0) 25)
  clear hr
  go_enter Tryd.func11, Tryd.ntmps11
  go_upto_region 1 with fail
  generalize w.alloc (Obj.cells #[.int .i64 0, .int .i64 0] 25) = u at HB ⊢
  go_wp2_with fail
  refine (l1Cut_c s hs _).mono ?_
  rintro e u1 ⟨hc, kb⟩
  obtain ⟨a, t, f, rfl⟩ := cut_tuple hc
  have HB := hide ((unhide HB).call kb)
  have HS := hide (cut_sizes hc)
  have HC := hide hc
  clear hc kb
  go_wp2_with fail
  refine (l1NumP_c a (Nat.le_trans (unhide HS) hs) _).mono ?_
  rintro e u2 ⟨⟨line, okn, rfl, hl⟩, kb⟩
  have HB := hide ((unhide HB).call kb)
  have HF := hide (fits_of (unhide HR) a t f line (unhide HC) hl)
  clear hl kb HC HS
  go_wp2
  go_loopw [9] (fun k wr => ∃ kk : Int, (kk = 1 ∨ kk = 2 ∨ kk = 4 ∨ kk = 8 ∨ kk = 16) ∧ k = .int .i64 kk ∧ (b = true → kk ≤ K) ∧ D2 w (.int .i64 0) (.int .i64 0) wr) (fun k _ => 16 - (intOf k).toNat)
  case atStart => exact ⟨1, .inl rfl, rfl, fun e => by rcases ((unhide HF).2.1 e).2 with h | h | h | h <;> omega, unhide HB⟩
  case round =>
    obtain ⟨kk, hkk, rfl, hle, hd⟩ := hrel
    have HLE := hide hle
    have HD := hide hd
    clear hle hd
    by_cases h16 : kk = 16
    · subst h16
      have hb : b = false := by
        cases b
        · rfl
        · exfalso
          have := (unhide HLE) rfl
          rcases ((unhide HF).2.1 rfl).2 with h | h | h | h <;> omega
      have h00 := (unhide HF).2.2 hb
      have c0 := (unhide HD).1.1
      have c1 := (unhide HD).1.2.1
      have f0 := (unhide HD).1.2.2 0
      have f1 := (unhide HD).1.2.2 1
      clear hkk
      go_wp2
      exact bodyPost_ret (v := .tuple #[.agg #[.int .i64 0, .int .i64 0], .bool false]) (by simp [results, Tryd.results11, go_sem, c0, c1]) rfl ⟨by rw [hb, h00.1, h00.2], (((unhide HD).2.setCell (by first | exact Nat.le_refl _ | omega) _).setCell (by first | exact Nat.le_refl _ | omega) _)⟩
    · have hk4 : kk = 1 ∨ kk = 2 ∨ kk = 4 ∨ kk = 8 := by omega
      have HT := hide ((unhide HF).1 kk hk4)
      have HA := hide (D2.new wr (.int .i64 line) (.int .i64 kk) 25)
      have HD2 := hide ((unhide HD).call (unhide HA).2)
      have e8 : kk ≤ 8 := by omega
      have e1 : 1 ≤ kk := by omega
      clear hkk
      go_upto_region 7 with fail
      generalize wr.alloc (Obj.cells #[.int .i64 line, .int .i64 kk] 25) = x at HA HD2 ⊢
      go_wp2_with fail
      refine (l13Kind_c kk _).mono ?_
      rintro e x1 ⟨rfl, rfl⟩
      by_cases hw : wordK kk = t
      · have HT2 : Hid ((almT line kk = s) ↔ (b = true ∧ kk = K)) := ⟨fun q => (unhide HT).1 ⟨hw, q⟩, fun q => ((unhide HT).2 q).2⟩
        clear HT
        generalize wordK kk = W at hw ⊢
        subst hw
        have p0 := (unhide HA).1.1
        have p1 := (unhide HA).1.2.1
        go_wp2_with fail
        refine (sAlarmText_c line kk _).mono ?_
        rintro e x2 ⟨rfl, kb⟩
        have HA := hide ((unhide HA).call kb)
        have HD2 := hide ((unhide HD2).call kb)
        clear kb p0 p1
        by_cases hs2 : almT line kk = s
        · have hbk := (unhide HT2).1 hs2
          have hlk := (unhide HF).2.1 hbk.1
          clear HT2
          generalize almT line kk = V at hs2 ⊢
          subst hs2
          have a0 := (unhide HA).1.1
          have a1 := (unhide HA).1.2.1
          have c0 := (unhide HD2).1.1
          have c1 := (unhide HD2).1.2.1
          have f0 := (unhide HD2).1.2.2 0
          have f1 := (unhide HD2).1.2.2 1
          go_wp2
          exact bodyPost_ret (v := .tuple #[.agg #[.int .i64 l, .int .i64 K], .bool true]) (by simp [results, Tryd.results11, go_sem, c0, c1]) rfl ⟨by rw [hbk.1], (((unhide HD2).2.setCell (by first | exact Nat.le_refl _ | omega) _).setCell (by first | exact Nat.le_refl _ | omega) _)⟩
        · have hnb : ¬ (b = true ∧ kk = K) := fun h => hs2 ((unhide HT2).2 h)
          have hq := ne_list hs2
          clear HT2
          generalize almT line kk = V at hs2 hq ⊢
          go_wp2
          exact ⟨⟨2 * kk, by omega, rfl, fun e => by have h1 := (unhide HLE) e; rcases ((unhide HF).2.1 e).2 with h | h | h | h <;> (have : ¬ kk = K := fun q => hnb ⟨e, q⟩; omega), unhide HD2⟩, by simp [intOf]; omega⟩
      · have hnb : ¬ (b = true ∧ kk = K) := fun h => hw ((unhide HT).2 h).1
        have hq := ne_list hw
        generalize wordK kk = W at hw HT hq ⊢
        go_wp2
        exact ⟨⟨2 * kk, by omega, rfl, fun e => by have h1 := (unhide HLE) e; rcases ((unhide HF).2.1 e).2 with h | h | h | h <;> (have : ¬ kk = K := fun q => hnb ⟨e, q⟩; omega), unhide HD2⟩, by simp [intOf]; omega⟩
end Go.Proofs.YtghommnbnafmkaaDoor
