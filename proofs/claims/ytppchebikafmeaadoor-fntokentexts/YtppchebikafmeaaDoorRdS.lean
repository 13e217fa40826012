/- The parts of a text; numbers read. -/
import Derived.Test.YtppchebikafmeaaDoorRdP
namespace Go.Proofs.YtppchebikafmeaaDoor
open Go.RowKit
set_option linter.unusedSimpArgs false
set_option linter.unusedVariables false

theorem cut_at {d : UInt8} {A B : List UInt8} (hA : ∀ c ∈ A, c ≠ d) {s : ByteArray} (hs : s = ⟨(A ++ d :: B).toArray⟩) {e : Ending} (h : CutE (d.toNat : Int) s e) : e = .returned (.tuple #[.string ⟨A.toArray⟩, .string ⟨B.toArray⟩, .bool true]) := by
  have hl : s.data.toList = A ++ d :: B := by rw [hs]
  have hz : s.size = A.length + (B.length + 1) := by
    have : s.data.toList.length = s.size := Array.length_toList
    rw [← this, hl]
    simp
  have h32 : ∃ q : A.length < s.size, (s[A.length].toNat : Int) = (d.toNat : Int) := by
    refine ⟨by omega, ?_⟩
    have q := list_at s A.length (by omega)
    rw [hl, List.getElem?_append_right (Nat.le_refl _)] at q
    simp at q
    rw [← q]
  rcases h with ⟨k, hk, hn, h3, rfl⟩ | ⟨hn, rfl⟩
  · have ek : k = A.length := by
      rcases Nat.lt_trichotomy k A.length with q | q | q
      · exfalso
        have r := list_at s k hk
        rw [hl, List.getElem?_append_left q, List.getElem?_eq_getElem q] at r
        exact hA _ (List.getElem_mem q) ((Option.some.inj r).trans ((nat_u8 _ _).1 h3))
      · exact q
      · obtain ⟨q1, q2⟩ := h32
        exact absurd q2 (hn A.length q1 q)
    subst ek
    have e1 : s.extract 0 A.length = ⟨A.toArray⟩ := by
      apply ByteArray.ext
      apply Array.ext'
      rw [ByteArray.data_extract, Array.toList_extract, hl]
      simp [List.extract]
    have e2 : s.extract (A.length + 1) s.size = ⟨B.toArray⟩ := by
      apply ByteArray.ext
      apply Array.ext'
      rw [ByteArray.data_extract, Array.toList_extract, hl, hz]
      simp [List.extract]
      exact List.take_of_length_le (by omega)
    rw [e1, e2]
  · obtain ⟨q1, q2⟩ := h32
    exact absurd q2 (hn A.length q1 (by omega))
theorem dec_blank (d : UInt8) (hd : d = 32 ∨ d = 58) (m : Nat) (h : m < 100) : ∀ c ∈ Lib.decDigits m, c ≠ d := by
  have z : ∀ q : Nat, q < 10 → UInt8.ofNat (48 + q) ≠ d := by
    intro q hq e
    have := congrArg UInt8.toNat e
    rw [UInt8.toNat_ofNat'] at this
    have e3 : (32 : UInt8).toNat = 32 := rfl
    have e4 : (58 : UInt8).toNat = 58 := rfl
    rcases hd with rfl | rfl <;> omega
  intro c hc
  by_cases h1 : m < 10
  · rw [Lib.decDigits_one h1, List.mem_singleton] at hc
    rw [hc]
    exact z m h1
  · rw [Lib.decDigits_two h1 h, List.mem_cons, List.mem_singleton] at hc
    rcases hc with rfl | rfl
    · exact z _ (by omega)
    · exact z _ (by omega)
theorem ne_list {a b : ByteArray} (h : ¬ a = b) : (a.toList == b.toList) = false := by
  rw [Lib.toList_data, Lib.toList_data]
  simp only [beq_eq_false_iff_ne, ne_eq]
  intro e
  exact h (ByteArray.ext (Array.ext' e))
/-- A number read, and what it is at a small number's text. -/
def NumP (a : ByteArray) (e : Ending) : Prop := ∃ (n : Int) (b : Bool), e = .returned (.tuple #[.int .i64 n, .bool b]) ∧ ∀ m : Nat, m < 100 → a = decB m → n = m
theorem l1NumP_c (a : ByteArray) (ha : a.size ≤ 1048576) (w : World) : Calls Tryd.prog 31 #[.string a] w fun e w' => NumP a e ∧ Below w.heap.size w w' := by
  by_cases h : ∃ n : Nat, n < 100 ∧ a = decB n
  · obtain ⟨n, h1, rfl⟩ := h
    refine (l1NumD_c n h1 w).mono ?_
    rintro e u ⟨rfl, kb⟩
    refine ⟨⟨n, true, rfl, fun m hm e => ?_⟩, kb⟩
    have p := parse_dec n h1
    rw [e, parse_dec m hm] at p
    exact (Lib.NumEnd.ok.inj p).symm
  · refine (l1Num_c a ha w).mono ?_
    rintro e u ⟨⟨n, b, rfl⟩, kb⟩
    exact ⟨⟨n, b, rfl, fun m hm e => absurd ⟨m, hm, e⟩ h⟩, kb⟩
theorem cut_sizes {c : Int} {s a t : ByteArray} {f : Bool} (h : CutE c s (.returned (.tuple #[.string a, .string t, .bool f]))) : a.size ≤ s.size ∧ t.size ≤ s.size := by
  rcases h with ⟨k, hk, _, _, e⟩ | ⟨_, e⟩
  · simp only [Ending.returned.injEq, Value.tuple.injEq, Array.mk.injEq, List.cons.injEq, Value.string.injEq, Value.bool.injEq, and_true] at e
    obtain ⟨rfl, rfl, _⟩ := e
    rw [ByteArray.size_extract, ByteArray.size_extract]
    omega
  · simp only [Ending.returned.injEq, Value.tuple.injEq, Array.mk.injEq, List.cons.injEq, Value.string.injEq, Value.bool.injEq, and_true] at e
    obtain ⟨rfl, rfl, _⟩ := e
    exact ⟨Nat.le_refl _, Nat.zero_le _⟩
/-- A number read, and what it is at a small number's text. -/
def LikP (a : ByteArray) (e : Ending) : Prop := ∃ n : Int, e = .returned (.int .i64 n) ∧ ∀ m : Nat, m < 100 → a = decB m → n = m
theorem likP_c (a : ByteArray) (ha : a.size ≤ 1048576) (w : World) (he : ERR w) : Calls Tryd.prog 45 #[.string a] w fun e w' => LikP a e ∧ Below w.heap.size w w' := by
  by_cases h : ∃ n : Nat, n < 100 ∧ a = decB n
  · obtain ⟨n, h1, rfl⟩ := h
    refine (likelyD_c n h1 w).mono ?_
    rintro e u ⟨rfl, kb⟩
    refine ⟨⟨n, rfl, fun m hm e => ?_⟩, kb⟩
    have p := parse_dec n h1
    rw [e, parse_dec m hm] at p
    exact (Lib.NumEnd.ok.inj p).symm
  · refine (likely_c a ha w he).mono ?_
    rintro e u ⟨⟨n, rfl⟩, kb⟩
    exact ⟨⟨n, rfl, fun m hm e => absurd ⟨m, hm, e⟩ h⟩, kb⟩
end Go.Proofs.YtppchebikafmeaaDoor
