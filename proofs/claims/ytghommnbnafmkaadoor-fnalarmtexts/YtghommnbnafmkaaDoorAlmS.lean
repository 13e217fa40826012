/- What reading an alarm gives. -/
import Derived.Test.YtghommnbnafmkaaDoorAlmP
namespace Go.Proofs.YtghommnbnafmkaaDoor
open Go.RowKit
set_option linter.unusedSimpArgs false
set_option linter.unusedVariables false

/-- What is read, and whether it is an alarm. -/
def RA (s : ByteArray) (l k : Int) (b : Bool) : Prop := (b = true ∧ almB l k = true ∧ s = almT l k) ∨ (b = false ∧ l = 0 ∧ k = 0 ∧ (s = ⟨#[]⟩ ∨ ∀ l k, almT l k ≠ s))
theorem almT_no {l k : Int} (h : ¬ almB l k = true) : almT l k = ⟨#[]⟩ := if_neg h
theorem RA_ex (s : ByteArray) : ∃ l k b, RA s l k b := by
  by_cases h : ∃ l k, almT l k = s
  · obtain ⟨l, k, h⟩ := h
    by_cases q : almB l k = true
    · exact ⟨l, k, true, .inl ⟨rfl, q, h.symm⟩⟩
    · exact ⟨0, 0, false, .inr ⟨rfl, rfl, rfl, .inl (h.symm.trans (almT_no q))⟩⟩
  · exact ⟨0, 0, false, .inr ⟨rfl, rfl, rfl, .inr fun l k e => h ⟨l, k, e⟩⟩⟩
theorem cut_at {A B : List UInt8} (hA : ∀ c ∈ A, c ≠ 32) {s : ByteArray} (hs : s = ⟨(A ++ 32 :: B).toArray⟩) {e : Ending} (h : CutE s e) : e = .returned (.tuple #[.string ⟨A.toArray⟩, .string ⟨B.toArray⟩, .bool true]) := by
  have hl : s.data.toList = A ++ 32 :: B := by rw [hs]
  have hz : s.size = A.length + (B.length + 1) := by
    have : s.data.toList.length = s.size := Array.length_toList
    rw [← this, hl]
    simp
  have h32 : ∃ q : A.length < s.size, (s[A.length].toNat : Int) = 32 := by
    refine ⟨by omega, ?_⟩
    have q := list_at s A.length (by omega)
    rw [hl, List.getElem?_append_right (Nat.le_refl _)] at q
    simp at q
    rw [← q]
    rfl
  rcases h with ⟨k, hk, hn, h3, rfl⟩ | ⟨hn, rfl⟩
  · have ek : k = A.length := by
      rcases Nat.lt_trichotomy k A.length with q | q | q
      · exfalso
        have r := list_at s k hk
        rw [hl, List.getElem?_append_left q, List.getElem?_eq_getElem q] at r
        exact hA _ (List.getElem_mem q) ((Option.some.inj r).trans ((nat_u8 _).1 h3))
      · exact q
      · obtain ⟨q1, q2⟩ := h32
        exact absurd q2 (hn A.length q1 q)
    subst ek
    have e1 : s.extract 0 A.length = ⟨A.toArray⟩ := by
      apply ByteArray.ext
      apply Array.ext'
      rw [ByteArray.data_extract, Array.toList_extract, hl]
      simp [List.extract]
    have e2 : s.extract (A.length + 1) s.size = ⟨B.toArray⟩ := by
      apply ByteArray.ext
      apply Array.ext'
      rw [ByteArray.data_extract, Array.toList_extract, hl, hz]
      simp [List.extract]
      exact List.take_of_length_le (by omega)
    rw [e1, e2]
  · obtain ⟨q1, q2⟩ := h32
    exact absurd q2 (hn A.length q1 (by omega))
theorem cut_empty {e : Ending} (h : CutE ⟨#[]⟩ e) : e = .returned (.tuple #[.string ⟨#[]⟩, .string ⟨#[]⟩, .bool false]) := by
  rcases h with ⟨k, hk, _⟩ | ⟨_, rfl⟩
  · exact absurd hk (Nat.not_lt_zero k)
  · rfl
theorem dec_blank (m : Nat) (h : m < 100) : ∀ c ∈ Lib.decDigits m, c ≠ 32 := by
  have z : ∀ q : Nat, q < 10 → UInt8.ofNat (48 + q) ≠ 32 := by
    intro q hq e
    have := congrArg UInt8.toNat e
    rw [UInt8.toNat_ofNat'] at this
    have e3 : (32 : UInt8).toNat = 32 := rfl
    omega
  intro c hc
  by_cases h1 : m < 10
  · rw [Lib.decDigits_one h1, List.mem_singleton] at hc
    rw [hc]
    exact z m h1
  · rw [Lib.decDigits_two h1 h, List.mem_cons, List.mem_singleton] at hc
    rcases hc with rfl | rfl
    · exact z _ (by omega)
    · exact z _ (by omega)
theorem alm_form {n : Nat} {k : Int} (h : almB n k = true) : almT n k = ⟨(Lib.decDigits n ++ 32 :: (wordK k).data.toList).toArray⟩ := by
  unfold almT
  rw [if_pos h]
  apply ByteArray.ext
  apply Array.ext'
  simp [decB]
/-- The parts of an alarm's text. -/
theorem cut_alarm {n : Nat} {k : Int} (hn : n < 100) (h : almB n k = true) {e : Ending} (hc : CutE (almT n k) e) : e = .returned (.tuple #[.string (decB n), .string (wordK k), .bool true]) := by
  have q := cut_at (dec_blank n hn) (alm_form h) hc
  rw [q]
  rfl
theorem almT_ne {l k : Int} (h : almB l k = true) : (almT l k).toList.isEmpty = false ∧ almT l k ≠ ⟨#[]⟩ := by
  obtain ⟨n, rfl, hn⟩ := almB_line h
  have hne : almT n k ≠ ⟨#[]⟩ := by
    rw [alm_form h]
    intro e
    have := congrArg (fun b : ByteArray => b.data.toList.length) e
    simp at this
  refine ⟨?_, hne⟩
  cases q : (almT (n : Int) k).toList.isEmpty
  · rfl
  · exfalso
    rw [Lib.toList_data, List.isEmpty_iff] at q
    exact hne (ByteArray.ext (Array.ext' q))
/-- Words of kinds are unlike. -/
theorem word_inj : ∀ a ∈ [1, 2, 4, 8], ∀ b : Fin 9, wordK a = wordK (b.val : Int) → (a : Int) = (b.val : Int) := by decide
end Go.Proofs.YtghommnbnafmkaaDoor
