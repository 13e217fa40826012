/- Texts cut at a byte, numbers read: the program's. -/
import Derived.Test.YtppchebikafmeaaDoorRdM
import Derived.Test.YtppchebikafmeaaDoorShg
import Derived.Lib.IndexLaws
import Derived.Lib.ParseIntBCases
import Derived.Lib.SmallJoins
namespace Go.Proofs.YtppchebikafmeaaDoor
open Go.RowKit
set_option linter.unusedSimpArgs false
set_option linter.unusedVariables false

theorem list_at (s : ByteArray) (k : Nat) (h : k < s.size) : s.data.toList[k]? = some s[k] := by
  have e : s.data.toList.length = s.size := Array.length_toList
  rw [List.getElem?_eq_getElem (by omega)]
  simp [ByteArray.getElem_eq_getElem_data]
theorem nat_u8 (c d : UInt8) : (c.toNat : Int) = (d.toNat : Int) ↔ c = d := by
  constructor
  · intro h
    have : c.toNat = d.toNat := by omega
    exact UInt8.toNat_inj.1 this
  · rintro rfl
    rfl
/-- Where the first blank is. -/
theorem first_blank (c : UInt8) (s : ByteArray) : (∃ k : Nat, ∃ h : k < s.size, Lib.indexByte s.data.toList c = (k : Int) ∧ NoB (c.toNat : Int) s k ∧ (s[k].toNat : Int) = (c.toNat : Int)) ∨ (Lib.indexByte s.data.toList c = -1 ∧ NoB (c.toNat : Int) s s.size) := by
  have hg := Lib.indexByte_ge s.data.toList c
  by_cases h : Lib.indexByte s.data.toList c = -1
  · right
    refine ⟨h, fun i hi _ e => ?_⟩
    exact Lib.indexByte_none h i ((list_at s i hi).trans (congrArg some ((nat_u8 _ _).1 e)))
  · left
    obtain ⟨k, hk⟩ : ∃ k : Nat, Lib.indexByte s.data.toList c = (k : Int) := ⟨(Lib.indexByte s.data.toList c).toNat, by omega⟩
    obtain ⟨h1, h2⟩ := Lib.indexByte_some hk
    have hlt : k < s.size := by
      have e : s.data.toList.length = s.size := Array.length_toList
      by_cases q : k < s.size
      · exact q
      · rw [List.getElem?_eq_none (by omega)] at h1
        cases h1
    rw [list_at s k hlt] at h1
    refine ⟨k, hlt, hk, fun i hi hik e => ?_, (nat_u8 _ _).2 (Option.some.inj h1)⟩
    exact h2 i hik ((list_at s i hi).trans (congrArg some ((nat_u8 _ _).1 e)))
set_option maxRecDepth 20000 in
set_option maxHeartbeats 4000000 in
theorem slCut_c (c : UInt8) (s : ByteArray) (hs : s.size ≤ 1048576) (w : World) : Calls Tryd.prog 52 #[.string s, .string ⟨#[c]⟩] w fun e w' => CutE (c.toNat : Int) s e ∧ Below w.heap.size w w' := by
  have hs' : (s.size : Int) ≤ 1048576 := by omega
  have hix := Tryd.stringslite_Index_one s c w
  have z0 : (⟨#[c]⟩ : ByteArray).size = 1 := rfl
  rcases first_blank c s with ⟨k, hlt, he, hn, hb⟩ | ⟨he, hn⟩
  · rw [he] at hix
    have HX := hide hix
    have HA := hide hn
    have hlt' : (k : Int) < (s.size : Int) := by omega
    have z1 : (k : Int) ≤ (s.size : Int) := by omega
    have z2 : (k : Int) + 1 ≤ (s.size : Int) := by omega
    have z3 : 0 ≤ (k : Int) + 1 := by omega
    have z4 : IntKind.i64.wrap ((k : Int) + 1) = (k : Int) + 1 := by rw [IntKind.wrap_i64]; omega
    clear hix hn he
    go_enter Tryd.func52, Tryd.ntmps52
    go_wp2_with fail
    refine (unhide HX).mono ?_
    rintro e u ⟨rfl, rfl⟩
    go_wp2
    go_region_held3 (fun x => Below u.heap.size u x)
      (first | exact (Below.refl _ _).drew | assumption)
      (fail)
    all_goals
      go_wp2
      exact bodyPost_ret (v := .tuple #[.string (s.extract 0 k), .string (s.extract (k + 1) s.size), .bool true]) (by simp [results, Tryd.results52, go_sem]) rfl ⟨.inl ⟨k, hlt, unhide HA, hb, rfl⟩, by assumption⟩
  · rw [he] at hix
    have HX := hide hix
    have HA := hide hn
    clear hix hn he
    go_enter Tryd.func52, Tryd.ntmps52
    go_wp2_with fail
    refine (unhide HX).mono ?_
    rintro e u ⟨rfl, rfl⟩
    go_wp2
    exact bodyPost_ret (v := .tuple #[.string s, .string ⟨#[]⟩, .bool false]) (by simp [results, Tryd.results52, go_sem]) rfl ⟨.inr ⟨unhide HA, rfl⟩, Below.refl _ _⟩
theorem cut_tuple {c : Int} {s : ByteArray} {e : Ending} (h : CutE c s e) : ∃ a b f, e = .returned (.tuple #[.string a, .string b, .bool f]) := by
  rcases h with ⟨k, _, _, _, rfl⟩ | ⟨_, rfl⟩
  · exact ⟨_, _, _, rfl⟩
  · exact ⟨_, _, _, rfl⟩
set_option maxHeartbeats 4000000 in
theorem cut_c (c : UInt8) (s : ByteArray) (hs : s.size ≤ 1048576) (w : World) : Calls Tryd.prog 44 #[.string s, .string ⟨#[c]⟩] w fun e w' => CutE (c.toNat : Int) s e ∧ Below w.heap.size w w' := by
  go_enter Tryd.func44, Tryd.ntmps44
  go_wp2_with fail
  refine (slCut_c c s hs _).mono ?_
  rintro e u ⟨hc, kb⟩
  obtain ⟨a, b, f, rfl⟩ := cut_tuple hc
  have HC := hide hc
  have HK := hide kb
  clear hc kb
  go_wp2
  exact bodyPost_ret (v := .tuple #[.string a, .string b, .bool f]) (by simp [results, Tryd.results44, go_sem]) rfl ⟨unhide HC, unhide HK⟩
/-- The errors that strconv's variables hold. -/
def ERR (w : World) : Prop := (∃ t p, w.cell? ⟨2, 0, none⟩ = some (.iface t p)) ∧ (∃ t p, w.cell? ⟨3, 0, none⟩ = some (.iface t p))
theorem ERR.call {w w1 : World} (h : ERR w) (hb : Below w.heap.size w w1) : ERR w1 := by
  obtain ⟨⟨t, p, h1⟩, t2, p2, h2⟩ := h
  exact ⟨⟨t, p, (hb.cell (World.block_lt_of_cell? w _ h1)).trans h1⟩, t2, p2, (hb.cell (World.block_lt_of_cell? w _ h2)).trans h2⟩
/-- Some number. -/
def IntR (e : Ending) : Prop := ∃ n : Int, e = .returned (.int .i64 n)
theorem parse_small : ∀ m : Fin 100, Lib.parseIntB 64 (if m.val < 10 then [UInt8.ofNat (48 + m.val)] else [UInt8.ofNat (48 + m.val / 10), UInt8.ofNat (48 + m.val % 10)]) = .ok (m.val : Int) := by decide
theorem parse_dec (m : Nat) (h : m < 100) : Lib.parseIntB 64 (decB m).data.toList = .ok (m : Int) := by
  have q := parse_small ⟨m, h⟩
  by_cases h1 : m < 10
  · rw [if_pos h1] at q
    show Lib.parseIntB 64 (Lib.decDigits m) = _
    rw [Lib.decDigits_one h1]
    exact q
  · rw [if_neg h1] at q
    show Lib.parseIntB 64 (Lib.decDigits m) = _
    rw [Lib.decDigits_two h1 h]
    exact q
set_option maxRecDepth 20000 in
set_option maxHeartbeats 4000000 in
theorem likely_c (s : ByteArray) (hs : s.size ≤ 1048576) (w : World) (he : ERR w) : Calls Tryd.prog 45 #[.string s] w fun e w' => IntR e ∧ Below w.heap.size w w' := by
  obtain ⟨⟨t, p, h1⟩, t2, p2, h2⟩ := he
  cases hp : Lib.parseIntB 64 s.data.toList
  case ok v =>
    have K := Tryd.strconv_ParseInt_10_at64_ok s (by omega) v hp w
    have HK := hide K
    clear K hp h1 h2
    go_enter Tryd.func45, Tryd.ntmps45
    go_wp2_with fail
    refine (unhide HK).mono ?_
    rintro e u ⟨rfl, hu⟩
    have HB : Hid (Below w.heap.size w u) := by
      rcases hu with rfl | ⟨t, rfl⟩
      · exact Below.refl _ _
      · exact Joins.below_bytesWorld _ _ _ _ (Nat.le_refl _)
    clear hu HK
    go_wp2
    go_ret
    exact ⟨⟨v, rfl⟩, unhide HB⟩
  case «syntax» =>
    have K := Tryd.strconv_ParseInt_10_at64_syntax s (by omega) hp _ w h1 (.inr ⟨t, p, rfl⟩)
    have HK := hide K
    clear K hp h1 h2
    go_enter Tryd.func45, Tryd.ntmps45
    go_wp2_with fail
    refine (unhide HK).mono ?_
    rintro e u ⟨N, rfl, _, _, kb⟩
    have HB := hide kb
    clear kb HK
    go_wp2
    go_ret
    exact ⟨⟨0, rfl⟩, unhide HB⟩
  case range =>
    have K := Tryd.strconv_ParseInt_10_at64_range s (by omega) hp _ w h2 (.inr ⟨t2, p2, rfl⟩)
    generalize Lib.intSat 64 s.data.toList = v at K
    have HK := hide K
    clear K hp h1 h2
    go_enter Tryd.func45, Tryd.ntmps45
    go_wp2_with fail
    refine (unhide HK).mono ?_
    rintro e u ⟨N, rfl, _, _, kb⟩
    have HB := hide kb
    clear kb HK
    go_wp2
    go_ret
    exact ⟨⟨v, rfl⟩, unhide HB⟩
set_option maxRecDepth 20000 in
set_option maxHeartbeats 4000000 in
theorem likelyD_c (m : Nat) (hm : m < 100) (w : World) : Calls Tryd.prog 45 #[.string (decB m)] w fun e w' => e = .returned (.int .i64 (m : Int)) ∧ Below w.heap.size w w' := by
  have K := Tryd.strconv_ParseInt_10_at64_ok (decB m) (by have := decB_size m hm; omega) m (parse_dec m hm) w
  generalize decB m = s at K ⊢
  have HK := hide K
  clear K
  go_enter Tryd.func45, Tryd.ntmps45
  go_wp2_with fail
  refine (unhide HK).mono ?_
  rintro e u ⟨rfl, hu⟩
  have HB : Hid (Below w.heap.size w u) := by
    rcases hu with rfl | ⟨t, rfl⟩
    · exact Below.refl _ _
    · exact Joins.below_bytesWorld _ _ _ _ (Nat.le_refl _)
  clear hu HK
  go_wp2
  go_ret
  exact ⟨rfl, unhide HB⟩
end Go.Proofs.YtppchebikafmeaaDoor
