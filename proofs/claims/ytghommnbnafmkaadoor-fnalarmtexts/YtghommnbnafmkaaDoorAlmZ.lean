/- The law on alarms' texts: its walk. -/
import Derived.Test.YtghommnbnafmkaaDoorAlmY
import Derived.Test.YtghommnbnafmkaaDoorAlmW
namespace Go.Proofs.YtghommnbnafmkaaDoor
open Go.RowKit Go.Iv
set_option linter.unusedSimpArgs false
set_option linter.unusedVariables false

def IsRow (k : IntKind) (w : World) (a : Option Addr) (len cap : Nat) (zs : List Int) : Prop :=
  (a = none ∧ len = 0 ∧ cap = 0 ∧ zs = []) ∨
  ∃ x, a = some x ∧ len ≤ cap ∧ cap ≤ maxLen ∧ zs.length = cap ∧ (∀ i, i < zs.length → w.cell? (x.add i) = some (.int k (zs.getD i 0))) ∧ ∀ n ∈ zs, (Lit.int k n).wf = true
theorem rdr_call {u v : World} {b : Nat} {a : Option Addr} {len cap : Nat} (h : Rdr u b a len cap) (hb : Below u.heap.size u v) : Rdr v b a len cap := by
  obtain ⟨⟨p, hp, hh⟩, hc, hn⟩ := h
  exact ⟨⟨p, hp, (hb.block b (Array.getElem?_eq_some_iff.1 hh).1).trans hh⟩, hc.below hb, hn⟩
theorem almT_size (l k : Int) : (almT l k).size ≤ 10 := by
  by_cases h : almB l k = true
  · obtain ⟨n, rfl, hn⟩ := almB_line h
    unfold almT
    rw [if_pos h, ByteArray.size_append, ByteArray.size_append]
    have h1 := decB_size n (by omega)
    have h2 := wordK_size k
    have h3 : (⟨#[32]⟩ : ByteArray).size = 1 := rfl
    simp only [Int.toNat_natCast]
    omega
  · rw [almT_no h]
    decide
set_option maxRecDepth 20000 in
set_option maxHeartbeats 8000000 in
theorem DrawReadAlarm_c (a : Option Addr) (len cap : Nat) (w : World) (h : Code w a len) : Calls Tryd.prog 9 #[.slice a len cap] w fun e w' => StrR 11 e ∧ Below w.heap.size w w' := by
  have HC := hide h
  clear h
  go_enter Tryd.func9, Tryd.ntmps9
  go_wp2_with fail
  refine (open_c a len cap _).mono ?_
  rintro e u1 ⟨rfl, he⟩
  have hl := open_rdr a len cap w (unhide HC)
  rw [← he] at hl
  have HR := hide hl.1
  have HB := hide (hl.2.below (Nat.le_refl _) (Nat.le_refl _))
  clear hl he
  go_wp2_with fail
  refine (DrawAlarmText_c a len cap _ (unhide HR).2.1).mono ?_
  rintro e u2 ⟨⟨l, k, rfl⟩, kb⟩
  have HR := hide (rdr_call (unhide HR) kb)
  have HB := hide ((unhide HB).trans (kb.mono (unhide HB).size))
  clear kb
  go_wp2_with fail
  refine (sAlarmText_c l k _).mono ?_
  rintro e u3 ⟨rfl, kb⟩
  have HR := hide (rdr_call (unhide HR) kb)
  have HB := hide ((unhide HB).trans (kb.mono (unhide HB).size))
  have hz := almT_size l k
  generalize almT l k = s at hz ⊢
  have HZ := hide hz
  clear kb hz
  go_wp2_with fail
  refine (once_c _ _ _ _ _ (by decide) (by decide) _ (unhide HR)).mono ?_
  rintro e u4 ⟨r, rfl, hl⟩
  have HR := hide hl.1
  have HB := hide ((unhide HB).trans (hl.2.below (Nat.le_refl _) (unhide HB).size))
  clear hl
  cases r
  · go_wp2
    go_ret
    exact ⟨⟨s, rfl, by have := unhide HZ; omega⟩, unhide HB⟩
  · go_wp2_with fail
    refine (hurt_c _ _ _ _ s (by have := unhide HZ; omega) _ (unhide HR)).mono ?_
    rintro e u5 ⟨⟨t, rfl, ht⟩, hl⟩
    have HB := hide ((unhide HB).trans (hl.2.below (Nat.le_refl _) (unhide HB).size))
    have HT := hide ht
    clear hl ht
    go_wp2
    go_ret
    exact ⟨⟨t, rfl, by have := unhide HZ; have := unhide HT; omega⟩, unhide HB⟩
theorem RA_alm (l k : Int) : ∃ l2 k2 b, RA (almT l k) l2 k2 b ∧ (b = true → l2 = l ∧ k2 = k) ∧ (almT l k).toList.isEmpty = !b := by
  by_cases h : almB l k = true
  · exact ⟨l, k, true, .inl ⟨rfl, h, rfl⟩, fun _ => ⟨rfl, rfl⟩, (almT_ne h).1⟩
  · exact ⟨0, 0, false, .inr ⟨rfl, rfl, rfl,   .inl (almT_no h)⟩, fun e => (by cases e), by rw [almT_no h, empty_list]; rfl⟩
set_option maxRecDepth 20000 in
set_option maxHeartbeats 16000000 in
theorem lawAlarmTexts (a0 : Option Addr) (len0 cap0 : Nat) (z0 : List Int) (w : World) (hw : ALW w ∧ ERR w) (w0 : IsRow .u8 w a0 len0 cap0 z0) :
    Calls Tryd.prog 3 #[.slice a0 len0 cap0] w fun e w' => e = .returned (.bool true) ∧ Below w.heap.size w w' := by
  have HW := hide hw
  clear hw
  by_cases hbig : 1048576 < len0
  · have hm := row_len w0
    clear w0
    go_enter Tryd.func3, Tryd.ntmps3
    go_wp2_with fail
    refine (big_yes _ _ _ hbig hm _).mono ?_
    rintro e w' ⟨rfl, rfl⟩
    go_wp2
    go_ret
    exact ⟨rfl, Below.refl _ _⟩
  have hs : len0 ≤ 1048576 := by omega
  have CD := hide (code_of_row w0 hs)
  clear w0 hbig
  go_enter Tryd.func3, Tryd.ntmps3
  go_wp2_with fail
  refine (big_c _ _ _ hs _).mono ?_
  rintro e w' ⟨rfl, rfl⟩
  go_wp2_with fail
  refine (DrawAlarmText_c _ _ _ _ (unhide CD)).mono ?_
  rintro e u1 ⟨⟨l, k, rfl⟩, kb⟩
  have HB := hide kb
  clear kb
  obtain ⟨l3, k3, b3, hr3, hlk3, hem⟩ := RA_alm l k
  have hz := almT_size l k
  have KS : Hid (∀ w, Calls Tryd.prog 12 #[.agg #[.int .i64 l, .int .i64 k]] w fun e w' => e = .returned (.string (almT l k)) ∧ Below w.heap.size w w') := fun w => sAlarmText_c l k w
  have KI : Hid (∀ w, ALW w → Calls Tryd.prog 8 #[.agg #[.int .i64 l, .int .i64 k]] w fun e w' => e = .returned (.string (almT l k)) ∧ Below w.heap.size w w') := fun w h => iAlarmText_c l k w h
  generalize almT l k = s at hr3 hem hz KS KI
  have HR3 := hide hr3
  have HL3 := hide hlk3
  have HE3 := hide hem
  have HZ := hide hz
  clear hr3 hlk3 hem hz
  have HN := hide (C2.new u1 (.int .i64 l) (.int .i64 k) 25)
  have ka := (Below.refl _ u1).alloc (Nat.le_refl _) (Obj.cells #[.int .i64 l, .int .i64 k] 25)
  have HB := hide ((unhide HB).trans (ka.mono (unhide HB).size))
  go_upto_region 4 with fail
  generalize u1.alloc (Obj.cells #[.int .i64 l, .int .i64 k] 25) = u2 at HN HB  ⊢
  clear ka
  generalize u1.heap.size = g1 at HN ⊢
  have Hg1 := HN
  clear HN
  have a0 := (unhide Hg1).1
  have a1 := (unhide Hg1).2.1
  go_wp2_with fail
  refine ((unhide KI) _ ((unhide HW).1.call (unhide HB))).mono ?_
  rintro e u3 ⟨rfl, kb⟩
  clear a0 a1
  have Hg1 := hide ((unhide Hg1).call kb)
  have HB := hide ((unhide HB).trans (kb.mono (unhide HB).size))
  clear kb
  go_wp2_with fail
  refine (DrawReadAlarm_c _ _ _ _ ((unhide CD).below (unhide HB))).mono ?_
  rintro e u4 ⟨⟨t, rfl, ht⟩, kb⟩
  have Hg1 := hide ((unhide Hg1).call kb)
  have HB := hide ((unhide HB).trans (kb.mono (unhide HB).size))
  clear kb
  obtain ⟨l2, k2, b2, hr2⟩ := RA_ex t
  have HR2 := hide hr2
  have HT := hide ht
  clear hr2 ht
  go_wp2_with fail
  refine (iReadAlarm_c t (by have := unhide HT; omega) l2 k2 b2 (unhide HR2) _ ((unhide HW).1.call (unhide HB)) ((unhide HW).2.call (unhide HB))).mono ?_
  rintro e u5 ⟨rfl, kb⟩
  have Hg1 := hide ((unhide Hg1).call kb)
  have HB := hide ((unhide HB).trans (kb.mono (unhide HB).size))
  clear kb
  have HN := hide (C2.new u5 (.int .i64 l2) (.int .i64 k2) 25)
  have ka := (Below.refl _ u5).alloc (Nat.le_refl _) (Obj.cells #[.int .i64 l2, .int .i64 k2] 25)
  have Hg1 := hide ((unhide Hg1).call ka)
  have HB := hide ((unhide HB).trans (ka.mono (unhide HB).size))
  go_upto_region 7 with fail
  generalize u5.alloc (Obj.cells #[.int .i64 l2, .int .i64 k2] 25) = u6 at HN HB Hg1 ⊢
  clear ka
  generalize u5.heap.size = g2 at HN ⊢
  have Hg2 := HN
  clear HN
  go_wp2_with fail
  refine (sReadAlarm_c t (by have := unhide HT; omega) l2 k2 b2 (unhide HR2) _).mono ?_
  rintro e u7 ⟨rfl, kb⟩
  have Hg1 := hide ((unhide Hg1).call kb)
  have Hg2 := hide ((unhide Hg2).call kb)
  have HB := hide ((unhide HB).trans (kb.mono (unhide HB).size))
  clear kb
  have HN := hide (C2.new u7 (.int .i64 l2) (.int .i64 k2) 25)
  have ka := (Below.refl _ u7).alloc (Nat.le_refl _) (Obj.cells #[.int .i64 l2, .int .i64 k2] 25)
  have Hg1 := hide ((unhide Hg1).call ka)
  have Hg2 := hide ((unhide Hg2).call ka)
  have HB := hide ((unhide HB).trans (ka.mono (unhide HB).size))
  go_upto_region 8 with fail
  generalize u7.alloc (Obj.cells #[.int .i64 l2, .int .i64 k2] 25) = u8 at HN HB Hg1 Hg2 ⊢
  clear ka
  generalize u7.heap.size = g3 at HN ⊢
  have Hg3 := HN
  clear HN
  have a0 := (unhide Hg1).1
  have a1 := (unhide Hg1).2.1
  go_wp2_with fail
  refine ((unhide KS) _).mono ?_
  rintro e u9 ⟨rfl, kb⟩
  clear a0 a1
  have Hg1 := hide ((unhide Hg1).call kb)
  have Hg2 := hide ((unhide Hg2).call kb)
  have Hg3 := hide ((unhide Hg3).call kb)
  have HB := hide ((unhide HB).trans (kb.mono (unhide HB).size))
  clear kb
  have b0 := (unhide Hg2).1
  have b1 := (unhide Hg2).2.1
  have c0 := (unhide Hg3).1
  have c1 := (unhide Hg3).2.1
  cases b2
  · clear HR2
    go_wp2_with fail
    refine (iReadAlarm_c s (by have := unhide HZ; omega) l3 k3 b3 (unhide HR3) _ ((unhide HW).1.call (unhide HB)) ((unhide HW).2.call (unhide HB))).mono ?_
    rintro e v2 ⟨rfl, kb⟩
    have Hg1 := hide ((unhide Hg1).call kb)
    have HB := hide ((unhide HB).trans (kb.mono (unhide HB).size))
    clear kb
    have HN := hide (C2.new v2 (.int .i64 l3) (.int .i64 k3) 25)
    have ka := (Below.refl _ v2).alloc (Nat.le_refl _) (Obj.cells #[.int .i64 l3, .int .i64 k3] 25)
    have Hg1 := hide ((unhide Hg1).call ka)
    have HB := hide ((unhide HB).trans (ka.mono (unhide HB).size))
    go_upto_region 11 with fail
    generalize v2.alloc (Obj.cells #[.int .i64 l3, .int .i64 k3] 25) = v3 at HN HB Hg1 ⊢
    clear ka
    generalize v2.heap.size = g4 at HN ⊢
    have Hg4 := HN
    clear HN
    have a0 := (unhide Hg1).1
    have a1 := (unhide Hg1).2.1
    have d0 := (unhide Hg4).1
    have d1 := (unhide Hg4).2.1
    have hem := unhide HE3
    cases b3
    · go_wp2
      go_ret
      exact ⟨rfl, unhide HB⟩
    · obtain ⟨rfl, rfl⟩ := (unhide HL3) rfl
      go_wp2
      go_ret
      exact ⟨rfl, unhide HB⟩
  · have heq : almT l2 k2 = t := by
      rcases unhide HR2 with ⟨_, _, h⟩ | ⟨h, _⟩
      · exact h.symm
      · cases h
    go_wp2_with fail
    refine (iAlarmText_c l2 k2 _ ((unhide HW).1.call (unhide HB))).mono ?_
    rintro e v1 ⟨rfl, kb⟩
    rw [heq]
    clear heq b0 b1 c0 c1
    have Hg1 := hide ((unhide Hg1).call kb)
    have HB := hide ((unhide HB).trans (kb.mono (unhide HB).size))
    clear kb
    go_wp2_with fail
    refine (iReadAlarm_c s (by have := unhide HZ; omega) l3 k3 b3 (unhide HR3) _ ((unhide HW).1.call (unhide HB)) ((unhide HW).2.call (unhide HB))).mono ?_
    rintro e v2 ⟨rfl, kb⟩
    have Hg1 := hide ((unhide Hg1).call kb)
    have HB := hide ((unhide HB).trans (kb.mono (unhide HB).size))
    clear kb
    have HN := hide (C2.new v2 (.int .i64 l3) (.int .i64 k3) 25)
    have ka := (Below.refl _ v2).alloc (Nat.le_refl _) (Obj.cells #[.int .i64 l3, .int .i64 k3] 25)
    have Hg1 := hide ((unhide Hg1).call ka)
    have HB := hide ((unhide HB).trans (ka.mono (unhide HB).size))
    go_upto_region 11 with fail
    generalize v2.alloc (Obj.cells #[.int .i64 l3, .int .i64 k3] 25) = v3 at HN HB Hg1 ⊢
    clear ka
    generalize v2.heap.size = g4 at HN ⊢
    have Hg4 := HN
    clear HN
    have a0 := (unhide Hg1).1
    have a1 := (unhide Hg1).2.1
    have d0 := (unhide Hg4).1
    have d1 := (unhide Hg4).2.1
    have hem := unhide HE3
    cases b3
    · go_wp2
      go_ret
      exact ⟨rfl, unhide HB⟩
    · obtain ⟨rfl, rfl⟩ := (unhide HL3) rfl
      go_wp2
      go_ret
      exact ⟨rfl, unhide HB⟩
end Go.Proofs.YtghommnbnafmkaaDoor
