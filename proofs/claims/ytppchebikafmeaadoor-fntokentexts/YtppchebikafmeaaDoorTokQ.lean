/- Texts of tokens: the walk of the law. -/
import Derived.Test.YtppchebikafmeaaDoorTokZ
namespace Go.Proofs.YtppchebikafmeaaDoor
open Go.RowKit Go.Iv
set_option linter.unusedSimpArgs false
set_option linter.unusedVariables false

set_option maxRecDepth 20000 in
set_option maxHeartbeats 16000000 in
theorem lawTokenTexts (a0 : Option Addr) (len0 cap0 : Nat) (z0 : List Int) (w : World) (hw : ERR w) (w0 : IsRow .u8 w a0 len0 cap0 z0) :
    Calls Tryd.prog 3 #[.slice a0 len0 cap0] w fun e w' => e = .returned (.bool true) ∧ Below w.heap.size w w' := by
  have HW := hide hw
  clear hw
  by_cases hbig : 1048576 < len0
  · have hm := row_len w0
    clear w0
    go_enter Tryd.func3, Tryd.ntmps3
    go_wp2_with fail
    refine (big_yes _ _ _ hbig hm _).mono ?_
    rintro e w' ⟨rfl, rfl⟩
    go_wp2
    go_ret
    exact ⟨rfl, Below.refl _ _⟩
  have hs : len0 ≤ 1048576 := by omega
  have CD := hide (code_of_row w0 hs)
  clear w0 hbig
  go_enter Tryd.func3, Tryd.ntmps3
  go_wp2_with fail
  refine (big_c _ _ _ hs _).mono ?_
  rintro e w' ⟨rfl, rfl⟩
  go_wp2_with fail
  refine (DrawTokenText_c _ _ _ _ (unhide CD)).mono ?_
  rintro e u1 ⟨g, c, zs, rfl, hin, kb⟩
  have HB := hide kb
  have HZ := hide hin
  clear kb hin
  obtain ⟨t3, hr3, ht3⟩ := RT_tok zs
  have hz := tokT_size zs
  have KS : Hid (∀ w, Ivs w (some ⟨g, 0, none⟩) zs → Calls Tryd.prog 12 #[.slice (some ⟨g, 0, none⟩) zs.length c] w fun e w' => e = .returned (.string (tokT zs)) ∧ Below w.heap.size w w') := fun w h => sTokenText_c _ _ zs w h
  have KI : Hid (∀ w, Ivs w (some ⟨g, 0, none⟩) zs → Calls Tryd.prog 8 #[.slice (some ⟨g, 0, none⟩) zs.length c] w fun e w' => e = .returned (.string (tokT zs)) ∧ Below w.heap.size w w') := fun w h => iTokenText_c _ _ zs w h
  have KO : Hid (∀ w, Ivs w (some ⟨g, 0, none⟩) zs → Calls Tryd.prog 14 #[.slice (some ⟨g, 0, none⟩) zs.length c] w fun e w' => e = .returned (.bool (tokB zs)) ∧ Below w.heap.size w w') := fun w h => (sTokenOk_c _ _ zs w h).mono fun e w' ⟨h1, h2⟩ => ⟨h1, by rw [h2]; exact Below.refl _ _⟩
  have KP : Hid (∀ w, Ivs w (some ⟨g, 0, none⟩) zs → Calls Tryd.prog 15 #[.slice (some ⟨g, 0, none⟩) zs.length c] w fun e w' => e = .returned (.bool (tokB zs)) ∧ Below w.heap.size w w') := fun w h => TokenOk_c _ _ zs w h
  have hl3 := RT_len hr3
  generalize tokT zs = s at hr3 hz KS KI
  generalize tokB zs = B at hr3 ht3 KO KP
  have HL3 := hide hl3
  clear hl3
  have HR3 := hide hr3
  have HE3 := hide ht3
  have HS := hide hz
  clear hr3 ht3 hz
  go_wp2_with fail
  refine ((unhide KI) _ (unhide HZ)).mono ?_
  rintro e u2 ⟨rfl, kb⟩
  have HZ := hide ((unhide HZ).call kb)
  have HB := hide ((unhide HB).trans (kb.mono (unhide HB).size))
  clear kb
  go_wp2_with fail
  refine (DrawReadToken_c _ _ _ _ ((unhide CD).below (unhide HB))).mono ?_
  rintro e u3 ⟨⟨t, rfl, ht⟩, kb⟩
  have HZ := hide ((unhide HZ).call kb)
  have HB := hide ((unhide HB).trans (kb.mono (unhide HB).size))
  clear kb
  obtain ⟨t2, b2, hr2⟩ := RT_ex t
  have HR2 := hide hr2
  have HT := hide ht
  have HL2 := hide (RT_len hr2)
  clear hr2 ht
  go_wp2_with fail
  refine (iReadToken_c t (by have := unhide HT; omega) t2 b2 (unhide HR2) _ ((unhide HW).call (unhide HB))).mono ?_
  rintro e u4 ⟨oc, cc, rfl, ho, kb⟩
  have HX := hide (RowN.ivs ho (by have := unhide HL2; omega))
  have HZ := hide ((unhide HZ).call kb)
  have HB := hide ((unhide HB).trans (kb.mono (unhide HB).size))
  clear kb ho
  go_wp2_with fail
  refine (sReadToken_c t (by have := unhide HT; omega) t2 b2 (unhide HR2) _).mono ?_
  rintro e u5 ⟨od, cd, rfl, ho, kb⟩
  have HY := hide (RowN.ivs ho (by have := unhide HL2; omega))
  have HX := hide ((unhide HX).call kb)
  have HZ := hide ((unhide HZ).call kb)
  have HB := hide ((unhide HB).trans (kb.mono (unhide HB).size))
  clear kb ho
  go_wp2_with fail
  refine ((unhide KS) _ (unhide HZ)).mono ?_
  rintro e u6 ⟨rfl, kb⟩
  have HX := hide ((unhide HX).call kb)
  have HY := hide ((unhide HY).call kb)
  have HZ := hide ((unhide HZ).call kb)
  have HB := hide ((unhide HB).trans (kb.mono (unhide HB).size))
  clear kb
  go_wp2_with fail
  refine (same_c _ _ _ _ t2 t2 _ (unhide HX) (unhide HY)).mono ?_
  rintro e u7 ⟨rfl, kb⟩
  have HX := hide ((unhide HX).call kb)
  have HZ := hide ((unhide HZ).call kb)
  have HB := hide ((unhide HB).trans (kb.mono (unhide HB).size))
  clear kb HY
  rw [decide_eq_true (rfl : t2 = t2)]
  cases b2
  · clear HR2 HX
    go_wp2_with fail
    refine (iReadToken_c s (by have := unhide HS; omega) t3 B (unhide HR3) _ ((unhide HW).call (unhide HB))).mono ?_
    rintro e v1 ⟨og, cg, rfl, ho, kb⟩
    have HG := hide (RowN.ivs ho (by have := unhide HL3; omega))
    have HZ := hide ((unhide HZ).call kb)
    have HB := hide ((unhide HB).trans (kb.mono (unhide HB).size))
    clear kb ho
    go_wp2_with fail
    refine ((unhide KO) _ (unhide HZ)).mono ?_
    rintro e v2 ⟨rfl, kb⟩
    have HG := hide ((unhide HG).call kb)
    have HZ := hide ((unhide HZ).call kb)
    have HB := hide ((unhide HB).trans (kb.mono (unhide HB).size))
    clear kb
    go_wp2_with fail
    refine ((unhide KP) _ (unhide HZ)).mono ?_
    rintro e v3 ⟨rfl, kb⟩
    have HG := hide ((unhide HG).call kb)
    have HZ := hide ((unhide HZ).call kb)
    have HB := hide ((unhide HB).trans (kb.mono (unhide HB).size))
    clear kb
    cases B
    · go_wp2
      go_ret
      exact ⟨rfl, unhide HB⟩
    · obtain rfl : t3 = zs := (unhide HE3) rfl
      go_wp2_with fail
      refine (same_c _ _ _ _ t3 t3 _ (unhide HG) (unhide HZ)).mono ?_
      rintro e v4 ⟨rfl, kb⟩
      have HB := hide ((unhide HB).trans (kb.mono (unhide HB).size))
      clear kb
      rw [decide_eq_true (rfl : t3 = t3)]
      go_wp2
      go_ret
      exact ⟨rfl, unhide HB⟩
  · have HQ := hide (RT_text (unhide HR2))
    clear HR2
    go_wp2_with fail
    refine (iTokenText_c _ _ t2 _ (unhide HX)).mono ?_
    rw [show (if tokB t2 = true then txt t2 else (⟨#[]⟩ : ByteArray)) = tokT t2 from rfl, unhide HQ]
    rintro e u8 ⟨rfl, kb⟩
    have HZ := hide ((unhide HZ).call kb)
    have HB := hide ((unhide HB).trans (kb.mono (unhide HB).size))
    clear kb HX HQ
    go_wp2_with fail
    refine (iReadToken_c s (by have := unhide HS; omega) t3 B (unhide HR3) _ ((unhide HW).call (unhide HB))).mono ?_
    rintro e v1 ⟨og, cg, rfl, ho, kb⟩
    have HG := hide (RowN.ivs ho (by have := unhide HL3; omega))
    have HZ := hide ((unhide HZ).call kb)
    have HB := hide ((unhide HB).trans (kb.mono (unhide HB).size))
    clear kb ho
    go_wp2_with fail
    refine ((unhide KO) _ (unhide HZ)).mono ?_
    rintro e v2 ⟨rfl, kb⟩
    have HG := hide ((unhide HG).call kb)
    have HZ := hide ((unhide HZ).call kb)
    have HB := hide ((unhide HB).trans (kb.mono (unhide HB).size))
    clear kb
    go_wp2_with fail
    refine ((unhide KP) _ (unhide HZ)).mono ?_
    rintro e v3 ⟨rfl, kb⟩
    have HG := hide ((unhide HG).call kb)
    have HZ := hide ((unhide HZ).call kb)
    have HB := hide ((unhide HB).trans (kb.mono (unhide HB).size))
    clear kb
    cases B
    · go_wp2
      go_ret
      exact ⟨rfl, unhide HB⟩
    · obtain rfl : t3 = zs := (unhide HE3) rfl
      go_wp2_with fail
      refine (same_c _ _ _ _ t3 t3 _ (unhide HG) (unhide HZ)).mono ?_
      rintro e v4 ⟨rfl, kb⟩
      have HB := hide ((unhide HB).trans (kb.mono (unhide HB).size))
      clear kb
      rw [decide_eq_true (rfl : t3 = t3)]
      go_wp2
      go_ret
      exact ⟨rfl, unhide HB⟩
end Go.Proofs.YtppchebikafmeaaDoor
