/- Reading a token: the program's. -/
import Derived.Test.YtppchebikafmeaaDoorRdX
namespace Go.Proofs.YtppchebikafmeaaDoor
open Go.RowKit
set_option linter.unusedSimpArgs false
set_option linter.unusedVariables false

/-- What is likely is the token, or there is none. -/
theorem RT_lik {s : ByteArray} {t E : List (Int × Int)} {b : Bool} (h : RT s t b) (l : LikT s E) : (tokT E = s → b = true ∧ E = t) ∧ (¬ tokT E = s → b = false ∧ t = []) := by
  rcases l with ⟨rfl, rfl⟩ | ⟨hd, el, hr, hz⟩
  · obtain ⟨rfl, rfl⟩ := RT_dash h
    exact ⟨fun _ => ⟨rfl, rfl⟩, fun q => absurd rfl q⟩
  · by_cases he : s = ⟨#[]⟩
    · have hbt : b = false ∧ t = [] := by
        rcases h with ⟨_, h2, h3⟩ | ⟨h1, h2, _⟩
        · exfalso
          rw [he] at h3
          by_cases q : 0 < t.length
          · exact (txt_pieces h2 q).2.2 h3.symm
          · have : t = [] := List.eq_nil_of_length_eq_zero (by omega)
            subst this
            cases h3
        · exact ⟨h1, h2⟩
      refine ⟨fun q => ?_, fun _ => hbt⟩
      exfalso
      rw [hz he, he] at q
      have k : tokB [((0 : Int), (0 : Int))] = true := by decide
      unfold tokT at q
      rw [if_pos k] at q
      exact (txt_pieces k (by decide)).2.2 q
    · exact RT_read h he hd (fun h1 h2 h3 => by rw [h3]; exact w4_token h1 h2) el hr
set_option maxRecDepth 20000 in
set_option maxHeartbeats 8000000 in
theorem iReadToken_c (s : ByteArray) (hs : s.size ≤ 1048576) (t : List (Int × Int)) (b : Bool) (hr : RT s t b) (w : World) (her : ERR w) : Calls Tryd.prog 10 #[.string s] w fun e w' => ∃ oc cc, e = .returned (.tuple #[.slice oc t.length cc, .bool b]) ∧ RowN w' w.heap.size oc cc t ∧ Below w.heap.size w w' := by
  have HR := hide hr
  have HER := hide her
  clear hr her
  go_enter Tryd.func10, Tryd.ntmps10
  go_wp2_with fail
  refine (likTok_c s hs _ (unhide HER)).mono ?_
  rintro e u ⟨E, oc, cc, rfl, ho, kb, hl⟩
  have HRI := hide (ho.ivs (by have := hl.len; omega))
  have HO := hide ho
  have HB := hide kb
  have HE2 := hide (RT_lik (unhide HR) hl)
  clear ho kb hl HR
  go_wp2_with fail
  refine (iTokenText_c oc cc E _ (unhide HRI)).mono ?_
  rintro e v ⟨rfl, kb⟩
  rw [show (if tokB E = true then txt E else (⟨#[]⟩ : ByteArray)) = tokT E from rfl]
  have HO := hide (own_call (unhide HO) kb)
  have HBR := hide ((unhide HB).trans (kb.mono (unhide HB).size))
  clear kb
  by_cases hts : tokT E = s
  · obtain ⟨rfl, rfl⟩ := (unhide HE2).1 hts
    rw [hts]
    clear hts HE2
    go_wp2
    exact bodyPost_ret (v := .tuple #[.slice oc E.length cc, .bool true]) (by simp [results, Tryd.results10, go_sem]) rfl ⟨oc, cc, rfl, unhide HO, unhide HBR⟩
  · obtain ⟨rfl, rfl⟩ := (unhide HE2).2 hts
    have hq := ne_list hts
    clear hts HE2
    generalize tokT E = V at hq ⊢
    go_wp2
    exact bodyPost_ret (v := .tuple #[.slice none 0 0, .bool false]) (by simp [results, Tryd.results10, go_sem]) rfl ⟨none, 0, rfl, World.ownsRow_nil _ _ _ _, unhide HBR⟩
end Go.Proofs.YtppchebikafmeaaDoor
