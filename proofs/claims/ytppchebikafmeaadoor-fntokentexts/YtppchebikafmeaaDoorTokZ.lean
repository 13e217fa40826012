/- Texts of tokens: what is drawn, and the walk of the law. -/
import Derived.Test.YtppchebikafmeaaDoorTokY
namespace Go.Proofs.YtppchebikafmeaaDoor
open Go.RowKit Go.Iv
set_option linter.unusedSimpArgs false
set_option linter.unusedVariables false

def IsRow (k : IntKind) (w : World) (a : Option Addr) (len cap : Nat) (zs : List Int) : Prop :=
  (a = none ∧ len = 0 ∧ cap = 0 ∧ zs = []) ∨
  ∃ x, a = some x ∧ len ≤ cap ∧ cap ≤ maxLen ∧ zs.length = cap ∧ (∀ i, i < zs.length → w.cell? (x.add i) = some (.int k (zs.getD i 0))) ∧ ∀ n ∈ zs, (Lit.int k n).wf = true
theorem rdr_call {u v : World} {b : Nat} {a : Option Addr} {len cap : Nat} (h : Rdr u b a len cap) (hb : Below u.heap.size u v) : Rdr v b a len cap := by
  obtain ⟨⟨p, hp, hh⟩, hc, hn⟩ := h
  exact ⟨⟨p, hp, (hb.block b (Array.getElem?_eq_some_iff.1 hh).1).trans hh⟩, hc.below hb, hn⟩
theorem tokT_size (zs : List (Int × Int)) : (tokT zs).size ≤ 19 := by
  unfold tokT
  split
  · rename_i h
    exact RT_size (s := txt zs) (t := zs) (b := true) (.inl ⟨rfl, h, rfl⟩) rfl
  · decide
theorem RT_tok (zs : List (Int × Int)) : ∃ t, RT (tokT zs) t (tokB zs) ∧ (tokB zs = true → t = zs) := by
  by_cases h : tokB zs = true
  · exact ⟨zs, by rw [h]; exact .inl ⟨rfl, h, if_pos h⟩, fun _ => rfl⟩
  · have h' : tokB zs = false := by simpa using h
    exact ⟨[], by rw [h']; exact .inr ⟨rfl, rfl, .inl (if_neg h)⟩, fun e => absurd e h⟩
theorem RT_text {s : ByteArray} {t : List (Int × Int)} (h : RT s t true) : tokT t = s := by
  rcases h with ⟨_, h1, h2⟩ | ⟨h1, _⟩
  · rw [h2]; exact if_pos h1
  · cases h1
/-- One of the nine texts. -/
def lits : List ByteArray := [⟨#[]⟩, ⟨#[45]⟩, ⟨#[49, 58, 50, 32]⟩, ⟨#[49, 58, 53]⟩, ⟨#[51, 48, 58, 49]⟩, ⟨#[49, 58, 50, 32, 49, 58, 50, 32, 49, 58, 50, 32, 49, 58, 50]⟩, ⟨#[48, 49, 58, 50]⟩, ⟨#[49, 58, 45, 49]⟩, ⟨#[49]⟩]
theorem lits_size (k : Nat) (h : k < 9) : ∃ t, lits[k]? = some t ∧ t.size ≤ 16 := by
  rcases (show k = 0 ∨ k = 1 ∨ k = 2 ∨ k = 3 ∨ k = 4 ∨ k = 5 ∨ k = 6 ∨ k = 7 ∨ k = 8 by omega) with rfl | rfl | rfl | rfl | rfl | rfl | rfl | rfl | rfl <;> exact ⟨_, rfl, by decide⟩
theorem lits_cell (W : World) (ty : TypeId) (y : Int) (h0 : 0 ≤ y) (h1 : y < 9) (t : ByteArray) (ht : lits[y.toNat]? = some t) : (W.alloc (.cells (lits.map Value.string).toArray ty)).cell? ⟨W.heap.size, y.toNat, none⟩ = some (.string t) := by
  have h : (W.alloc (.cells (lits.map Value.string).toArray ty)).heap[W.heap.size]? = some (.cells (lits.map Value.string).toArray ty) := heap_alloc_new W _
  unfold World.cell?
  rw [h]
  simp [ht]
theorem lits_kept {W w2 : World} {b : Nat} {ty : TypeId} {y : Int} (k : Kp b (W.alloc (.cells (lits.map Value.string).toArray ty)) w2) (hb : b < W.heap.size) (h0 : 0 ≤ y) (h1 : y < 9) :
    ∃ t : ByteArray, w2.cell? ⟨W.heap.size, y.toNat, none⟩ = some (.string t) ∧ t.size ≤ 16 := by
  obtain ⟨t, ht, hz⟩ := lits_size y.toNat (by omega)
  refine ⟨t, ?_, hz⟩
  rw [World.cell?_of_block (w := W.alloc (.cells (lits.map Value.string).toArray ty)) (k.block W.heap.size (by simp) (by omega))]
  exact lits_cell W ty y h0 h1 t ht
set_option maxRecDepth 20000 in
set_option maxHeartbeats 8000000 in
theorem DrawReadToken_c (a : Option Addr) (len cap : Nat) (w : World) (h : Code w a len) : Calls Tryd.prog 9 #[.slice a len cap] w fun e w' => StrR 20 e ∧ Below w.heap.size w w' := by
  have HC := hide h
  clear h
  go_enter Tryd.func9, Tryd.ntmps9
  go_wp2_with fail
  refine (open_c a len cap _).mono ?_
  rintro e u1 ⟨rfl, he⟩
  have hl := open_rdr a len cap w (unhide HC)
  rw [← he] at hl
  have HR := hide hl.1
  have HB := hide (hl.2.below (Nat.le_refl _) (Nat.le_refl _))
  clear hl he
  go_wp2_with fail
  refine (token_c _ _ _ _ _ (unhide HR)).mono ?_
  rintro e u2 ⟨g, c, zs, rfl, hg, hin, hl⟩
  have HI := hide hin
  have HR := hide hl.1
  have HB := hide ((unhide HB).trans (hl.2.below (Nat.le_refl _) (unhide HB).size))
  clear hl hin hg
  go_wp2_with fail
  refine (sTokenText_c _ _ zs _ (unhide HI)).mono ?_
  rw [show (if tokB zs = true then txt zs else (⟨#[]⟩ : ByteArray)) = tokT zs from rfl]
  rintro e u3 ⟨rfl, kb⟩
  have HR := hide (rdr_call (unhide HR) kb)
  have HB := hide ((unhide HB).trans (kb.mono (unhide HB).size))
  have hz := tokT_size zs
  generalize tokT zs = s at hz ⊢
  have HZ := hide hz
  clear kb hz HI
  go_wp2_with fail
  refine (below_c _ _ _ _ _ (by decide) _ (unhide HR)).mono ?_
  rintro e u4 ⟨x, rfl, x0, x1, x2, hl⟩
  have HR := hide hl.1
  have HB := hide ((unhide HB).trans (hl.2.below (Nat.le_refl _) (unhide HB).size))
  clear hl x2 x1
  by_cases e0 : x = 0
  · have e0' : (x == 0) = true := by simpa using e0
    clear e0
    go_wp2_with fail
    refine (hurt_c _ _ _ _ s (by have := unhide HZ; omega) _ (unhide HR)).mono ?_
    rintro e u5 ⟨⟨t, rfl, ht⟩, hl⟩
    have HB := hide ((unhide HB).trans (hl.2.below (Nat.le_refl _) (unhide HB).size))
    have HT := hide ht
    clear hl ht
    go_wp2
    go_ret
    exact ⟨⟨t, rfl, by have := unhide HZ; have := unhide HT; omega⟩, unhide HB⟩
  have e0' : (x == 0) = false := by simpa using e0
  by_cases e1 : x = 1
  · have e1' : (x == 1) = true := by simpa using e1
    clear e0 e1
    have hlt := (unhide HR).lt
    go_wp2_with fail
    refine (below_c _ _ _ _ _ (by decide) _ ((unhide HR).alloc _)).mono ?_
    rintro e u5 ⟨y, rfl, y0, y1, y2, hl⟩
    have y3 : y < 9 := by omega
    obtain ⟨t, pk, ht⟩ := lits_kept hl.2 hlt y0 y3
    have hl2 := ((Left.refl (unhide HR)).alloc _).trans hl
    have HB := hide ((unhide HB).trans (hl2.2.below (Nat.le_refl _) (unhide HB).size))
    have HT := hide ht
    clear hl hl2 ht y2
    go_wp2
    go_ret
    exact ⟨⟨t, rfl, by have := unhide HT; omega⟩, unhide HB⟩
  have e1' : (x == 1) = false := by simpa using e1
  clear e0 e1
  go_wp2
  go_ret
  exact ⟨⟨s, rfl, by have := unhide HZ; omega⟩, unhide HB⟩
end Go.Proofs.YtppchebikafmeaaDoor
