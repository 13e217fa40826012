/- What reading a token gives. -/
import Derived.Test.YtppchebikafmeaaDoorRdT
namespace Go.Proofs.YtppchebikafmeaaDoor
open Go.RowKit
set_option linter.unusedSimpArgs false
set_option linter.unusedVariables false

/-- The text that both TokenText give. -/
def tokT (t : List (Int × Int)) : ByteArray := if tokB t = true then txt t else ⟨#[]⟩
def RT (s : ByteArray) (t : List (Int × Int)) (b : Bool) : Prop := (b = true ∧ tokB t = true ∧ s = txt t) ∨ (b = false ∧ t = [] ∧ (s = ⟨#[]⟩ ∨ ∀ t, tokT t ≠ s))
theorem RT_ex (s : ByteArray) : ∃ t b, RT s t b := by
  by_cases h : ∃ t, tokT t = s
  · obtain ⟨t, h⟩ := h
    by_cases q : tokB t = true
    · exact ⟨t, true, .inl ⟨rfl, q, by rw [← h]; exact if_pos q⟩⟩
    · exact ⟨[], false, .inr ⟨rfl, rfl, .inl (by rw [← h]; exact if_neg q)⟩⟩
  · exact ⟨[], false, .inr ⟨rfl, rfl, .inr fun t e => h ⟨t, e⟩⟩⟩
theorem ent_list (x y : Nat) : (entT ((x : Int), (y : Int))).data.toList = Lib.decDigits x ++ 58 :: Lib.decDigits y := by
  unfold entT decB
  simp
theorem ent_form (x y : Nat) : entT ((x : Int), (y : Int)) = ⟨(Lib.decDigits x ++ 58 :: Lib.decDigits y).toArray⟩ := by
  apply ByteArray.ext
  apply Array.ext'
  rw [ent_list]
theorem cut_ent {x y : Nat} (hx : x < 100) {e : Ending} (h : CutE 58 (entT ((x : Int), (y : Int))) e) : e = .returned (.tuple #[.string (decB x), .string (decB y), .bool true]) :=
  cut_at (d := 58) (dec_blank 58 (.inr rfl) x hx) (ent_form x y) h
theorem ent_blank {x y : Nat} (hx : x < 100) (hy : y < 100) : ∀ c ∈ (entT ((x : Int), (y : Int))).data.toList, c ≠ 32 := by
  intro c hc
  rw [ent_list, List.mem_append, List.mem_cons] at hc
  rcases hc with hc | rfl | hc
  · exact dec_blank 32 (.inl rfl) x hx c hc
  · decide
  · exact dec_blank 32 (.inl rfl) y hy c hc
theorem dec_head (m : Nat) (h : m < 100) : ∃ c r, Lib.decDigits m = c :: r ∧ c ≠ 45 := by
  have z : ∀ q : Nat, q < 10 → UInt8.ofNat (48 + q) ≠ 45 := by
    intro q hq e
    have := congrArg UInt8.toNat e
    rw [UInt8.toNat_ofNat'] at this
    have e3 : (45 : UInt8).toNat = 45 := rfl
    omega
  by_cases h1 : m < 10
  · exact ⟨_, _, Lib.decDigits_one h1, z m h1⟩
  · exact ⟨_, _, Lib.decDigits_two h1 h, z _ (by omega)⟩
/-- A token's pieces. -/
theorem txt_pieces {t : List (Int × Int)} (h : tokB t = true) (h0 : 0 < t.length) : piecesB (txt t) = t.map entT ∧ txt t ≠ ⟨#[45]⟩ ∧ txt t ≠ ⟨#[]⟩ := by
  have h3 : t.length ≤ 3 := by unfold tokB at h; rw [Bool.and_eq_true] at h; exact of_decide_eq_true h.1
  have hn := tok_nums h
  have key : ∀ (z : Int × Int) (r : List (Int × Int)), t = z :: r → txt t ≠ ⟨#[45]⟩ ∧ txt t ≠ ⟨#[]⟩ := by
    intro z r e
    obtain ⟨x, y, hz, hx, hy⟩ := hn 0 (by omega)
    have hz' : z = ((x : Int), (y : Int)) := by rw [← hz]; simp [e]
    obtain ⟨c, q, hc, hne⟩ := dec_head x hx
    have hd : ∃ u, (txt t).data.toList = c :: u := by
      rw [e]
      have gen : ∀ (r : List (Int × Int)) (b : ByteArray), (∃ u, b.data.toList = c :: u) → ∃ u, (r.foldl (fun s p => s ++ (⟨#[32]⟩ : ByteArray) ++ entT p) b).data.toList = c :: u := by
        intro r
        induction r with
        | nil => intro b hb; exact hb
        | cons p r ih =>
          intro b ⟨u, hu⟩
          refine ih _ ?_
          exact ⟨u ++ [32] ++ (entT p).data.toList, by simp [hu]⟩
      refine gen r _ ?_
      rw [hz', ent_list, hc]
      exact ⟨_, rfl⟩
    obtain ⟨u, hu⟩ := hd
    constructor
    · intro e2
      rw [e2] at hu
      have : (45 : UInt8) = c := by have := congrArg List.head? hu; simpa using this
      exact hne this.symm
    · intro e2
      rw [e2] at hu
      cases hu
  refine ⟨?_, ?_⟩
  · match t, h0, h3, hn with
    | [a], _, _, hn =>
      obtain ⟨x, y, hz, hx, hy⟩ := hn 0 (by simp)
      simp at hz
      subst hz
      show (pieces 32 (entT _).data.toList).map _ = _
      rw [pieces_none 32 _ (ent_blank hx hy)]
      rfl
    | [a, b], _, _, hn =>
      obtain ⟨x, y, hz, hx, hy⟩ := hn 0 (by simp)
      obtain ⟨x2, y2, hz2, hx2, hy2⟩ := hn 1 (by simp)
      simp at hz hz2
      subst hz hz2
      have e : (txt [((x : Int), (y : Int)), ((x2 : Int), (y2 : Int))]).data.toList = (entT ((x : Int), (y : Int))).data.toList ++ 32 :: (entT ((x2 : Int), (y2 : Int))).data.toList := by simp [txt]
      unfold piecesB
      rw [e, pieces_split 32 _ _ (ent_blank hx hy), pieces_none 32 _ (ent_blank hx2 hy2)]
      rfl
    | [a, b, c], _, _, hn =>
      obtain ⟨x, y, hz, hx, hy⟩ := hn 0 (by simp)
      obtain ⟨x2, y2, hz2, hx2, hy2⟩ := hn 1 (by simp)
      obtain ⟨x3, y3, hz3, hx3, hy3⟩ := hn 2 (by simp)
      simp at hz hz2 hz3
      subst hz hz2 hz3
      have e : (txt [((x : Int), (y : Int)), ((x2 : Int), (y2 : Int)), ((x3 : Int), (y3 : Int))]).data.toList = (entT ((x : Int), (y : Int))).data.toList ++ 32 :: ((entT ((x2 : Int), (y2 : Int))).data.toList ++ 32 :: (entT ((x3 : Int), (y3 : Int))).data.toList) := by simp [txt]
      unfold piecesB
      rw [e, pieces_split 32 _ _ (ent_blank hx hy), pieces_split 32 _ _ (ent_blank hx2 hy2), pieces_none 32 _ (ent_blank hx3 hy3)]
      rfl
  · match t, h0 with
    | z :: r, _ => exact key z r rfl
theorem pieces_len (d : UInt8) : ∀ l : List UInt8, (pieces d l).length ≤ l.length + 1
  | [] => by simp [pieces]
  | c :: r => by
    have h := pieces_len d r
    show (if c = d then [] :: pieces d r else _).length ≤ _
    by_cases e : c = d
    · rw [if_pos e, List.length_cons, List.length_cons]
      omega
    · rw [if_neg e]
      cases q : pieces d r with
      | nil => simp
      | cons a b => rw [q] at h; simp at h ⊢; omega
theorem piecesB_len (s : ByteArray) : (piecesB s).length ≤ s.size + 1 := by
  have h := pieces_len 32 s.data.toList
  have hz : s.data.toList.length = s.size := Array.length_toList
  unfold piecesB
  rw [List.length_map]
  omega
/-- What was read of each word. -/
def ReadP (ws : List ByteArray) (E : List (Int × Int)) : Prop := ∀ j, (h : j < ws.length) → (h2 : j < E.length) → ∀ x y : Nat, x < 100 → y < 100 → ws[j] = entT ((x : Int), (y : Int)) → E[j] = ((x : Int), (y : Int))
theorem readP_token {t E : List (Int × Int)} {ws : List ByteArray} (h : tokB t = true) (hw : ws = t.map entT) (hl : E.length = ws.length) (hr : ReadP ws E) : E = t := by
  subst hw
  rw [List.length_map] at hl
  refine List.ext_getElem hl (fun j h1 h2 => ?_)
  obtain ⟨x, y, hz, hx, hy⟩ := tok_nums h j h2
  rw [hz]
  exact hr j (by rw [List.length_map]; exact h2) h1 x y hx hy (by rw [List.getElem_map, hz])
theorem readP_snoc {ws : List ByteArray} {E : List (Int × Int)} {p : Int × Int} (h : ReadP ws E) (hk : E.length < ws.length) (hp : ∀ x y : Nat, x < 100 → y < 100 → ws[E.length] = entT ((x : Int), (y : Int)) → p = ((x : Int), (y : Int))) : ReadP ws (E ++ [p]) := by
  intro j h1 h2 x y hx hy e
  rw [List.length_append, List.length_singleton] at h2
  by_cases q : j < E.length
  · rw [List.getElem_append_left q]
    exact h j h1 q x y hx hy e
  · have : j = E.length := by omega
    subst this
    rw [List.getElem_append_right (Nat.le_refl _)]
    simp
    exact hp x y hx hy e
end Go.Proofs.YtppchebikafmeaaDoor
