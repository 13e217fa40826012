/- Reading a token: the program's. -/
import Derived.Test.YtppchebikafmeaaDoorRdV
import Derived.Shelf.Strings.SplitCore
import Derived.Lib.CountLaws
namespace Go.Proofs.YtppchebikafmeaaDoor
open Go.RowKit
set_option linter.unusedSimpArgs false
set_option linter.unusedVariables false

def W4 (s : ByteArray) : List ByteArray := Lib.splitB ⟨#[32]⟩ 0 (min 4 (s.size + 1) - 1) s
theorem index_blank (s : ByteArray) : Lib.indexB s ⟨#[32]⟩ = Lib.indexByte s.data.toList 32 := by
  rw [Lib.one s ⟨#[32]⟩ rfl]
  rfl
theorem split_pieces : ∀ (k : Nat) (s : ByteArray), (piecesB s).length ≤ k + 1 → Lib.splitB ⟨#[32]⟩ 0 k s = piecesB s := by
  intro k
  induction k with
  | zero =>
    intro s h
    rw [Lib.splitB_zero]
    rcases first_blank 32 s with ⟨j, hj, hi, hn, h3⟩ | ⟨hi, hn⟩
    · obtain ⟨h1, h2⟩ := cut_parts hj hn h3
      exfalso
      have e : piecesB s = s.extract 0 j :: piecesB (s.extract (j + 1) s.size) := by
        unfold piecesB
        rw [h1, pieces_split 32 _ _ h2]
        rfl
      have := piecesB_pos (s.extract (j + 1) s.size)
      rw [e, List.length_cons] at h
      omega
    · rcases cut_pieces (.inr ⟨hn, rfl⟩ : CutE 32 s _) with ⟨a, t, e, _⟩ | ⟨_, e⟩
      · simp at e
      · exact e.symm
  | succ k ih =>
    intro s h
    rcases first_blank 32 s with ⟨j, hj, hi, hn, h3⟩ | ⟨hi, hn⟩
    · obtain ⟨h1, h2⟩ := cut_parts hj hn h3
      have e : piecesB s = s.extract 0 j :: piecesB (s.extract (j + 1) s.size) := by
        unfold piecesB
        rw [h1, pieces_split 32 _ _ h2]
        rfl
      rw [Lib.splitB_hit ⟨#[32]⟩ 0 k s j ((index_blank s).trans hi), e]
      rw [e, List.length_cons] at h
      have q := ih (s.extract (j + 1) s.size) (by omega)
      show s.extract 0 (j + 0) :: Lib.splitB ⟨#[32]⟩ 0 k (s.extract (j + 1) s.size) = _
      rw [q]
      rfl
    · rw [Lib.splitB_miss ⟨#[32]⟩ 0 (k + 1) s ((index_blank s).trans hi)]
      rcases cut_pieces (.inr ⟨hn, rfl⟩ : CutE 32 s _) with ⟨a, t, e, _⟩ | ⟨_, e⟩
      · simp at e
      · exact e.symm
theorem split_some : ∀ (k : Nat) (s : ByteArray), 0 < (Lib.splitB ⟨#[32]⟩ 0 k s).length ∧ (Lib.splitB ⟨#[32]⟩ 0 k s).length ≤ k + 1 ∧ ∀ p ∈ Lib.splitB ⟨#[32]⟩ 0 k s, p.size ≤ s.size := by
  intro k
  induction k with
  | zero => intro s; rw [Lib.splitB_zero]; simp
  | succ k ih =>
    intro s
    rcases first_blank 32 s with ⟨j, hj, hi, _, _⟩ | ⟨hi, _⟩
    · rw [Lib.splitB_hit ⟨#[32]⟩ 0 k s j ((index_blank s).trans hi)]
      obtain ⟨h1, h2, h3⟩ := ih (s.extract (j + (⟨#[32]⟩ : ByteArray).size) s.size)
      refine ⟨by simp, by rw [List.length_cons]; omega, fun p hp => ?_⟩
      rcases List.mem_cons.1 hp with rfl | hp
      · rw [ByteArray.size_extract]; omega
      · have := h3 p hp
        rw [ByteArray.size_extract] at this
        omega
    · rw [Lib.splitB_miss ⟨#[32]⟩ 0 (k + 1) s ((index_blank s).trans hi)]
      simp
theorem w4_token {t : List (Int × Int)} (h : tokB t = true) (h0 : 0 < t.length) : W4 (txt t) = t.map entT := by
  have h3 : t.length ≤ 3 := by unfold tokB at h; rw [Bool.and_eq_true] at h; exact of_decide_eq_true h.1
  have e := (txt_pieces h h0).1
  have l := piecesB_len (txt t)
  unfold W4
  rw [split_pieces _ _ (by rw [e, List.length_map] at l ⊢; omega), e]
set_option maxRecDepth 20000 in
set_option maxHeartbeats 4000000 in
theorem splitN_c (s : ByteArray) (hs : s.size ≤ 1048576) (w : World) : Calls Tryd.prog 43 #[.string s, .string ⟨#[32]⟩, .int .i64 4] w fun e w' => ∃ cc, e = .returned (.slice (some ⟨w.heap.size, 0, none⟩) (W4 s).length cc) ∧ (∀ k, (h : k < (W4 s).length) → w'.cell? ⟨w.heap.size, k, none⟩ = some (.string (W4 s)[k])) ∧ Below w.heap.size w w' := by
  have c := Any.strings_genSplit_core Tryd.lays221 (by kernel_rfl) s ⟨#[32]⟩ 0 4 (min 4 (s.size + 1)) w (by omega) (by decide) (Nat.zero_le _)
    (fun x c _ => (Tryd.strings_Index_one x 32 _).mono fun e w' ⟨he, hw⟩ => ⟨by rw [he, index_blank], hw⟩)
    ((Tryd.strings_Count_one s 32 w).mono fun e w' ⟨he, hw⟩ => ⟨by rw [he]; show _ = Ending.returned (Value.int .i64 ((Lib.count s.data.toList [32] : Nat) : Int)); rw [Lib.count_one]; rfl, hw⟩) (by decide) (by decide) (by rw [if_neg (by decide)]; omega)
  have HC := hide c
  clear c
  go_enter Tryd.func43, Tryd.ntmps43
  go_wp2_with fail
  refine (unhide HC).mono ?_
  rintro e u ⟨rfl, hu⟩
  have hcell : ∀ k, (h : k < (W4 s).length) → u.cell? ⟨w.heap.size, k, none⟩ = some (.string (W4 s)[k]) := by
    intro k hk
    rw [hu]
    have q := heap_alloc_new w (.cells (Lib.cellsOf (Lib.splitB ⟨#[32]⟩ 0 (min 4 (s.size + 1) - 1) s) (min 4 (s.size + 1))) (Tryd.lays221_ren.t 9))
    unfold World.cell?
    rw [q]
    unfold W4 at hk ⊢
    simp only [Lib.cellsOf, List.getElem?_toArray]
    show (List.map Value.string _ ++ _)[k]? = _
    rw [List.getElem?_append_left (by rw [List.length_map]; exact hk), List.getElem?_map, List.getElem?_eq_getElem hk]
    rfl
  have hb : Below w.heap.size w u := by rw [hu]; exact (Below.refl _ _).alloc (Nat.le_refl _) _
  have HH := hide (And.intro hcell hb)
  clear hu hcell hb HC
  go_wp2
  go_ret
  exact ⟨_, rfl, (unhide HH).1, (unhide HH).2⟩
end Go.Proofs.YtppchebikafmeaaDoor
