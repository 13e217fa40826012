/- A text's pieces between blanks: the specification's. -/
import Derived.Test.YtppchebikafmeaaDoorRdS
import Derived.Test.YtppchebikafmeaaDoorTxtE
namespace Go.Proofs.YtppchebikafmeaaDoor
open Go.RowKit
set_option linter.unusedSimpArgs false
set_option linter.unusedVariables false

def pieces (d : UInt8) : List UInt8 → List (List UInt8)
  | [] => [[]]
  | c :: r => if c = d then [] :: pieces d r else (match pieces d r with
    | [] => [[c]]
    | h :: t => (c :: h) :: t)
theorem pieces_none (d : UInt8) : ∀ A : List UInt8, (∀ c ∈ A, c ≠ d) → pieces d A = [A]
  | [], _ => rfl
  | c :: r, h => by
    have hc : c ≠ d := h c (List.mem_cons_self)
    have hr := pieces_none d r (fun x hx => h x (List.mem_cons_of_mem _ hx))
    show (if c = d then [] :: pieces d r else _) = _
    rw [if_neg hc, hr]
theorem pieces_split (d : UInt8) : ∀ A B : List UInt8, (∀ c ∈ A, c ≠ d) → pieces d (A ++ d :: B) = A :: pieces d B
  | [], B, _ => by
    show (if d = d then [] :: pieces d B else _) = _
    rw [if_pos rfl]
  | c :: r, B, h => by
    have hc : c ≠ d := h c (List.mem_cons_self)
    have hr := pieces_split d r B (fun x hx => h x (List.mem_cons_of_mem _ hx))
    have hr' : pieces d (r.append (d :: B)) = r :: pieces d B := hr
    show (if c = d then [] :: pieces d (r ++ d :: B) else _) = _
    rw [if_neg hc, hr']
def piecesB (s : ByteArray) : List ByteArray := (pieces 32 s.data.toList).map fun l => ⟨l.toArray⟩
theorem cut_parts {s : ByteArray} {k : Nat} (hk : k < s.size) (hn : NoB 32 s k) (h3 : (s[k].toNat : Int) = 32) : s.data.toList = (s.extract 0 k).data.toList ++ 32 :: (s.extract (k + 1) s.size).data.toList ∧ ∀ c ∈ (s.extract 0 k).data.toList, c ≠ 32 := by
  have hz : s.data.toList.length = s.size := Array.length_toList
  have e1 : (s.extract 0 k).data.toList = s.data.toList.take k := by
    rw [ByteArray.data_extract, Array.toList_extract]
    simp [List.extract]
  have e2 : (s.extract (k + 1) s.size).data.toList = s.data.toList.drop (k + 1) := by
    rw [ByteArray.data_extract, Array.toList_extract]
    simp only [List.extract]
    exact List.take_of_length_le (by rw [List.length_drop]; omega)
  have e3 : s.data.toList[k]? = some 32 := (list_at s k hk).trans (congrArg some ((nat_u8 _ 32).1 h3))
  rw [e1, e2]
  refine ⟨?_, ?_⟩
  · have hk' : k < s.data.toList.length := by omega
    rw [List.getElem?_eq_getElem hk'] at e3
    have e4 := Option.some.inj e3
    rw [← e4, ← List.drop_eq_getElem_cons hk', List.take_append_drop]
  · intro c hc e
    obtain ⟨i, hi, hci⟩ := List.getElem_of_mem hc
    rw [List.length_take] at hi
    rw [List.getElem_take] at hci
    have q := list_at s i (by omega)
    rw [List.getElem?_eq_getElem (by omega), hci, e] at q
    have q2 := Option.some.inj q
    exact hn i (by omega) (by omega) (by rw [← q2]; rfl)
theorem cut_pieces {s : ByteArray} {e : Ending} (h : CutE 32 s e) : (∃ a t, e = .returned (.tuple #[.string a, .string t, .bool true]) ∧ piecesB s = a :: piecesB t ∧ t.size + 1 ≤ s.size) ∨ (e = .returned (.tuple #[.string s, .string ⟨#[]⟩, .bool false]) ∧ piecesB s = [s]) := by
  rcases h with ⟨k, hk, hn, h3, rfl⟩ | ⟨hn, rfl⟩
  · left
    obtain ⟨h1, h2⟩ := cut_parts hk hn h3
    refine ⟨_, _, rfl, ?_, by rw [ByteArray.size_extract]; omega⟩
    unfold piecesB
    rw [h1, pieces_split 32 _ _ h2]
    rfl
  · right
    refine ⟨rfl, ?_⟩
    unfold piecesB
    rw [pieces_none 32 _ (fun c hc e => ?_)]
    · rfl
    · obtain ⟨i, hi, hci⟩ := List.getElem_of_mem hc
      have hz : s.data.toList.length = s.size := Array.length_toList
      have q := list_at s i (by omega)
      rw [List.getElem?_eq_getElem hi, hci, e] at q
      exact hn i (by omega) (by omega) (by rw [← Option.some.inj q]; rfl)
def lenOf : Value → Nat
  | .string s => s.size
  | _ => 0
def oneOf : Value → Nat
  | .bool true => 1
  | _ => 0
/-- A row of texts of the call's own. -/
def RowS (w : World) (B : Nat) (oc : Option Addr) (cc : Nat) (ws : List ByteArray) : Prop := w.ownsRow B 9 1 (.slice oc ws.length cc) ws.length (ws.map Value.string)
theorem RowS.at {w : World} {B : Nat} {oc : Option Addr} {cc : Nat} {ws : List ByteArray} (h : RowS w B oc cc ws) (k : Nat) (hk : k < ws.length) : ∃ g, oc = some ⟨g, 0, none⟩ ∧ g < w.heap.size ∧ w.cell? ⟨g, k, none⟩ = some (.string ws[k]) := by
  obtain ⟨g, rfl, hg, _⟩ := own_some h (by omega)
  refine ⟨g, rfl, hg, ?_⟩
  have q := World.ownsRow.cellAt h k (by omega)
  rw [q]
  simp [hk]
set_option maxRecDepth 20000 in
set_option maxHeartbeats 8000000 in
theorem l1Split_c (s : ByteArray) (hs : s.size ≤ 1048576) (w : World) : Calls Tryd.prog 29 #[.string s] w fun e w' => ∃ oc cc, e = .returned (.slice oc (piecesB s).length cc) ∧ RowS w' w.heap.size oc cc (piecesB s) ∧ Below w.heap.size w w' := by
  obtain ⟨inf, hi, hz0, hz1, hz2⟩ := info_parts strInfo
  go_enter Tryd.func29, Tryd.ntmps29
  go_wp2
  go_loopw [0, 3, 4] (fun sv out more wr => ∃ (r : ByteArray) (m : Bool) (D : List ByteArray) (oc : Option Addr) (cc : Nat), sv = .string r ∧ more = .bool m ∧ out = .slice oc D.length cc ∧ RowS wr w.heap.size oc cc D ∧ Below w.heap.size w wr ∧ (m = true → piecesB s = D ++ piecesB r ∧ D.length + r.size ≤ s.size) ∧ (m = false → piecesB s = D)) (fun sv _ more _ => lenOf sv + oneOf more)
  case atStart => exact ⟨s, true, [], _, _, rfl, rfl, rfl, ⟨rfl, .inr ⟨w.heap.size, 0, #[], rfl, Nat.le_refl _, heap_alloc_new w _, Nat.le_refl _, by unfold maxLen; omega, rfl, rfl⟩⟩, (Below.refl _ _).alloc (Nat.le_refl _) _, fun _ => ⟨rfl, by simp⟩, fun e => (by cases e)⟩
  case round =>
    obtain ⟨r, m, D, oc, cc, rfl, rfl, rfl, ho, hb, h1, h2⟩ := hrel
    have HO := hide ho
    have HB := hide hb
    have H1 := hide h1
    have H2 := hide h2
    clear ho hb h1 h2
    cases m
    · have e := (unhide H2) rfl
      have HE := hide e
      clear e
      go_wp2
      go_ret
      exact ⟨oc, cc, by rw [unhide HE]; rfl, by rw [unhide HE]; exact unhide HO, unhide HB⟩
    · obtain ⟨e1, e2⟩ := (unhide H1) rfl
      have HE := hide e1
      clear e1
      go_wp2_with fail
      refine (l1Cut_c 32 r (by omega) _).mono ?_
      rintro e u ⟨hc, kb⟩
      have HO2 := hide (own_call (unhide HO) kb)
      have HB2 := hide ((unhide HB).trans (kb.mono (unhide HB).size))
      have hbs := (unhide HB2).size
      clear kb HO HB
      rcases cut_pieces hc with ⟨a, t, rfl, hp, hz⟩ | ⟨rfl, hp⟩
      · have HP := hide hp
        clear hc hp
        go_wp2_with (at_builtin; refine wpList_app _ rfl _ _ 38 rfl w.heap.size 9 inf (.string ⟨#[]⟩) 1 16 Tryd.underlying38 hi hz0 hz1 hz2 rfl (by decide) _ _ _ rfl (own_call (unhide HO2) ((Below.refl _ u).alloc (Nat.le_refl _) _)) ⟨_, 0, none⟩ 1 1 [.string a] rfl rfl (World.news_of_block (heap_alloc_new _ _)) (by simp [Value.oneCell']) (by unfold maxLen; omega) (by omega) (by simp; omega) ?_; intro oc' cc' w3 hown hgrow)
        go_roundw
        case rel => exact ⟨t, true, D ++ [a], oc', cc', rfl, rfl, by simp, by unfold RowS; rw [List.map_append, List.length_append]; exact hown, ((unhide HB2).alloc hbs _).grown hgrow (by simp; omega) (fun j hj => ((unhide HO2).lt j hj).1), fun _ => ⟨by rw [unhide HE, unhide HP]; simp, by rw [List.length_append]; simp; omega⟩, fun e => (by cases e)⟩
        case measure => simp [lenOf, oneOf]; omega
      · have HP := hide hp
        clear hc hp
        go_wp2_with (at_builtin; refine wpList_app _ rfl _ _ 38 rfl w.heap.size 9 inf (.string ⟨#[]⟩) 1 16 Tryd.underlying38 hi hz0 hz1 hz2 rfl (by decide) _ _ _ rfl (own_call (unhide HO2) ((Below.refl _ u).alloc (Nat.le_refl _) _)) ⟨_, 0, none⟩ 1 1 [.string r] rfl rfl (World.news_of_block (heap_alloc_new _ _)) (by simp [Value.oneCell']) (by unfold maxLen; omega) (by omega) (by simp; omega) ?_; intro oc' cc' w3 hown hgrow)
        go_roundw
        case rel => exact ⟨⟨#[]⟩, false, D ++ [r], oc', cc', rfl, rfl, by simp, by unfold RowS; rw [List.map_append, List.length_append]; exact hown, ((unhide HB2).alloc hbs _).grown hgrow (by simp; omega) (fun j hj => ((unhide HO2).lt j hj).1), fun e => (by cases e), fun _ => (by rw [unhide HE, unhide HP])⟩
        case measure =>
          have z : (⟨#[]⟩ : ByteArray).size = 0 := rfl
          show (⟨#[]⟩ : ByteArray).size + 0 < r.size + 1
          omega
end Go.Proofs.YtppchebikafmeaaDoor
