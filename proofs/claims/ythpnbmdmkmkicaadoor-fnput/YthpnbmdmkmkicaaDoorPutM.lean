/- What is put at a place of an array: what has it then. -/
import Derived.Test.YthpnbmdmkmkicaaDoorInsC
import Derived.Test.YthpnbmdmkmkicaaDoorDptC
import Derived.Test.YthpnbmdmkmkicaaDoorPuZ
namespace Go.Proofs.YthpnbmdmkmkicaaDoor
open Go.RowKit Go.Iv
set_option linter.unusedSimpArgs false
set_option linter.unusedVariables false

/-- A store of which all is within the bounds is one that these have. -/
theorem has_all {vs fs : List ByteArray} {rs : List (ByteArray × Int)} {xs ys : List (Int × Int)} {is : List Int} {bs : List Bool} {js : List (List Int)} (h : envB vs fs rs true xs ys = true) (hf : InF xs ys fs rs is bs js) (h1 : In1 xs is xs.length) (h2 : In2 ys js ys.length) : hasD vs fs rs true xs ys is bs js = true := by
  obtain ⟨l1, l2, _⟩ := env_live h
  unfold hasD
  rw [h]
  have hs : storeB vs fs rs is bs js = true := by
    unfold storeB
    rw [env_decl h, Bool.true_and]
    refine decide_eq_true ⟨by rw [hf.1]; exact l1, hf.2.1, hf.2.2.1, fun k hk => ?_⟩
    have hk2 : k < js.length := by rw [hf.2.2.1]; exact hk
    have := hf.2.2.2 k hk2 hk
    simpa [List.getD, List.getElem?_eq_getElem hk2] using this
  rw [hs]
  have a1 : has1P xs is := fun k q1 q2 => decide_eq_true (h1 k q1 q2 q1)
  have a2 : has2P ys js := fun k q1 q2 t q3 => decide_eq_true (h2 k q1 q2 q1 t q3)
  unfold hasIn
  rw [decide_eq_true a1, decide_eq_true a2]
  rfl
section
variable {vs fs : List ByteArray} {xs ys : List (Int × Int)} {nm : ByteArray} {s : Int} {pl ph al ah : Int}
/-- Where all is right: no such place, and the alarm; or what is put. -/
theorem put_law (h : envB vs fs [(nm, s)] true xs ys = true) (hp : pl ≤ ph) (ha : al ≤ ah) (n : Int) (hn : pl ≤ n ∧ n ≤ ph) :
    (n < 0 ∨ s ≤ n → putA vs fs [(nm, s)] true xs ys 0 pl ph al ah = 2) ∧
    (0 ≤ n ∧ n < s → ∃ p, ys = [p] ∧ p.1 ≤ p.2 ∧ putL vs fs [(nm, s)] true xs ys 0 pl ph al ah = true ∧ putX vs fs [(nm, s)] true xs ys 0 pl ph al ah = xs ∧ putY vs fs [(nm, s)] true xs ys 0 pl ph al ah = [putV s p al ah] ∧ envB vs fs [(nm, s)] true xs [putV s p al ah] = true) := by
  obtain ⟨nm2, s2, p, e1, e2, e3, e4, e5⟩ := put_at (v := 0) h (by simp)
  have es : s2 = s := by
    have e1' : some (nm, s) = some (nm2, s2) := e1
    cases e1'; rfl
  subst es
  have hok : putOk vs fs [(nm, s2)] true xs ys 0 pl ph al ah = true := by
    unfold putOk bothB
    rw [h, decide_eq_true (show (0 : Int) ≤ 0 ∧ (0 : Int) < (([(nm, s2)] : List (ByteArray × Int)).length : Int) from by simp), decide_eq_true (show pl ≤ ph ∧ al ≤ ah from ⟨hp, ha⟩)]
    rfl
  obtain ⟨b1, b2, b3⟩ := env_live h
  have hy1 : ys.length = 1 := by simpa using b2
  have hys : ys = [p] := by
    match ys, hy1, e4 with
    | [q], _, e4 => have e4' : some q = some p := e4
                    cases e4'; rfl
  constructor
  · intro hbad
    unfold putA
    rw [hok, if_pos rfl, e2]
    unfold plA leqB
    rw [if_neg]
    intro q
    have := of_decide_eq_true q
    omega
  · intro hgood
    have hpl : plS s2 pl ph = true := by
      unfold plS meetB
      refine decide_eq_true ?_
      unfold mx mn
      split <;> split <;> omega
    obtain ⟨q1, q2, q3, q4⟩ := put_some hok e2 hpl e4
    have e6 : ys.set (0 : Int).toNat (putV s2 p al ah) = [putV s2 p al ah] := by rw [hys]; rfl
    refine ⟨p, hys, e5, q1, q2, q3.trans e6, ?_⟩
    refine env_of (env_decl h) (.inr ⟨rfl, b1, by simp, fun k hk => ?_⟩)
    by_cases hx : k < xs.length
    · rw [List.getElem_append_left hx]
      have := b3 k (by simp; omega)
      rw [List.getElem_append_left hx] at this
      exact this
    · rw [List.getElem_append_right (by omega)]
      have e0 : k - xs.length = 0 := by simp at hk; omega
      simp only [e0, List.getElem_cons_zero]
      unfold putV mn mx
      split
      · exact ha
      · simp only []; split <;> split <;> omega
/-- What was there, and what is put, is there. -/
theorem put_has {p : Int × Int} (h : envB vs fs [(nm, s)] true xs [putV s p al ah] = true) {is : List Int} {bs : List Bool} {js : List (List Int)} (hp : p.1 ≤ p.2) (hf : InF xs [p] fs [(nm, s)] is bs js) (h1 : In1 xs is xs.length) (h2 : In2 [p] js 1) (m : Nat) (h0 : 0 < js.length) (hm : (m : Int) < s) (n : Int) (hn : al ≤ n ∧ n ≤ ah) :
    hasD vs fs [(nm, s)] true xs [putV s p al ah] is bs (js.set 0 ((js[0]).set m n)) = true := by
  have hf3 := hf.set3 0 m h0 n
  refine has_all h ⟨hf3.1, hf3.2⟩ h1 ?_
  intro k q1 q2 _ t q3
  have ek : k = 0 := by simp at q1; exact q1
  subst ek
  have hlen : ((js[0]).length : Int) = s := hf.2.2.2 0 h0 (by simp)
  have e1 : (js.set 0 ((js[0]).set m n))[0]'(by rw [List.length_set]; exact h0) = (js[0]).set m n := by rw [List.getElem_set_self]
  have q3' : t < ((js[0]).set m n).length := by rw [← e1]; exact q3
  have goal : (putV s p al ah).1 ≤ ((js[0]).set m n)[t]'q3' ∧ ((js[0]).set m n)[t]'q3' ≤ (putV s p al ah).2 := by
    have q4 : t < (js[0]).length := by simpa using q3'
    by_cases e : t = m
    · subst e
      rw [List.getElem_set_self]
      unfold putV mn mx
      split
      · exact hn
      · simp only []; constructor <;> split <;> omega
    · rw [List.getElem_set_ne (by omega)]
      have := h2 0 (by simp) h0 (by omega) t q4
      simp only [List.getElem_cons_zero] at this
      unfold putV mn mx
      split
      · omega
      · simp only []; constructor <;> split <;> omega
  simp only [List.getElem_cons_zero]
  simp only [e1]
  exact goal
end
theorem putXY_len (vs fs : List ByteArray) (rs : List (ByteArray × Int)) (li : Bool) (xs ys : List (Int × Int)) (v pl ph al ah : Int) (M : Nat) (h : xs.length ≤ M ∧ ys.length ≤ M) : (putX vs fs rs li xs ys v pl ph al ah).length ≤ M ∧ (putY vs fs rs li xs ys v pl ph al ah).length ≤ M :=
  ⟨Nat.le_trans (putX_len vs fs rs li xs ys v pl ph al ah) h.1, Nat.le_trans (putY_len vs fs rs li xs ys v pl ph al ah) h.2⟩
end Go.Proofs.YthpnbmdmkmkicaaDoor
