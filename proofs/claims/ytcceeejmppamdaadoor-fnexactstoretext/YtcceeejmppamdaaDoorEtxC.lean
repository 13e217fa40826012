/- Texts joined by blanks; the text of bounds. -/
import Derived.Test.YtcceeejmppamdaaDoorDecG
namespace Go.Proofs.YtcceeejmppamdaaDoor
open Go.RowKit
set_option linter.unusedSimpArgs false
set_option linter.unusedVariables false

def jnS : List ByteArray → ByteArray
  | [] => ⟨#[]⟩
  | [x] => x
  | x :: y :: r => x ++ (⟨#[32]⟩ : ByteArray) ++ jnS (y :: r)
theorem jnS_cons (x : ByteArray) (l : List ByteArray) (h : l ≠ []) : jnS (x :: l) = x ++ (⟨#[32]⟩ : ByteArray) ++ jnS l := by
  cases l with
  | nil => exact absurd rfl h
  | cons y r => rfl
theorem ba_assoc (a b c : ByteArray) : a ++ b ++ c = a ++ (b ++ c) := by apply ByteArray.ext; simp [ByteArray.data_append]
theorem jnS_snoc (l : List ByteArray) (x : ByteArray) : jnS (l ++ [x]) = if l.length = 0 then x else jnS l ++ (⟨#[32]⟩ : ByteArray) ++ x := by
  induction l with
  | nil => rfl
  | cons y r ih =>
    rw [if_neg (by simp), List.cons_append]
    by_cases hr : r = []
    · subst hr; rfl
    · rw [jnS_cons y (r ++ [x]) (by simp), ih, if_neg (by simpa using hr), jnS_cons y r hr]
      simp only [ba_assoc]
theorem jnS_take (l : List ByteArray) (k : Nat) (h : k < l.length) : jnS (l.take (k + 1)) = if k = 0 then l[k] else jnS (l.take k) ++ (⟨#[32]⟩ : ByteArray) ++ l[k] := by
  rw [List.take_succ_eq_append_getElem h, jnS_snoc]
  by_cases e : k = 0
  · subst e; simp
  · rw [if_neg (by rw [List.length_take]; omega), if_neg e]
theorem jnS_size (l : List ByteArray) (M : Nat) (h : ∀ x ∈ l, x.size ≤ M) : (jnS l).size ≤ l.length * (M + 1) := by
  induction l with
  | nil => exact Nat.zero_le _
  | cons x r ih =>
    have hx := h x (by simp)
    have ih := ih (fun y hy => h y (by simp [hy]))
    rw [List.length_cons, Nat.add_mul]
    by_cases hr : r = []
    · subst hr
      have : (jnS [x]).size = x.size := rfl
      omega
    · rw [jnS_cons x r hr, ByteArray.size_append, ByteArray.size_append]
      have : (⟨#[32]⟩ : ByteArray).size = 1 := rfl
      omega
/-- A name and what is told of it. -/
def prB (p : ByteArray × ByteArray) : ByteArray := p.1 ++ (⟨#[32]⟩ : ByteArray) ++ p.2
def flat (l : List (ByteArray × ByteArray)) : List ByteArray := l.flatMap fun p => [p.1, p.2]
theorem flat_len (l : List (ByteArray × ByteArray)) : (flat l).length = 2 * l.length := by
  induction l with
  | nil => rfl
  | cons p r ih => show (flat r).length + 2 = _; rw [ih, List.length_cons]; omega
theorem jn_flat (l : List (ByteArray × ByteArray)) : jnS (flat l) = jnS (l.map prB) := by
  induction l with
  | nil => rfl
  | cons p r ih =>
    have e : flat (p :: r) = p.1 :: p.2 :: flat r := rfl
    rw [e, List.map_cons]
    by_cases hr : r = []
    · subst hr; rfl
    · have h1 : flat r ≠ [] := by intro h; have := flat_len r; rw [h] at this; cases r with | nil => exact hr rfl | cons a b => simp at this
      rw [jnS_cons _ _ (by simp), jnS_cons _ _ h1, ih, jnS_cons _ _ (by simpa using hr)]
      simp only [prB, ba_assoc]
theorem join_jn : ∀ l : List ByteArray, Lib.join (l.map (·.data.toList)) (⟨#[32]⟩ : ByteArray).data.toList = (jnS l).data.toList
  | [] => rfl
  | [x] => by simp [Lib.join, List.intercalate, jnS]
  | x :: y :: r => by
    have ih := join_jn (y :: r)
    rw [jnS_cons x (y :: r) (by simp)]
    simp only [ByteArray.data_append, Array.toList_append, ← ih]
    simp [Lib.join, List.intercalate]
theorem join_ba (l : List ByteArray) : (⟨(Lib.join (l.map (·.data.toList)) (⟨#[32]⟩ : ByteArray).data.toList).toArray⟩ : ByteArray) = jnS l := by
  rw [join_jn]
/-- What is told of variables, and of arrays. -/
def prV (vs : List ByteArray) (xs : List (Int × Int)) : List (ByteArray × ByteArray) := List.zipWith (fun n p => (n, ivT p)) vs xs
def prA (rs : List (ByteArray × Int)) (ys : List (Int × Int)) : List (ByteArray × ByteArray) := List.zipWith (fun r p => (r.1, ivT p)) rs ys
def envT (li : Bool) (vs : List ByteArray) (rs : List (ByteArray × Int)) (xs ys : List (Int × Int)) : ByteArray :=
  if li = false then ⟨#[110, 111, 110, 101]⟩ else if (prV vs xs ++ prA rs ys).length = 0 then ⟨#[97, 108, 108]⟩ else jnS ((prV vs xs ++ prA rs ys).map prB)
theorem prV_len {vs : List ByteArray} {xs : List (Int × Int)} (h : vs.length = xs.length) : (prV vs xs).length = xs.length := by unfold prV; rw [List.length_zipWith]; omega
theorem prA_len {rs : List (ByteArray × Int)} {ys : List (Int × Int)} (h : rs.length = ys.length) : (prA rs ys).length = ys.length := by unfold prA; rw [List.length_zipWith]; omega
theorem prV_take {vs : List ByteArray} {xs : List (Int × Int)} (h : vs.length = xs.length) (k : Nat) (h1 : k < vs.length) (h2 : k < xs.length) : (prV vs xs).take (k + 1) = (prV vs xs).take k ++ [(vs[k], ivT xs[k])] := by
  rw [List.take_succ_eq_append_getElem (by rw [prV_len h]; omega)]
  simp [prV]
theorem prA_take {rs : List (ByteArray × Int)} {ys : List (Int × Int)} (h : rs.length = ys.length) (k : Nat) (h1 : k < rs.length) (h2 : k < ys.length) : (prA rs ys).take (k + 1) = (prA rs ys).take k ++ [(rs[k].1, ivT ys[k])] := by
  rw [List.take_succ_eq_append_getElem (by rw [prA_len h]; omega)]
  simp [prA]
def InP (xs : List (Int × Int)) : Prop := ∀ i, (h : i < xs.length) → (-9223372036854775808 ≤ xs[i].1 ∧ xs[i].1 ≤ 9223372036854775807) ∧ (-9223372036854775808 ≤ xs[i].2 ∧ xs[i].2 ≤ 9223372036854775807)
theorem pr_sizes {vs : List ByteArray} {rs : List (ByteArray × Int)} {xs ys : List (Int × Int)} (hv : ∀ x ∈ vs, x.size ≤ 1048576) (hr : ∀ i, (h : i < rs.length) → rs[i].1.size ≤ 1048576) (hx : InP xs) (hy : InP ys) :
    ∀ p ∈ prV vs xs ++ prA rs ys, p.1.size ≤ 1048576 ∧ p.2.size ≤ 44 := by
  intro p hp
  rcases List.mem_append.1 hp with hp | hp
  · obtain ⟨i, hi, rfl⟩ := List.getElem_of_mem hp
    unfold prV at hi ⊢
    rw [List.length_zipWith] at hi
    simp only [List.getElem_zipWith]
    exact ⟨hv _ (List.getElem_mem _), ivT_size _ (hx i (by omega))⟩
  · obtain ⟨i, hi, rfl⟩ := List.getElem_of_mem hp
    unfold prA at hi ⊢
    rw [List.length_zipWith] at hi
    simp only [List.getElem_zipWith]
    exact ⟨hr i (by omega), ivT_size _ (hy i (by omega))⟩
theorem prB_sizes {l : List (ByteArray × ByteArray)} (h : ∀ p ∈ l, p.1.size ≤ 1048576 ∧ p.2.size ≤ 44) : ∀ x ∈ l.map prB, x.size ≤ 1048700 := by
  intro x hx
  obtain ⟨p, hp, rfl⟩ := List.mem_map.1 hx
  have := h p hp
  unfold prB
  rw [ByteArray.size_append, ByteArray.size_append]
  have : (⟨#[32]⟩ : ByteArray).size = 1 := rfl
  omega
theorem flat_sizes {l : List (ByteArray × ByteArray)} (h : ∀ p ∈ l, p.1.size ≤ 1048576 ∧ p.2.size ≤ 44) : ∀ x ∈ flat l, x.size ≤ 1048700 := by
  intro x hx
  obtain ⟨p, hp, hx⟩ := List.mem_flatMap.1 hx
  have := h p hp
  simp at hx
  rcases hx with rfl | rfl <;> omega
theorem flat_app (l m : List (ByteArray × ByteArray)) : flat (l ++ m) = flat l ++ flat m := by simp [flat]
theorem own_on {w w' : World} {B : Nat} {e : TypeId} {k : Nat} {v : Value} {n : Nat} {xs : List Value} (h : w.ownsRow B e k v n xs) (hb : Below w.heap.size w w') : w'.ownsRow B e k v n xs := by
  refine ⟨h.1, ?_⟩
  rcases h.2 with h0 | ⟨g, cap, cur, hv, hB, hg, r⟩
  · exact .inl h0
  · refine .inr ⟨g, cap, cur, hv, hB, (hb.block g ?_).trans hg, r⟩
    have := (h.lt g (by rw [hv]; rfl)).2
    exact this
set_option maxRecDepth 20000 in
set_option maxHeartbeats 4000000 in
theorem l13Joined_c (a : Option Addr) (cap : Nat) (l : List ByteArray) (w : World) (h : Strs w a l) (hs : ∀ x ∈ l, x.size ≤ 1048700) (hn : l.length ≤ 100) : Calls Tryd.prog 38 #[.slice a l.length cap, .string ⟨#[32]⟩] w fun e w' => e = .returned (.string (jnS l)) ∧ w' = w := by
  have HI := hide h
  obtain ⟨V, hV⟩ : ∃ V, V = jnS l := ⟨_, rfl⟩
  rw [← hV]
  have HV := hide hV
  have HS := hide hs
  have HN := hide hn
  clear h hV hs
  go_enter Tryd.func38, Tryd.ntmps38
  go_wp2
  go_loopw [5, 6] (fun s i wr => ∃ (k : Nat) (t : ByteArray), k ≤ l.length ∧ i = .int .i64 k ∧ s = .string t ∧ Hid (t = jnS (l.take k)) ∧ wr = w) (fun _ i _ => l.length - (intOf i).toNat)
  case atStart => exact ⟨0, _, Nat.zero_le _, rfl, rfl, rfl, rfl⟩
  case round =>
    obtain ⟨k, t, hk, rfl, rfl, HT, rfl⟩ := hrel
    by_cases hlt : k < l.length
    · rcases (unhide HI).2 with h0 | ⟨cb, co, rfl, hc⟩
      · omega
      have c0 := hc k hlt
      have st : t.size ≤ 200000000 := by
        rw [unhide HT]
        have := jnS_size (l.take k) 1048700 (fun x hx => unhide HS x (List.mem_of_mem_take hx))
        rw [List.length_take] at this
        have : min k l.length ≤ 100 := by omega
        have : min k l.length * 1048701 ≤ 100 * 1048701 := Nat.mul_le_mul_right _ this
        omega
      have sx : l[k].size ≤ 1048700 := unhide HS _ (List.getElem_mem _)
      have HT2 := hide (jnS_take l k hlt)
      rw [← unhide HT] at HT2
      generalize l[k] = x at c0 sx HT2
      have hlt' : (k : Int) < (l.length : Int) := by omega
      clear hc
      by_cases e0 : k = 0
      · have HT3 : Hid (x = jnS (l.take (k + 1))) := by have q := unhide HT2; rw [if_pos e0] at q; exact q.symm
        have HE : Hid (t = ⟨#[]⟩) := by have q := unhide HT; subst e0; exact q
        subst e0
        obtain rfl := unhide HE
        rw [Nat.add_zero] at c0
        have hn1 : ¬ (9223372036854775807 < x.size) := by omega
        go_wp2
        go_roundw
        case rel => exact ⟨1, _, by omega, by go_num, rfl, (by first | exact unhide HT3 | (rw [nil_app]; exact unhide HT3)), (by simp)⟩
        case measure => simp [intOf]; omega
      · have HT3 : Hid (t ++ (⟨#[32]⟩ : ByteArray) ++ x = jnS (l.take (k + 1))) := by have q := unhide HT2; rw [if_neg e0] at q; exact q.symm
        have e1 : (0 : Int) < (k : Int) := by omega
        have hn1 : ¬ (9223372036854775807 < t.size + 1) := by omega
        have hn2 : ¬ (9223372036854775807 < t.size + 1 + x.size) := by omega
        clear e0
        go_wp2
        go_roundw
        case rel => exact ⟨k + 1, _, by omega, by go_num, rfl, unhide HT3, (by simp)⟩
        case measure => simp [intOf]; omega
    · have HE := hide (show t = V by rw [unhide HT, unhide HV, List.take_of_length_le (by omega)])
      have hlt' : ¬ ((k : Int) < (l.length : Int)) := by omega
      go_wp2
      go_ret
      exact ⟨by rw [unhide HE]; rfl, rfl⟩
end Go.Proofs.YtcceeejmppamdaaDoor
