/- Texts that go together: SttC, SttJ. -/
import Derived.Test.YtpdnnpnclgcpoaaDoorEtZ
import Derived.Test.YtpdnnpnclgcpoaaDoorStZ
/- The text of a store: its words. -/
namespace Go.Proofs.YtpdnnpnclgcpoaaDoor
open Go.RowKit
set_option linter.unusedSimpArgs false
set_option linter.unusedVariables false

def boT (b : Bool) : ByteArray := if b then ⟨#[116, 114, 117, 101]⟩ else ⟨#[102, 97, 108, 115, 101]⟩
def prI (vs : List ByteArray) (is : List Int) : List (ByteArray × ByteArray) := List.zipWith (fun n z => (n, itB z)) vs is
def prO (fs : List ByteArray) (bs : List Bool) : List (ByteArray × ByteArray) := List.zipWith (fun n b => (n, boT b)) fs bs
def wsJ (rs : List (ByteArray × Int)) (js : List (List Int)) : List (List ByteArray) := List.zipWith (fun r l => r.1 :: l.map itB) rs js
/-- The words of a store. -/
def stW (vs fs : List ByteArray) (rs : List (ByteArray × Int)) (is : List Int) (bs : List Bool) (js : List (List Int)) : List ByteArray := flat (prI vs is) ++ flat (prO fs bs) ++ (wsJ rs js).flatten
theorem prI_take {vs : List ByteArray} {is : List Int} (k : Nat) (h1 : k < vs.length) (h2 : k < is.length) : flat ((prI vs is).take (k + 1)) = flat ((prI vs is).take k) ++ [vs[k], itB is[k]] := by
  rw [List.take_succ_eq_append_getElem (by unfold prI; rw [List.length_zipWith]; omega), flat_app]
  simp [prI, flat]
theorem prO_take {fs : List ByteArray} {bs : List Bool} (k : Nat) (h1 : k < fs.length) (h2 : k < bs.length) : flat ((prO fs bs).take (k + 1)) = flat ((prO fs bs).take k) ++ [fs[k], boT bs[k]] := by
  rw [List.take_succ_eq_append_getElem (by unfold prO; rw [List.length_zipWith]; omega), flat_app]
  simp [prO, flat]
theorem wsJ_take {rs : List (ByteArray × Int)} {js : List (List Int)} (k : Nat) (h1 : k < rs.length) (h2 : k < js.length) : ((wsJ rs js).take (k + 1)).flatten = ((wsJ rs js).take k).flatten ++ (rs[k].1 :: (js[k].map itB)) := by
  rw [List.take_succ_eq_append_getElem (by unfold wsJ; rw [List.length_zipWith]; omega), List.flatten_append]
  simp [wsJ]
theorem prI_all {vs : List ByteArray} {is : List Int} (k : Nat) (h : is.length ≤ k) : (prI vs is).take k = prI vs is := List.take_of_length_le (by unfold prI; rw [List.length_zipWith]; omega)
theorem prO_all {fs : List ByteArray} {bs : List Bool} (k : Nat) (h : bs.length ≤ k) : (prO fs bs).take k = prO fs bs := List.take_of_length_le (by unfold prO; rw [List.length_zipWith]; omega)
theorem wsJ_all {rs : List (ByteArray × Int)} {js : List (List Int)} (k : Nat) (h : js.length ≤ k) : (wsJ rs js).take k = wsJ rs js := List.take_of_length_le (by unfold wsJ; rw [List.length_zipWith]; omega)
def InI (is : List Int) : Prop := ∀ i, (h : i < is.length) → (-9223372036854775808 ≤ is[i] ∧ is[i] ≤ 9223372036854775807)
def InJ (js : List (List Int)) : Prop := ∀ i, (h : i < js.length) → InI js[i]
theorem boT_size (b : Bool) : (boT b).size ≤ 5 := by cases b <;> decide
theorem stW_sizes {vs fs : List ByteArray} {rs : List (ByteArray × Int)} {is : List Int} {bs : List Bool} {js : List (List Int)} (hz : ∀ x ∈ namesOf vs fs rs, x.size ≤ 1048576) (hi : InI is) (hj : InJ js) : ∀ x ∈ stW vs fs rs is bs js, x.size ≤ 1048700 := by
  have hv : ∀ x ∈ vs, x.size ≤ 1048576 := fun x hx => hz x (by unfold namesOf; simp [hx])
  have hf : ∀ x ∈ fs, x.size ≤ 1048576 := fun x hx => hz x (by unfold namesOf; simp [hx])
  have hr : ∀ i, (h : i < rs.length) → rs[i].1.size ≤ 1048576 := fun i h => hz _ (by unfold namesOf; simp only [List.mem_append, List.mem_map]; exact .inr ⟨rs[i], List.getElem_mem _, rfl⟩)
  intro x hx
  unfold stW at hx
  rcases List.mem_append.1 hx with hx | hx
  · rcases List.mem_append.1 hx with hx | hx
    · refine flat_sizes (fun p hp => ?_) x hx
      obtain ⟨i, h, rfl⟩ := List.getElem_of_mem hp
      unfold prI at h ⊢
      rw [List.length_zipWith] at h
      simp only [List.getElem_zipWith]
      have := itB_size _ (hi i (by omega)).1 (hi i (by omega)).2
      exact ⟨hv _ (List.getElem_mem _), by omega⟩
    · refine flat_sizes (fun p hp => ?_) x hx
      obtain ⟨i, h, rfl⟩ := List.getElem_of_mem hp
      unfold prO at h ⊢
      rw [List.length_zipWith] at h
      simp only [List.getElem_zipWith]
      exact ⟨hf _ (List.getElem_mem _), by have := boT_size (bs[i]'(by omega)); omega⟩
  · obtain ⟨l, hl, hx⟩ := List.mem_flatten.1 hx
    obtain ⟨i, h, rfl⟩ := List.getElem_of_mem hl
    unfold wsJ at h hx
    rw [List.length_zipWith] at h
    simp only [List.getElem_zipWith] at hx
    rcases List.mem_cons.1 hx with rfl | hx
    · have := hr i (by omega); omega
    · obtain ⟨z, hz2, rfl⟩ := List.mem_map.1 hx
      obtain ⟨j, h2, rfl⟩ := List.getElem_of_mem hz2
      have q := hj i (by omega) j h2
      have := itB_size _ q.1 q.2
      omega
theorem sto_lens {vs fs : List ByteArray} {rs : List (ByteArray × Int)} {is : List Int} {bs : List Bool} {js : List (List Int)} (h : storeB vs fs rs is bs js = true) : vs.length = is.length ∧ fs.length = bs.length ∧ rs.length = js.length ∧ is.length ≤ 5 ∧ bs.length ≤ 3 ∧ js.length ≤ 2 ∧ ∀ k, (h : k < js.length) → js[k].length ≤ 16 := by
  unfold storeB at h
  rw [Bool.and_eq_true] at h
  have h1 := declB_len h.1
  have h0 := (of_decide_eq_true h.1 : declP vs fs rs).2.2.2.1
  obtain ⟨h2, h3, h4, h5⟩ := (of_decide_eq_true h.2 : stoP vs.length fs.length rs is bs js)
  refine ⟨h2.symm, h3.symm, h4.symm, by omega, by omega, by omega, fun k hk => ?_⟩
  have q := h5 k (by omega)
  have q2 := h0 k (by omega)
  rw [List.getD_eq_getElem?_getD, List.getElem?_eq_getElem hk, Option.getD_some] at q
  omega
end Go.Proofs.YtpdnnpnclgcpoaaDoor

/- Texts joined by blanks are unlike where the words are; decimals, too. -/
namespace Go.Proofs.YtpdnnpnclgcpoaaDoor
open Go.RowKit
set_option linter.unusedSimpArgs false
set_option linter.unusedVariables false

theorem cut_at {c : UInt8} : ∀ (a a' b b' : List UInt8), c ∉ a → c ∉ a' → a ++ c :: b = a' ++ c :: b' → a = a' ∧ b = b'
  | [], [], b, b', _, _, e => by simpa using e
  | [], y :: ys, b, b', _, h', e => by
    simp only [List.nil_append, List.cons_append, List.cons.injEq] at e
    exact absurd (by rw [e.1]; simp) h'
  | x :: xs, [], b, b', h, _, e => by
    simp only [List.nil_append, List.cons_append, List.cons.injEq] at e
    exact absurd (by rw [e.1]; simp) h
  | x :: xs, y :: ys, b, b', h, h', e => by
    simp only [List.cons_append, List.cons.injEq] at e
    have q := cut_at xs ys b b' (fun m => h (by simp [m])) (fun m => h' (by simp [m])) e.2
    exact ⟨by rw [e.1, q.1], q.2⟩
def ByteFree (c : UInt8) (s : ByteArray) : Prop := c ∉ s.data.toList
theorem ba_eq {a b : ByteArray} (h : a.data.toList = b.data.toList) : a = b := by
  cases a
  cases b
  simpa using h
/-- Joined words come back. -/
theorem jnS_inj : ∀ (l l' : List ByteArray), l.length = l'.length → (∀ x ∈ l, ByteFree 32 x) → (∀ x ∈ l', ByteFree 32 x) → jnS l = jnS l' → l = l'
  | [], [], _, _, _, _ => rfl
  | [], _ :: _, h, _, _, _ => by simp at h
  | _ :: _, [], h, _, _, _ => by simp at h
  | [x], [x'], _, _, _, e => by rw [show x = x' from e]
  | [x], _ :: _ :: _, h, _, _, _ => by simp at h
  | _ :: _ :: _, [x], h, _, _, _ => by simp at h
  | x :: y :: r, x' :: y' :: r', h, h1, h2, e => by
    rw [jnS_cons x (y :: r) (by simp), jnS_cons x' (y' :: r') (by simp)] at e
    have e' := congrArg (fun s : ByteArray => s.data.toList) e
    simp only [ByteArray.data_append, Array.toList_append, List.append_assoc] at e'
    have q := cut_at x.data.toList x'.data.toList _ _ (h1 x (by simp)) (h2 x' (by simp)) e'
    have r1 := jnS_inj (y :: r) (y' :: r') (by simpa using h) (fun z hz => h1 z (by simp only [List.mem_cons] at hz ⊢; exact .inr hz)) (fun z hz => h2 z (by simp only [List.mem_cons] at hz ⊢; exact .inr hz)) (ba_eq q.2)
    rw [ba_eq q.1, r1]
theorem u8_dig (d : Nat) (h : d < 10) : (UInt8.ofNat (48 + d)).toNat = 48 + d := by
  simp [UInt8.toNat_ofNat]
  omega
theorem dec_chars (u : Nat) : ∀ x ∈ Lib.decDigits u, 48 ≤ x.toNat ∧ x.toNat ≤ 57 := by
  induction u using Nat.strongRecOn with
  | _ u ih =>
    intro x hx
    rw [Lib.decDigits] at hx
    by_cases h : u < 10
    · rw [dif_pos h] at hx
      simp only [List.mem_singleton] at hx
      rw [hx, u8_dig u h]
      omega
    · rw [dif_neg h] at hx
      rcases List.mem_append.1 hx with hx | hx
      · exact ih (u / 10) (by omega) x hx
      · simp only [List.mem_singleton] at hx
        rw [hx, u8_dig _ (by omega)]
        omega
def valD (l : List UInt8) : Nat := l.foldl (fun a x => a * 10 + (x.toNat - 48)) 0
theorem val_dec (u : Nat) : valD (Lib.decDigits u) = u := by
  induction u using Nat.strongRecOn with
  | _ u ih =>
    rw [Lib.decDigits]
    by_cases h : u < 10
    · rw [dif_pos h]
      show 0 * 10 + ((UInt8.ofNat (48 + u)).toNat - 48) = u
      rw [u8_dig u h]
      omega
    · rw [dif_neg h]
      have q := ih (u / 10) (by omega)
      unfold valD at q ⊢
      rw [List.foldl_append, q]
      show u / 10 * 10 + ((UInt8.ofNat (48 + u % 10)).toNat - 48) = u
      rw [u8_dig _ (by omega)]
      omega
theorem decDigits_inj {a b : Nat} (h : Lib.decDigits a = Lib.decDigits b) : a = b := by rw [← val_dec a, h, val_dec b]
theorem dec_not45 (u : Nat) (r : List UInt8) : Lib.decDigits u ≠ 45 :: r := fun h => by
  have := (dec_chars u 45 (by rw [h]; simp)).1
  exact absurd this (by decide)
theorem itoa_inj {m n : Int} (h : Lib.itoa m = Lib.itoa n) : m = n := by
  unfold Lib.itoa at h
  by_cases h1 : m < 0
  · by_cases h2 : n < 0
    · rw [if_pos h1, if_pos h2] at h
      have := decDigits_inj (List.cons.inj h).2
      omega
    · rw [if_pos h1, if_neg h2] at h
      exact absurd h.symm (dec_not45 _ _)
  · by_cases h2 : n < 0
    · rw [if_neg h1, if_pos h2] at h
      exact absurd h (dec_not45 _ _)
    · rw [if_neg h1, if_neg h2] at h
      have := decDigits_inj h
      omega
theorem itB_inj {m n : Int} (h : itB m = itB n) : m = n := by
  have := congrArg (fun s : ByteArray => s.data.toList) h
  simp only [itB] at this
  exact itoa_inj (by simpa using this)
theorem itB_free (c : UInt8) (hc : c.toNat < 45 ∨ c.toNat = 46) (n : Int) : ByteFree c (itB n) := by
  intro h
  have h' : c ∈ Lib.itoa n := by simpa [itB] using h
  unfold Lib.itoa at h'
  split at h'
  · rcases List.mem_cons.1 h' with e | h'
    · have : c.toNat = 45 := by rw [e]; rfl
      omega
    · have := (dec_chars _ c h').1
      omega
  · have := (dec_chars _ c h').1
    omega
theorem ivT_inj {p q : Int × Int} (h : ivT p = ivT q) : p = q := by
  have e := congrArg (fun s : ByteArray => s.data.toList) h
  simp only [ivT, ByteArray.data_append, Array.toList_append, List.append_assoc] at e
  have k := cut_at (c := 46) _ _ _ _ (itB_free 46 (by decide) p.1) (itB_free 46 (by decide) q.1) e
  have k1 := itB_inj (ba_eq k.1)
  have k2 := itB_inj (ba_eq (by simpa using k.2))
  ext
  · exact k1
  · exact k2
theorem ivT_free (p : Int × Int) : ByteFree 32 (ivT p) := by
  intro h
  simp only [ivT, ByteArray.data_append, Array.toList_append, List.mem_append] at h
  rcases h with (h | h) | h
  · exact itB_free 32 (by decide) p.1 h
  · simp at h
  · exact itB_free 32 (by decide) p.2 h
theorem boT_free (b : Bool) : ByteFree 32 (boT b) := by cases b <;> (unfold ByteFree boT; decide)
theorem boT_inj {a b : Bool} (h : boT a = boT b) : a = b := by
  have e := congrArg ByteArray.size h
  cases a <;> cases b <;> first | rfl | (exact absurd e (by decide))
theorem name_free {s : ByteArray} (h : nameB s = true) : ByteFree 32 s := by
  intro hm
  unfold nameB at h
  rw [Bool.and_eq_true] at h
  have q := List.all_eq_true.1 h.1 32 hm
  exact absurd q (by decide)
theorem names_free {vs fs : List ByteArray} {rs : List (ByteArray × Int)} (h : declB vs fs rs = true) : (∀ x ∈ vs, ByteFree 32 x) ∧ (∀ x ∈ fs, ByteFree 32 x) ∧ (∀ i, (hi : i < rs.length) → ByteFree 32 rs[i].1) := by
  have hp := (of_decide_eq_true h : declP vs fs rs).2.2.2.2
  have key : ∀ x ∈ namesOf vs fs rs, ByteFree 32 x := fun x hx => by
    obtain ⟨i, hi, rfl⟩ := List.getElem_of_mem hx
    exact name_free (hp i hi).1
  exact ⟨fun x hx => key x (by unfold namesOf; simp [hx]), fun x hx => key x (by unfold namesOf; simp [hx]), fun i hi => key _ (by unfold namesOf; simp only [List.mem_append, List.mem_map]; exact .inr ⟨rs[i], List.getElem_mem _, rfl⟩)⟩
theorem flat_inj : ∀ (l l' : List (ByteArray × ByteArray)), flat l = flat l' → l = l'
  | [], [], _ => rfl
  | [], p :: r, e => by have := congrArg List.length e; simp [flat_len] at this
  | p :: r, [], e => by have := congrArg List.length e; simp [flat_len] at this
  | p :: r, p' :: r', e => by
    have e1 : p.1 :: p.2 :: flat r = p'.1 :: p'.2 :: flat r' := e
    simp only [List.cons.injEq] at e1
    have := flat_inj r r' e1.2.2
    rw [this]
    rw [show p = p' from Prod.ext e1.1 e1.2.1]
theorem prV_inj : ∀ {vs : List ByteArray} {xs xs' : List (Int × Int)}, vs.length = xs.length → vs.length = xs'.length → prV vs xs = prV vs xs' → xs = xs'
  | [], [], [], _, _, _ => rfl
  | v :: vs, x :: xs, x' :: xs', h, h', e => by
    simp only [prV, List.zipWith_cons_cons, List.cons.injEq, Prod.mk.injEq, true_and] at e
    rw [ivT_inj e.1, prV_inj (by simpa using h) (by simpa using h') e.2]
  | [], _ :: _, _, h, _, _ => by simp at h
  | [], _, _ :: _, _, h, _ => by simp at h
  | _ :: _, [], _, h, _, _ => by simp at h
  | _ :: _, _, [], _, h, _ => by simp at h
theorem prA_inj : ∀ {rs : List (ByteArray × Int)} {xs xs' : List (Int × Int)}, rs.length = xs.length → rs.length = xs'.length → prA rs xs = prA rs xs' → xs = xs'
  | [], [], [], _, _, _ => rfl
  | v :: vs, x :: xs, x' :: xs', h, h', e => by
    simp only [prA, List.zipWith_cons_cons, List.cons.injEq, Prod.mk.injEq, true_and] at e
    rw [ivT_inj e.1, prA_inj (by simpa using h) (by simpa using h') e.2]
  | [], _ :: _, _, h, _, _ => by simp at h
  | [], _, _ :: _, _, h, _ => by simp at h
  | _ :: _, [], _, h, _, _ => by simp at h
  | _ :: _, _, [], _, h, _ => by simp at h
theorem prI_inj : ∀ {vs : List ByteArray} {xs xs' : List Int}, vs.length = xs.length → vs.length = xs'.length → prI vs xs = prI vs xs' → xs = xs'
  | [], [], [], _, _, _ => rfl
  | v :: vs, x :: xs, x' :: xs', h, h', e => by
    simp only [prI, List.zipWith_cons_cons, List.cons.injEq, Prod.mk.injEq, true_and] at e
    rw [itB_inj e.1, prI_inj (by simpa using h) (by simpa using h') e.2]
  | [], _ :: _, _, h, _, _ => by simp at h
  | [], _, _ :: _, _, h, _ => by simp at h
  | _ :: _, [], _, h, _, _ => by simp at h
  | _ :: _, _, [], _, h, _ => by simp at h
theorem prO_inj : ∀ {vs : List ByteArray} {xs xs' : List Bool}, vs.length = xs.length → vs.length = xs'.length → prO vs xs = prO vs xs' → xs = xs'
  | [], [], [], _, _, _ => rfl
  | v :: vs, x :: xs, x' :: xs', h, h', e => by
    simp only [prO, List.zipWith_cons_cons, List.cons.injEq, Prod.mk.injEq, true_and] at e
    rw [boT_inj e.1, prO_inj (by simpa using h) (by simpa using h') e.2]
  | [], _ :: _, _, h, _, _ => by simp at h
  | [], _, _ :: _, _, h, _ => by simp at h
  | _ :: _, [], _, h, _, _ => by simp at h
  | _ :: _, _, [], _, h, _ => by simp at h
theorem map_itB_inj : ∀ {l l' : List Int}, l.map itB = l'.map itB → l = l'
  | [], [], _ => rfl
  | [], _ :: _, h => by simp at h
  | _ :: _, [], h => by simp at h
  | x :: l, x' :: l', h => by
    simp only [List.map_cons, List.cons.injEq] at h
    rw [itB_inj h.1, map_itB_inj h.2]
theorem wsJ_len : ∀ {rs : List (ByteArray × Int)} {js js' : List (List Int)}, rs.length = js.length → rs.length = js'.length → (∀ k : Nat, (h : k < js.length) → (h' : k < js'.length) → js[k].length = js'[k].length) → (wsJ rs js).flatten.length = (wsJ rs js').flatten.length
  | [], [], [], _, _, _ => rfl
  | r :: rs, l :: js, l' :: js', h, h', hk => by
    have h0 := hk 0 (by simp) (by simp)
    have ih := wsJ_len (rs := rs) (js := js) (js' := js') (by simpa using h) (by simpa using h') (fun k h1 h2 => by have := hk (k + 1) (by simpa using h1) (by simpa using h2); simpa using this)
    simp only [wsJ, List.zipWith_cons_cons, List.flatten_cons, List.length_append, List.length_cons, List.length_map] at ih ⊢
    simp at h0
    omega
  | [], _ :: _, _, h, _, _ => by simp at h
  | [], _, _ :: _, _, h, _ => by simp at h
  | _ :: _, [], _, h, _, _ => by simp at h
  | _ :: _, _, [], _, h, _ => by simp at h
theorem wsJ_inj : ∀ {rs : List (ByteArray × Int)} {js js' : List (List Int)}, rs.length = js.length → rs.length = js'.length → (∀ k : Nat, (h : k < js.length) → (h' : k < js'.length) → js[k].length = js'[k].length) → (wsJ rs js).flatten = (wsJ rs js').flatten → js = js'
  | [], [], [], _, _, _, _ => rfl
  | r :: rs, l :: js, l' :: js', h, h', hk, e => by
    have h0 := hk 0 (by simp) (by simp)
    simp at h0
    simp only [wsJ, List.zipWith_cons_cons, List.flatten_cons] at e
    have q := List.append_inj e (by simp [h0])
    rw [map_itB_inj (List.cons.inj q.1).2, wsJ_inj (rs := rs) (js := js) (js' := js') (by simpa using h) (by simpa using h') (fun k h1 h2 => by have := hk (k + 1) (by simpa using h1) (by simpa using h2); simpa using this) q.2]
  | [], _ :: _, _, h, _, _, _ => by simp at h
  | [], _, _ :: _, _, h, _, _ => by simp at h
  | _ :: _, [], _, h, _, _, _ => by simp at h
  | _ :: _, _, [], _, h, _, _ => by simp at h
theorem sto_row {vs fs : List ByteArray} {rs : List (ByteArray × Int)} {is : List Int} {bs : List Bool} {js : List (List Int)} (h : storeB vs fs rs is bs js = true) : ∀ k : Nat, (h1 : k < js.length) → (h2 : k < rs.length) → (js[k].length : Int) = rs[k].2 := by
  intro k h1 h2
  unfold storeB at h
  rw [Bool.and_eq_true] at h
  have q := (of_decide_eq_true h.2 : stoP vs.length fs.length rs is bs js).2.2.2 k h2
  rw [List.getD_eq_getElem?_getD, List.getElem?_eq_getElem h1, Option.getD_some] at q
  exact q
theorem stW_free {vs fs : List ByteArray} {rs : List (ByteArray × Int)} {is : List Int} {bs : List Bool} {js : List (List Int)} (h : declB vs fs rs = true) : ∀ x ∈ stW vs fs rs is bs js, ByteFree 32 x := by
  obtain ⟨hv, hf, hr⟩ := names_free h
  intro x hx
  unfold stW at hx
  rcases List.mem_append.1 hx with hx | hx
  · rcases List.mem_append.1 hx with hx | hx
    · obtain ⟨p, hp, hx⟩ := List.mem_flatMap.1 hx
      obtain ⟨i, hi, rfl⟩ := List.getElem_of_mem hp
      simp only [prI, List.getElem_zipWith] at hx
      simp only [List.mem_cons, List.not_mem_nil, or_false] at hx
      rcases hx with rfl | rfl
      · exact hv _ (List.getElem_mem _)
      · exact itB_free 32 (by decide) _
    · obtain ⟨p, hp, hx⟩ := List.mem_flatMap.1 hx
      obtain ⟨i, hi, rfl⟩ := List.getElem_of_mem hp
      simp only [prO, List.getElem_zipWith] at hx
      simp only [List.mem_cons, List.not_mem_nil, or_false] at hx
      rcases hx with rfl | rfl
      · exact hf _ (List.getElem_mem _)
      · exact boT_free _
  · obtain ⟨l, hl, hx⟩ := List.mem_flatten.1 hx
    obtain ⟨i, hi, rfl⟩ := List.getElem_of_mem hl
    have hi' := hi
    unfold wsJ at hi'
    rw [List.length_zipWith] at hi'
    simp only [wsJ, List.getElem_zipWith] at hx
    rcases List.mem_cons.1 hx with rfl | hx
    · exact hr i (by omega)
    · obtain ⟨z, _, rfl⟩ := List.mem_map.1 hx
      exact itB_free 32 (by decide) _
/-- Unlike stores have unlike texts. -/
theorem store_inj {vs fs : List ByteArray} {rs : List (ByteArray × Int)} {is is' : List Int} {bs bs' : List Bool} {js js' : List (List Int)} (h : storeB vs fs rs is bs js = true) (h' : storeB vs fs rs is' bs' js' = true) (e : jnS (stW vs fs rs is bs js) = jnS (stW vs fs rs is' bs' js')) : is = is' ∧ bs = bs' ∧ js = js' := by
  have hd : declB vs fs rs = true := by unfold storeB at h; rw [Bool.and_eq_true] at h; exact h.1
  obtain ⟨l1, l2, l3, _⟩ := sto_lens h
  obtain ⟨m1, m2, m3, _⟩ := sto_lens h'
  have hk : ∀ k : Nat, (q : k < js.length) → (q' : k < js'.length) → js[k].length = js'[k].length := fun k q q' => by
    have a := sto_row h k q (by omega)
    have b := sto_row h' k q' (by omega)
    omega
  have w1 : (flat (prI vs is)).length = (flat (prI vs is')).length := by simp only [flat_len, prI, List.length_zipWith]; omega
  have w2 : (flat (prO fs bs)).length = (flat (prO fs bs')).length := by simp only [flat_len, prO, List.length_zipWith]; omega
  have w3 := wsJ_len l3 m3 hk
  have q := jnS_inj _ _ (by simp only [stW, List.length_append]; omega) (stW_free hd) (stW_free hd) e
  unfold stW at q
  have q1 := List.append_inj q (by simp only [List.length_append]; omega)
  have q2 := List.append_inj q1.1 w1
  exact ⟨prI_inj l1 m1 (flat_inj _ _ q2.1), prO_inj l2 m2 (flat_inj _ _ q2.2), wsJ_inj l3 m3 hk q1.2⟩
theorem prs_free {vs fs : List ByteArray} {rs : List (ByteArray × Int)} {xs ys : List (Int × Int)} (h : declB vs fs rs = true) : ∀ x ∈ flat (prV vs xs ++ prA rs ys), ByteFree 32 x := by
  obtain ⟨hv, hf, hr⟩ := names_free h
  intro x hx
  obtain ⟨p, hp, hx⟩ := List.mem_flatMap.1 hx
  simp only [List.mem_cons, List.not_mem_nil, or_false] at hx
  rcases List.mem_append.1 hp with hp | hp
  · obtain ⟨i, hi, rfl⟩ := List.getElem_of_mem hp
    simp only [prV, List.getElem_zipWith] at hx
    rcases hx with rfl | rfl
    · exact hv _ (List.getElem_mem _)
    · exact ivT_free _
  · obtain ⟨i, hi, rfl⟩ := List.getElem_of_mem hp
    have hi' := hi
    unfold prA at hi'
    rw [List.length_zipWith] at hi'
    simp only [prA, List.getElem_zipWith] at hx
    rcases hx with rfl | rfl
    · exact hr i (by omega)
    · exact ivT_free _
theorem jn_blank : ∀ (l : List (ByteArray × ByteArray)), 0 < l.length → (32 : UInt8) ∈ (jnS (l.map prB)).data.toList
  | [], h => by simp at h
  | [p], _ => by simp [jnS, prB, ByteArray.data_append]
  | p :: q :: r, _ => by
    rw [List.map_cons, jnS_cons _ _ (by simp)]
    simp [ByteArray.data_append]
/-- Unlike bounds have unlike texts. -/
theorem env_inj {vs fs : List ByteArray} {rs : List (ByteArray × Int)} {lj : Bool} {xs ys xs' ys' : List (Int × Int)} (h : envB vs fs rs true xs ys = true) (h' : envB vs fs rs lj xs' ys' = true) (e : envT true vs rs xs ys = envT lj vs rs xs' ys') : lj = true ∧ xs = xs' ∧ ys = ys' := by
  have hd : declB vs fs rs = true := by unfold envB at h; rw [Bool.and_eq_true] at h; exact h.1
  obtain ⟨l1, l2, _⟩ := env_lensE h rfl
  have hlen : (prV vs xs ++ prA rs ys).length = vs.length + rs.length := by rw [List.length_append, prV_len l1, prA_len l2]; omega
  cases lj
  · exfalso
    unfold envT at e
    rw [if_neg (by simp), if_pos rfl] at e
    by_cases h0 : (prV vs xs ++ prA rs ys).length = 0
    · rw [if_pos h0] at e
      exact absurd (congrArg ByteArray.size e) (by decide)
    · rw [if_neg h0] at e
      have k := jn_blank _ (Nat.pos_of_ne_zero h0)
      rw [e] at k
      exact absurd k (by decide)
  · obtain ⟨m1, m2, _⟩ := env_lensE h' rfl
    have hlen' : (prV vs xs' ++ prA rs ys').length = vs.length + rs.length := by rw [List.length_append, prV_len m1, prA_len m2]; omega
    refine ⟨rfl, ?_⟩
    unfold envT at e
    rw [if_neg (show ¬ ((true : Bool) = false) by decide), if_neg (show ¬ ((true : Bool) = false) by decide)] at e
    by_cases h0 : vs.length + rs.length = 0
    · have a1 : xs = [] := List.eq_nil_of_length_eq_zero (by omega)
      have a2 : xs' = [] := List.eq_nil_of_length_eq_zero (by omega)
      have a3 : ys = [] := List.eq_nil_of_length_eq_zero (by omega)
      have a4 : ys' = [] := List.eq_nil_of_length_eq_zero (by omega)
      subst a1 a2 a3 a4
      exact ⟨rfl, rfl⟩
    · rw [if_neg (by omega), if_neg (by omega), ← jn_flat, ← jn_flat] at e
      have q := flat_inj _ _ (jnS_inj _ _ (by rw [flat_len, flat_len]; omega) (prs_free hd) (prs_free hd) e)
      have q1 := List.append_inj q (by rw [prV_len l1, prV_len m1]; omega)
      exact ⟨prV_inj l1 m1 q1.1, prA_inj l2 m2 q1.2⟩
end Go.Proofs.YtpdnnpnclgcpoaaDoor

