/- The text of a store: its words. -/
import Derived.Test.YtcceeejmppamdaaDoorEtxD
import Derived.Test.YtcceeejmppamdaaDoorStoI
namespace Go.Proofs.YtcceeejmppamdaaDoor
open Go.RowKit
set_option linter.unusedSimpArgs false
set_option linter.unusedVariables false

def boT (b : Bool) : ByteArray := if b then ⟨#[116, 114, 117, 101]⟩ else ⟨#[102, 97, 108, 115, 101]⟩
def prI (vs : List ByteArray) (is : List Int) : List (ByteArray × ByteArray) := List.zipWith (fun n z => (n, itB z)) vs is
def prO (fs : List ByteArray) (bs : List Bool) : List (ByteArray × ByteArray) := List.zipWith (fun n b => (n, boT b)) fs bs
def wsJ (rs : List (ByteArray × Int)) (js : List (List Int)) : List (List ByteArray) := List.zipWith (fun r l => r.1 :: l.map itB) rs js
/-- The words of a store. -/
def stW (vs fs : List ByteArray) (rs : List (ByteArray × Int)) (is : List Int) (bs : List Bool) (js : List (List Int)) : List ByteArray := flat (prI vs is) ++ flat (prO fs bs) ++ (wsJ rs js).flatten
theorem prI_take {vs : List ByteArray} {is : List Int} (k : Nat) (h1 : k < vs.length) (h2 : k < is.length) : flat ((prI vs is).take (k + 1)) = flat ((prI vs is).take k) ++ [vs[k], itB is[k]] := by
  rw [List.take_succ_eq_append_getElem (by unfold prI; rw [List.length_zipWith]; omega), flat_app]
  simp [prI, flat]
theorem prO_take {fs : List ByteArray} {bs : List Bool} (k : Nat) (h1 : k < fs.length) (h2 : k < bs.length) : flat ((prO fs bs).take (k + 1)) = flat ((prO fs bs).take k) ++ [fs[k], boT bs[k]] := by
  rw [List.take_succ_eq_append_getElem (by unfold prO; rw [List.length_zipWith]; omega), flat_app]
  simp [prO, flat]
theorem wsJ_take {rs : List (ByteArray × Int)} {js : List (List Int)} (k : Nat) (h1 : k < rs.length) (h2 : k < js.length) : ((wsJ rs js).take (k + 1)).flatten = ((wsJ rs js).take k).flatten ++ (rs[k].1 :: (js[k].map itB)) := by
  rw [List.take_succ_eq_append_getElem (by unfold wsJ; rw [List.length_zipWith]; omega), List.flatten_append]
  simp [wsJ]
theorem prI_all {vs : List ByteArray} {is : List Int} (k : Nat) (h : is.length ≤ k) : (prI vs is).take k = prI vs is := List.take_of_length_le (by unfold prI; rw [List.length_zipWith]; omega)
theorem prO_all {fs : List ByteArray} {bs : List Bool} (k : Nat) (h : bs.length ≤ k) : (prO fs bs).take k = prO fs bs := List.take_of_length_le (by unfold prO; rw [List.length_zipWith]; omega)
theorem wsJ_all {rs : List (ByteArray × Int)} {js : List (List Int)} (k : Nat) (h : js.length ≤ k) : (wsJ rs js).take k = wsJ rs js := List.take_of_length_le (by unfold wsJ; rw [List.length_zipWith]; omega)
def InI (is : List Int) : Prop := ∀ i, (h : i < is.length) → (-9223372036854775808 ≤ is[i] ∧ is[i] ≤ 9223372036854775807)
def InJ (js : List (List Int)) : Prop := ∀ i, (h : i < js.length) → InI js[i]
theorem boT_size (b : Bool) : (boT b).size ≤ 5 := by cases b <;> decide
theorem stW_sizes {vs fs : List ByteArray} {rs : List (ByteArray × Int)} {is : List Int} {bs : List Bool} {js : List (List Int)} (hz : ∀ x ∈ namesOf vs fs rs, x.size ≤ 1048576) (hi : InI is) (hj : InJ js) : ∀ x ∈ stW vs fs rs is bs js, x.size ≤ 1048700 := by
  have hv : ∀ x ∈ vs, x.size ≤ 1048576 := fun x hx => hz x (by unfold namesOf; simp [hx])
  have hf : ∀ x ∈ fs, x.size ≤ 1048576 := fun x hx => hz x (by unfold namesOf; simp [hx])
  have hr : ∀ i, (h : i < rs.length) → rs[i].1.size ≤ 1048576 := fun i h => hz _ (by unfold namesOf; simp only [List.mem_append, List.mem_map]; exact .inr ⟨rs[i], List.getElem_mem _, rfl⟩)
  intro x hx
  unfold stW at hx
  rcases List.mem_append.1 hx with hx | hx
  · rcases List.mem_append.1 hx with hx | hx
    · refine flat_sizes (fun p hp => ?_) x hx
      obtain ⟨i, h, rfl⟩ := List.getElem_of_mem hp
      unfold prI at h ⊢
      rw [List.length_zipWith] at h
      simp only [List.getElem_zipWith]
      have := itB_size _ (hi i (by omega)).1 (hi i (by omega)).2
      exact ⟨hv _ (List.getElem_mem _), by omega⟩
    · refine flat_sizes (fun p hp => ?_) x hx
      obtain ⟨i, h, rfl⟩ := List.getElem_of_mem hp
      unfold prO at h ⊢
      rw [List.length_zipWith] at h
      simp only [List.getElem_zipWith]
      exact ⟨hf _ (List.getElem_mem _), by have := boT_size (bs[i]'(by omega)); omega⟩
  · obtain ⟨l, hl, hx⟩ := List.mem_flatten.1 hx
    obtain ⟨i, h, rfl⟩ := List.getElem_of_mem hl
    unfold wsJ at h hx
    rw [List.length_zipWith] at h
    simp only [List.getElem_zipWith] at hx
    rcases List.mem_cons.1 hx with rfl | hx
    · have := hr i (by omega); omega
    · obtain ⟨z, hz2, rfl⟩ := List.mem_map.1 hx
      obtain ⟨j, h2, rfl⟩ := List.getElem_of_mem hz2
      have q := hj i (by omega) j h2
      have := itB_size _ q.1 q.2
      omega
theorem sto_lens {vs fs : List ByteArray} {rs : List (ByteArray × Int)} {is : List Int} {bs : List Bool} {js : List (List Int)} (h : storeB vs fs rs is bs js = true) : vs.length = is.length ∧ fs.length = bs.length ∧ rs.length = js.length ∧ is.length ≤ 5 ∧ bs.length ≤ 3 ∧ js.length ≤ 2 ∧ ∀ k, (h : k < js.length) → js[k].length ≤ 16 := by
  unfold storeB at h
  rw [Bool.and_eq_true] at h
  have h1 := declB_len h.1
  have h0 := (of_decide_eq_true h.1 : declP vs fs rs).2.2.2.1
  obtain ⟨h2, h3, h4, h5⟩ := (of_decide_eq_true h.2 : stoP vs.length fs.length rs is bs js)
  refine ⟨h2.symm, h3.symm, h4.symm, by omega, by omega, by omega, fun k hk => ?_⟩
  have q := h5 k (by omega)
  have q2 := h0 k (by omega)
  rw [List.getD_eq_getElem?_getD, List.getElem?_eq_getElem hk, Option.getD_some] at q
  omega
end Go.Proofs.YtcceeejmppamdaaDoor
