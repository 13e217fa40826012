/- What an operation gives of numbers of two intervals is in what it gives of these, or there is the alarm. -/
import Derived.Test.YtfnedaidljppnaaTwoM
import Derived.Test.YtfnedaidljppnaaMathB
namespace Go.Proofs.Ytfnedaidljppnaa
open Go.RowKit Go.Iv
set_option linter.unusedSimpArgs false

theorem span_sound (m M z : Int) (h1 : m ≤ z) (h2 : z ≤ M) : (In z → (span m M).live = true ∧ hasB (span m M).lo (span m M).hi z = true) ∧ (¬ In z → (span m M).al = 4) := by
  unfold span In hasB
  refine ⟨fun h => ?_, fun h => ?_⟩
  · rw [if_neg (by omega)]
    exact ⟨rfl, decide_eq_true (by simp only; omega)⟩
  · split
    · rfl
    · simp only
      rw [if_pos (by omega)]
theorem spanL_sound (l : List Int) (z : Int) (h : ∃ x ∈ l, x ≤ z) (h' : ∃ x ∈ l, z ≤ x) : (In z → (spanL l).live = true ∧ hasB (spanL l).lo (spanL l).hi z = true) ∧ (¬ In z → (spanL l).al = 4) := by
  cases l with
  | nil => obtain ⟨x, hx, _⟩ := h; simp at hx
  | cons x0 l =>
    refine span_sound _ _ z ?_ ?_
    · obtain ⟨x, hx, hz⟩ := h
      rcases List.mem_cons.1 hx with rfl | hx
      · exact Int.le_trans (minL_le _ _) hz
      · exact Int.le_trans (minL_le_mem _ _ _ hx) hz
    · obtain ⟨x, hx, hz⟩ := h'
      rcases List.mem_cons.1 hx with rfl | hx
      · exact Int.le_trans hz (maxL_ge _ _)
      · exact Int.le_trans hz (maxL_ge_mem _ _ _ hx)
theorem mn4_mem (a b c d z : Int) (h : mn4 a b c d ≤ z) : ∃ x ∈ [a, b, c, d], x ≤ z := by
  unfold mn4 at h
  rcases (show a ≤ z ∨ b ≤ z ∨ c ≤ z ∨ d ≤ z by omega) with h | h | h | h
  · exact ⟨a, by simp, h⟩
  · exact ⟨b, by simp, h⟩
  · exact ⟨c, by simp, h⟩
  · exact ⟨d, by simp, h⟩
theorem mx4_mem (a b c d z : Int) (h : z ≤ mx4 a b c d) : ∃ x ∈ [a, b, c, d], z ≤ x := by
  unfold mx4 at h
  rcases (show z ≤ a ∨ z ≤ b ∨ z ≤ c ∨ z ≤ d by omega) with h | h | h | h
  · exact ⟨a, by simp, h⟩
  · exact ⟨b, by simp, h⟩
  · exact ⟨c, by simp, h⟩
  · exact ⟨d, by simp, h⟩
/-- What is to be shown of an answer and an exact number. -/
def Snd (v : V) (z : Int) : Prop := (In z → v.live = true ∧ hasB v.lo v.hi z = true) ∧ (¬ In z → bits .and .i64 v.al 4 = 4)
theorem and44 : bits .and .i64 4 4 = 4 := by decide +kernel
theorem cor_sound (f : Int → Int → Int) (al ah bl bh x y : Int) (h1 : al ≤ ah) (h2 : bl ≤ bh) (hm : mn4 (f al bl) (f al bh) (f ah bl) (f ah bh) ≤ f x y) (hM : f x y ≤ mx4 (f al bl) (f al bh) (f ah bl) (f ah bh)) : Snd (corV f al ah bl bh) (f x y) := by
  unfold corV
  rw [if_pos ⟨h1, h2⟩]
  have h := spanL_sound _ _ (mn4_mem _ _ _ _ _ hm) (mx4_mem _ _ _ _ _ hM)
  exact ⟨h.1, fun k => by rw [h.2 k]; exact and44⟩
theorem add_sound (al ah bl bh x y : Int) (hx : al ≤ x ∧ x ≤ ah) (hy : bl ≤ y ∧ y ≤ bh) : Snd (corV (fun x y => x + y) al ah bl bh) (x + y) :=
  cor_sound (fun x y => x + y) al ah bl bh x y (by omega) (by omega) (by unfold mn4; omega) (by unfold mx4; omega)
theorem sub_sound (al ah bl bh x y : Int) (hx : al ≤ x ∧ x ≤ ah) (hy : bl ≤ y ∧ y ≤ bh) : Snd (corV (fun x y => x - y) al ah bl bh) (x - y) :=
  cor_sound (fun x y => x - y) al ah bl bh x y (by omega) (by omega) (by unfold mn4; omega) (by unfold mx4; omega)
theorem mul_sound (al ah bl bh x y : Int) (hx : al ≤ x ∧ x ≤ ah) (hy : bl ≤ y ∧ y ≤ bh) : Snd (corV (fun x y => x * y) al ah bl bh) (x * y) :=
  have h := mul_corners al ah bl bh x y hx.1 hx.2 hy.1 hy.2
  cor_sound (fun x y => x * y) al ah bl bh x y (by omega) (by omega) h.1 h.2
theorem or_and4 (d : Int) (h : d = 0 ∨ d = 1) : bits .and .i64 (bits .or .i64 4 d) 4 = 4 := by rcases h with rfl | rfl <;> decide +kernel
theorem or_and1 (x : Int) (h : x = 0 ∨ x = 4) : bits .and .i64 (bits .or .i64 x 1) 1 = 1 := by rcases h with rfl | rfl <;> decide +kernel
theorem dvA_cases (bl bh : Int) : dvA bl bh = 0 ∨ dvA bl bh = 1 := by unfold dvA; split <;> simp
theorem quo_sound (al ah bl bh x y : Int) (hx : al ≤ x ∧ x ≤ ah) (hy : bl ≤ y ∧ y ≤ bh) (h0 : y ≠ 0) : Snd (quoV al ah bl bh) (x.tdiv y) := by
  have h : (In (x.tdiv y) → (spanL (quoL al ah bl bh)).live = true ∧ hasB (spanL (quoL al ah bl bh)).lo (spanL (quoL al ah bl bh)).hi (x.tdiv y) = true) ∧ (¬ In (x.tdiv y) → (spanL (quoL al ah bl bh)).al = 4) := by
    rcases Int.lt_or_gt_of_ne h0 with hn | hp
    · have c := quo_corners al ah bl (min bh (-1)) x y (.inr (by omega)) hx.1 hx.2 hy.1 (by omega)
      obtain ⟨a, ha, ha'⟩ := mn4_mem _ _ _ _ _ c.1
      obtain ⟨b, hb, hb'⟩ := mx4_mem _ _ _ _ _ c.2
      refine spanL_sound _ _ ⟨a, ?_, ha'⟩ ⟨b, ?_, hb'⟩ <;> (unfold quoL; rw [if_pos (by omega)]; exact List.mem_append_left _ (by assumption))
    · have c := quo_corners al ah (max bl 1) bh x y (.inl (by omega)) hx.1 hx.2 (by omega) hy.2
      obtain ⟨a, ha, ha'⟩ := mn4_mem _ _ _ _ _ c.1
      obtain ⟨b, hb, hb'⟩ := mx4_mem _ _ _ _ _ c.2
      refine spanL_sound _ _ ⟨a, ?_, ha'⟩ ⟨b, ?_, hb'⟩ <;> (unfold quoL; rw [if_pos (show 0 < bh by omega)]; exact List.mem_append_right _ (by assumption))
  unfold Snd quoV
  rw [if_pos ⟨by omega, by omega⟩]
  exact ⟨h.1, fun k => by simp only; rw [h.2 k]; exact or_and4 _ (dvA_cases _ _)⟩
theorem dvA_has (bl bh : Int) (h : bl ≤ 0 ∧ 0 ≤ bh) : dvA bl bh = 1 := if_pos (decide_eq_true h)
theorem quo_div (al ah bl bh : Int) (ha : al ≤ ah) (h : bl ≤ 0 ∧ 0 ≤ bh) : bits .and .i64 (quoV al ah bl bh).al 1 = 1 := by
  unfold quoV
  rw [if_pos ⟨ha, by omega⟩, dvA_has bl bh h]
  exact or_and1 _ (spanL_al _)
theorem rem_div (al ah bl bh : Int) (ha : al ≤ ah) (h : bl ≤ 0 ∧ 0 ≤ bh) : bits .and .i64 (remV al ah bl bh).al 1 = 1 := by
  have o : bits .and .i64 1 1 = 1 := by decide +kernel
  unfold remV
  rw [if_pos ⟨ha, by omega⟩]
  split
  · exact o
  · simp only; rw [dvA_has bl bh h]; exact o
theorem tmod_bd (x y : Int) (h : y ≠ 0) : (0 ≤ x → 0 ≤ x.tmod y ∧ x.tmod y ≤ x) ∧ (x ≤ 0 → x ≤ x.tmod y ∧ x.tmod y ≤ 0) ∧ dist (x.tmod y) ≤ dist y - 1 := by
  have hs : dist (x.tmod y) = ((x.natAbs % y.natAbs : Nat) : Int) := by unfold dist; rw [Int.natAbs_tmod]
  have hlt : x.natAbs % y.natAbs < y.natAbs := Nat.mod_lt _ (by omega)
  have hle : x.natAbs % y.natAbs ≤ x.natAbs := Nat.mod_le _ _
  refine ⟨fun hx => ?_, fun hx => ?_, by rw [hs]; unfold dist; omega⟩
  · have := Int.tmod_nonneg y hx
    unfold dist at hs
    omega
  · have : 0 ≤ (-x).tmod y := Int.tmod_nonneg y (by omega)
    rw [Int.neg_tmod] at this
    unfold dist at hs
    omega
theorem rem_sound (al ah bl bh x y : Int) (hx : al ≤ x ∧ x ≤ ah) (hy : bl ≤ y ∧ y ≤ bh) (h0 : y ≠ 0) : (remV al ah bl bh).live = true ∧ hasB (remV al ah bl bh).lo (remV al ah bl bh).hi (reN x y) = true := by
  have hr : reN x y = x.tmod y := if_neg h0
  have hb := tmod_bd x y h0
  have e : remV al ah bl bh = ⟨reL al ah bl bh, reH al ah bl bh, true, dvA bl bh⟩ := by unfold remV; rw [if_pos ⟨by omega, by omega⟩, if_neg (by omega)]
  rw [e]
  refine ⟨rfl, decide_eq_true ?_⟩
  show reL al ah bl bh ≤ reN x y ∧ reN x y ≤ reH al ah bl bh
  by_cases h1 : al = ah ∧ bl = bh
  · unfold reL reH
    rw [if_pos h1, if_pos h1]
    obtain rfl : x = al := by omega
    obtain rfl : y = bl := by omega
    omega
  · unfold reL reH
    rw [if_neg h1, if_neg h1, M1_eq bl bh, mn_eq, mx_eq, mx_eq, mn_eq, hr]
    have hM : dist y - 1 ≤ M1 bl bh := by unfold M1 dist; omega
    generalize x.tmod y = r at hb ⊢
    generalize M1 bl bh = M at hM ⊢
    have h3 := hb.2.2
    unfold dist at h3 hM
    omega
end Go.Proofs.Ytfnedaidljppnaa
