/- Of more an operation gives more. -/
import Derived.Test.YtfnedaidljppnaaTwoP
namespace Go.Proofs.Ytfnedaidljppnaa
open Go.RowKit Go.Iv
set_option linter.unusedSimpArgs false

/-- What of v is in w: what may come out, and the alarms. -/
def Mor (v w : V) : Prop := (v.live = true → w.live = true ∧ w.lo ≤ v.lo ∧ v.hi ≤ w.hi) ∧ bits .andNot .i64 v.al w.al = 0
theorem minL_glb (x0 : Int) (l : List Int) (z : Int) (h : ∀ x ∈ x0 :: l, z ≤ x) : z ≤ minL x0 l := by
  rcases minL_mem x0 l with e | e
  · rw [e]; exact h _ List.mem_cons_self
  · exact h _ (List.mem_cons_of_mem _ e)
theorem maxL_lub (x0 : Int) (l : List Int) (z : Int) (h : ∀ x ∈ x0 :: l, x ≤ z) : maxL x0 l ≤ z := by
  rcases maxL_mem x0 l with e | e
  · rw [e]; exact h _ List.mem_cons_self
  · exact h _ (List.mem_cons_of_mem _ e)
theorem minL_le_all (x0 : Int) (l : List Int) (x : Int) (h : x ∈ x0 :: l) : minL x0 l ≤ x := by
  rcases List.mem_cons.1 h with rfl | h
  · exact minL_le _ _
  · exact minL_le_mem _ _ _ h
theorem maxL_ge_all (x0 : Int) (l : List Int) (x : Int) (h : x ∈ x0 :: l) : x ≤ maxL x0 l := by
  rcases List.mem_cons.1 h with rfl | h
  · exact maxL_ge _ _
  · exact maxL_ge_mem _ _ _ h
/-- The alarm of what does not fit, of more there is more. -/
theorem span_mor (m M m' M' : Int) (h1 : m' ≤ m) (h2 : M ≤ M') (h3 : m ≤ M) : ((span m M).live = true → (span m' M').live = true ∧ (span m' M').lo ≤ (span m M).lo ∧ (span m M).hi ≤ (span m' M').hi) ∧ ((span m M).al = 4 → (span m' M').al = 4) := by
  unfold span
  by_cases h : M < -9223372036854775808 ∨ 9223372036854775807 < m
  · rw [if_pos h]
    refine ⟨fun k => by simp at k, fun _ => ?_⟩
    split
    · rfl
    · simp only; rw [if_pos (by omega)]
  · rw [if_neg h, if_neg (show ¬ (M' < -9223372036854775808 ∨ 9223372036854775807 < m') by omega)]
    simp only
    refine ⟨fun _ => ⟨trivial, by omega, by omega⟩, fun k => ?_⟩
    by_cases hk : m < -9223372036854775808 ∨ 9223372036854775807 < M
    · rw [if_pos (by omega)]
    · rw [if_neg hk] at k; simp at k
theorem spanL_mor (l l' : List Int) (h1 : ∀ x ∈ l, ∃ y ∈ l', y ≤ x) (h2 : ∀ x ∈ l, ∃ y ∈ l', x ≤ y) : ((spanL l).live = true → (spanL l').live = true ∧ (spanL l').lo ≤ (spanL l).lo ∧ (spanL l).hi ≤ (spanL l').hi) ∧ ((spanL l).al = 4 → (spanL l').al = 4) := by
  cases l with
  | nil => exact ⟨fun h => by simp [spanL, zeroV] at h, fun h => by simp [spanL, zeroV] at h⟩
  | cons x0 l =>
    cases l' with
    | nil => obtain ⟨y, hy, _⟩ := h1 x0 List.mem_cons_self; simp at hy
    | cons y0 l' =>
      refine span_mor _ _ _ _ ?_ ?_ (min_le_max _ _)
      · refine minL_glb _ _ _ (fun x hx => ?_)
        obtain ⟨y, hy, hle⟩ := h1 x hx
        exact Int.le_trans (minL_le_all _ _ _ hy) hle
      · refine maxL_lub _ _ _ (fun x hx => ?_)
        obtain ⟨y, hy, hle⟩ := h2 x hx
        exact Int.le_trans hle (maxL_ge_all _ _ _ hy)
theorem andN (x y d f : Int) (hx : x = 0 ∨ x = 4) (hy : y = 0 ∨ y = 4) (hd : d = 0 ∨ d = 1) (hf : f = 0 ∨ f = 1) (h1 : x = 4 → y = 4) (h2 : d = 1 → f = 1) : bits .andNot .i64 (bits .or .i64 x d) (bits .or .i64 y f) = 0 := by
  rcases hx with rfl | rfl <;> rcases hy with rfl | rfl <;> rcases hd with rfl | rfl <;> rcases hf with rfl | rfl
  all_goals first
    | decide +kernel
    | (exfalso; have := h1 rfl; omega)
    | (exfalso; have := h2 rfl; omega)
theorem andN0 (x y : Int) (hx : x = 0 ∨ x = 4) (hy : y = 0 ∨ y = 4) (h1 : x = 4 → y = 4) : bits .andNot .i64 x y = 0 := by
  rcases hx with rfl | rfl <;> rcases hy with rfl | rfl
  all_goals first
    | decide +kernel
    | (exfalso; have := h1 rfl; omega)
theorem cor_mor (f : Int → Int → Int) (al ah bl bh al' ah' bl' bh' : Int) (h : al ≤ ah ∧ bl ≤ bh) (hA : al' ≤ al ∧ ah ≤ ah') (hB : bl' ≤ bl ∧ bh ≤ bh')
    (hc : ∀ x y, al' ≤ x → x ≤ ah' → bl' ≤ y → y ≤ bh' → mn4 (f al' bl') (f al' bh') (f ah' bl') (f ah' bh') ≤ f x y ∧ f x y ≤ mx4 (f al' bl') (f al' bh') (f ah' bl') (f ah' bh')) : Mor (corV f al ah bl bh) (corV f al' ah' bl' bh') := by
  have e : corV f al ah bl bh = spanL [f al bl, f al bh, f ah bl, f ah bh] := if_pos h
  have e' : corV f al' ah' bl' bh' = spanL [f al' bl', f al' bh', f ah' bl', f ah' bh'] := if_pos (by omega)
  have hx : ∀ x ∈ [f al bl, f al bh, f ah bl, f ah bh], mn4 (f al' bl') (f al' bh') (f ah' bl') (f ah' bh') ≤ x ∧ x ≤ mx4 (f al' bl') (f al' bh') (f ah' bl') (f ah' bh') := by
    intro x hx
    simp only [List.mem_cons, List.not_mem_nil, or_false] at hx
    rcases hx with rfl | rfl | rfl | rfl
    · exact hc al bl (by omega) (by omega) (by omega) (by omega)
    · exact hc al bh (by omega) (by omega) (by omega) (by omega)
    · exact hc ah bl (by omega) (by omega) (by omega) (by omega)
    · exact hc ah bh (by omega) (by omega) (by omega) (by omega)
  have k := spanL_mor _ _ (fun x h => mn4_mem _ _ _ _ _ (hx x h).1) (fun x h => mx4_mem _ _ _ _ _ (hx x h).2)
  rw [e, e']
  exact ⟨k.1, andN0 _ _ (spanL_al _) (spanL_al _) k.2⟩
theorem dvA_mor (bl bh bl' bh' : Int) (hB : bl' ≤ bl ∧ bh ≤ bh') : dvA bl bh = 1 → dvA bl' bh' = 1 := by
  intro h
  have : bl ≤ 0 ∧ 0 ≤ bh := by
    by_cases k : bl ≤ 0 ∧ 0 ≤ bh
    · exact k
    · rw [show dvA bl bh = 0 from if_neg (by simp [hasB]; omega)] at h; omega
  exact dvA_has bl' bh' (by omega)
theorem quo_mor (al ah bl bh al' ah' bl' bh' : Int) (h : al ≤ ah ∧ bl ≤ bh) (hA : al' ≤ al ∧ ah ≤ ah') (hB : bl' ≤ bl ∧ bh ≤ bh') : Mor (quoV al ah bl bh) (quoV al' ah' bl' bh') := by
  have e : quoV al ah bl bh = { spanL (quoL al ah bl bh) with al := bits .or .i64 (spanL (quoL al ah bl bh)).al (dvA bl bh) } := if_pos h
  have e' : quoV al' ah' bl' bh' = { spanL (quoL al' ah' bl' bh') with al := bits .or .i64 (spanL (quoL al' ah' bl' bh')).al (dvA bl' bh') } := if_pos (by omega)
  -- a quotient of the less, by what is not 0, lies between corners of the more
  have hq : ∀ x y, al' ≤ x → x ≤ ah' → bl' ≤ y → y ≤ bh' → y ≠ 0 → (∃ z ∈ quoL al' ah' bl' bh', z ≤ x.tdiv y) ∧ (∃ z ∈ quoL al' ah' bl' bh', x.tdiv y ≤ z) := by
    intro x y x1 x2 y1 y2 y0
    rcases Int.lt_or_gt_of_ne y0 with hn | hp
    · have c := quo_corners al' ah' bl' (min bh' (-1)) x y (.inr (by omega)) x1 x2 y1 (by omega)
      obtain ⟨a, ha, ha'⟩ := mn4_mem _ _ _ _ _ c.1
      obtain ⟨b, hb, hb'⟩ := mx4_mem _ _ _ _ _ c.2
      refine ⟨⟨a, ?_, ha'⟩, ⟨b, ?_, hb'⟩⟩ <;> (unfold quoL; rw [if_pos (by omega)]; exact List.mem_append_left _ (by assumption))
    · have c := quo_corners al' ah' (max bl' 1) bh' x y (.inl (by omega)) x1 x2 (by omega) y2
      obtain ⟨a, ha, ha'⟩ := mn4_mem _ _ _ _ _ c.1
      obtain ⟨b, hb, hb'⟩ := mx4_mem _ _ _ _ _ c.2
      refine ⟨⟨a, ?_, ha'⟩, ⟨b, ?_, hb'⟩⟩ <;> (unfold quoL; rw [if_pos (show 0 < bh' by omega)]; exact List.mem_append_right _ (by assumption))
  have hm : ∀ z ∈ quoL al ah bl bh, ∃ x y, z = x.tdiv y ∧ al' ≤ x ∧ x ≤ ah' ∧ bl' ≤ y ∧ y ≤ bh' ∧ y ≠ 0 := by
    intro z hz
    unfold quoL at hz
    rcases List.mem_append.1 hz with hz | hz
    · by_cases k : bl < 0
      · rw [if_pos k] at hz
        simp only [List.mem_cons, List.not_mem_nil, or_false] at hz
        rcases hz with rfl | rfl | rfl | rfl
        · exact ⟨al, bl, rfl, by omega, by omega, by omega, by omega, by omega⟩
        · exact ⟨al, min bh (-1), rfl, by omega, by omega, by omega, by omega, by omega⟩
        · exact ⟨ah, bl, rfl, by omega, by omega, by omega, by omega, by omega⟩
        · exact ⟨ah, min bh (-1), rfl, by omega, by omega, by omega, by omega, by omega⟩
      · rw [if_neg k] at hz; simp at hz
    · by_cases k : 0 < bh
      · rw [if_pos k] at hz
        simp only [List.mem_cons, List.not_mem_nil, or_false] at hz
        rcases hz with rfl | rfl | rfl | rfl
        · exact ⟨al, max bl 1, rfl, by omega, by omega, by omega, by omega, by omega⟩
        · exact ⟨al, bh, rfl, by omega, by omega, by omega, by omega, by omega⟩
        · exact ⟨ah, max bl 1, rfl, by omega, by omega, by omega, by omega, by omega⟩
        · exact ⟨ah, bh, rfl, by omega, by omega, by omega, by omega, by omega⟩
      · rw [if_neg k] at hz; simp at hz
  have k := spanL_mor (quoL al ah bl bh) (quoL al' ah' bl' bh') (fun z hz => by obtain ⟨x, y, rfl, a, b, c, d, y0⟩ := hm z hz; exact (hq x y a b c d y0).1) (fun z hz => by obtain ⟨x, y, rfl, a, b, c, d, y0⟩ := hm z hz; exact (hq x y a b c d y0).2)
  rw [e, e']
  exact ⟨k.1, andN _ _ _ _ (spanL_al _) (spanL_al _) (dvA_cases _ _) (dvA_cases _ _) k.2 (dvA_mor bl bh bl' bh' hB)⟩
theorem andN1 (d f : Int) (hd : d = 0 ∨ d = 1) (hf : f = 0 ∨ f = 1) (h2 : d = 1 → f = 1) : bits .andNot .i64 d f = 0 := by
  rcases hd with rfl | rfl <;> rcases hf with rfl | rfl
  all_goals first
    | decide +kernel
    | (exfalso; have := h2 rfl; omega)
theorem rem_al (al ah bl bh : Int) (h : al ≤ ah ∧ bl ≤ bh) : (remV al ah bl bh).al = dvA bl bh := by
  unfold remV
  rw [if_pos h]
  split
  · rename_i k; exact (dvA_has bl bh (by omega)).symm
  · rfl
theorem rem_mor (al ah bl bh al' ah' bl' bh' : Int) (h : al ≤ ah ∧ bl ≤ bh) (hA : al' ≤ al ∧ ah ≤ ah') (hB : bl' ≤ bl ∧ bh ≤ bh') : Mor (remV al ah bl bh) (remV al' ah' bl' bh') := by
  refine ⟨fun hl => ?_, ?_⟩
  · by_cases h0 : bl = 0 ∧ bh = 0
    · rw [show remV al ah bl bh = ⟨0, 0, false, 1⟩ by unfold remV; rw [if_pos h, if_pos h0]] at hl; simp at hl
    · have e : remV al ah bl bh = ⟨reL al ah bl bh, reH al ah bl bh, true, dvA bl bh⟩ := by unfold remV; rw [if_pos h, if_neg h0]
      have e' : remV al' ah' bl' bh' = ⟨reL al' ah' bl' bh', reH al' ah' bl' bh', true, dvA bl' bh'⟩ := by unfold remV; rw [if_pos (by omega), if_neg (by omega)]
      by_cases h1 : al = ah ∧ bl = bh
      · have hr := rem_sound al' ah' bl' bh' al bl (by omega) (by omega) (by omega)
        rw [e] at hl ⊢
        refine ⟨hr.1, ?_⟩
        have hh := of_decide_eq_true hr.2
        show _ ≤ reL al ah bl bh ∧ reH al ah bl bh ≤ _
        unfold reL reH
        rw [if_pos h1, if_pos h1]
        exact hh
      · rw [e, e']
        refine ⟨rfl, ?_⟩
        show reL al' ah' bl' bh' ≤ reL al ah bl bh ∧ reH al ah bl bh ≤ reH al' ah' bl' bh'
        unfold reL reH
        rw [if_neg h1, if_neg h1, if_neg (by omega), if_neg (by omega), M1_eq, M1_eq, mn_eq, mx_eq, mx_eq, mn_eq, mn_eq, mx_eq, mx_eq, mn_eq]
        have hM : M1 bl bh ≤ M1 bl' bh' := by unfold M1 dist; omega
        omega
  · rw [rem_al al ah bl bh h, rem_al al' ah' bl' bh' (by omega)]
    exact andN1 _ _ (dvA_cases _ _) (dvA_cases _ _) (dvA_mor bl bh bl' bh' hB)
theorem more_any (k al ah bl bh al' ah' bl' bh' : Int) (h0 : 0 ≤ k) (h4 : k ≤ 4) (h : al ≤ ah ∧ bl ≤ bh) (hA : al' ≤ al ∧ ah ≤ ah') (hB : bl' ≤ bl ∧ bh ≤ bh') : Mor (opV k al ah bl bh) (opV k al' ah' bl' bh') := by
  rcases k_cases h0 h4 with rfl | rfl | rfl | rfl | rfl
  · exact cor_mor (fun x y => x + y) al ah bl bh al' ah' bl' bh' h hA hB (fun x y _ _ _ _ => by unfold mn4 mx4; omega)
  · exact cor_mor (fun x y => x - y) al ah bl bh al' ah' bl' bh' h hA hB (fun x y _ _ _ _ => by unfold mn4 mx4; omega)
  · exact cor_mor (fun x y => x * y) al ah bl bh al' ah' bl' bh' h hA hB (fun x y a b c d => mul_corners al' ah' bl' bh' x y a b c d)
  · exact quo_mor al ah bl bh al' ah' bl' bh' h hA hB
  · exact rem_mor al ah bl bh al' ah' bl' bh' h hA hB
theorem span_ok (m M : Int) (h : m ≤ M) (hl : (span m M).live = true) : (span m M).lo ≤ (span m M).hi := by
  unfold span at *
  by_cases k : M < -9223372036854775808 ∨ 9223372036854775807 < m
  · rw [if_pos k] at hl; simp at hl
  · rw [if_neg k]; simp only; omega
theorem spanL_ok (l : List Int) (hl : (spanL l).live = true) : (spanL l).lo ≤ (spanL l).hi := by
  cases l with
  | nil => simp [spanL, zeroV] at hl
  | cons x l => exact span_ok _ _ (min_le_max _ _) hl
theorem cor_ok (f : Int → Int → Int) (al ah bl bh : Int) (hl : (corV f al ah bl bh).live = true) : (corV f al ah bl bh).lo ≤ (corV f al ah bl bh).hi := by
  by_cases h : al ≤ ah ∧ bl ≤ bh
  · rw [show corV f al ah bl bh = spanL [f al bl, f al bh, f ah bl, f ah bh] from if_pos h] at hl ⊢; exact spanL_ok _ hl
  · rw [show corV f al ah bl bh = zeroV from if_neg h] at hl; simp [zeroV] at hl
theorem live_ok (k al ah bl bh : Int) (h0 : 0 ≤ k) (h4 : k ≤ 4) (hl : (opV k al ah bl bh).live = true) : (opV k al ah bl bh).lo ≤ (opV k al ah bl bh).hi := by
  rcases k_cases h0 h4 with rfl | rfl | rfl | rfl | rfl
  · exact cor_ok _ al ah bl bh hl
  · exact cor_ok _ al ah bl bh hl
  · exact cor_ok _ al ah bl bh hl
  · have hl' : (quoV al ah bl bh).live = true := hl
    show (quoV al ah bl bh).lo ≤ (quoV al ah bl bh).hi
    by_cases h : al ≤ ah ∧ bl ≤ bh
    · have e : quoV al ah bl bh = { spanL (quoL al ah bl bh) with al := bits .or .i64 (spanL (quoL al ah bl bh)).al (dvA bl bh) } := if_pos h
      rw [e] at hl' ⊢; exact spanL_ok _ hl'
    · rw [show quoV al ah bl bh = zeroV from if_neg h] at hl'; simp [zeroV] at hl'
  · have hl' : (remV al ah bl bh).live = true := hl
    show (remV al ah bl bh).lo ≤ (remV al ah bl bh).hi
    by_cases h : al ≤ ah ∧ bl ≤ bh
    · by_cases h0 : bl = 0 ∧ bh = 0
      · rw [show remV al ah bl bh = ⟨0, 0, false, 1⟩ by unfold remV; rw [if_pos h, if_pos h0]] at hl'; simp at hl'
      · rw [show remV al ah bl bh = ⟨reL al ah bl bh, reH al ah bl bh, true, dvA bl bh⟩ by unfold remV; rw [if_pos h, if_neg h0]]
        show reL al ah bl bh ≤ reH al ah bl bh
        unfold reL reH
        by_cases h1 : al = ah ∧ bl = bh
        · rw [if_pos h1, if_pos h1]; exact Int.le_refl _
        · rw [if_neg h1, if_neg h1, mn_eq, mx_eq, mx_eq, mx_eq]; omega
    · rw [show remV al ah bl bh = zeroV from if_neg h] at hl'; simp [zeroV] at hl'
/-- What the law asks of an answer and of those of more. -/
theorem more_law (k al ah bl bh cl ch dl dh : Int) (h0 : 0 ≤ k) (h4 : k ≤ 4) (h : al ≤ ah ∧ bl ≤ bh) (hA : cl ≤ al ∧ ah ≤ ch) (hB : dl ≤ bl ∧ bh ≤ dh) :
    ((opV k al ah bl bh).live = true → (opV k cl ch dl dh).live = true ∧ leqB (opV k al ah bl bh).lo (opV k al ah bl bh).hi (opV k cl ch dl dh).lo (opV k cl ch dl dh).hi = true) ∧ bits .andNot .i64 (opV k al ah bl bh).al (opV k cl ch dl dh).al = 0 := by
  have m := more_any k al ah bl bh cl ch dl dh h0 h4 h hA hB
  refine ⟨fun hl => ⟨(m.1 hl).1, decide_eq_true ⟨live_ok k al ah bl bh h0 h4 hl, live_ok k cl ch dl dh h0 h4 (m.1 hl).1, (m.1 hl).2.1, (m.1 hl).2.2⟩⟩, m.2⟩
theorem C4.set_far {b c o : Nat} {x y : Int} {l : Bool} {u : Int} {w : World} {v : Value} (h : C4 b x y l u w) (hne : c ≠ b) : C4 b x y l u (w.setCell ⟨c, o, none⟩ v) := by
  obtain ⟨⟨c0, c1, c2, c3⟩, h3, h4⟩ := h
  have k : ∀ j, (w.setCell ⟨c, o, none⟩ v).cell? ⟨b, j, none⟩ = w.cell? ⟨b, j, none⟩ := fun j => World.cell?_setCell_other _ _ _ _ (fun e => hne (congrArg Addr.block e))
  exact ⟨⟨(k 0).trans c0, (k 1).trans c1, (k 2).trans c2, (k 3).trans c3⟩, by simpa [World.setCell] using h3, fun o => (World.frozen?_setCell _ _ _ _).trans (h4 o)⟩
theorem C4.new (w : World) (x y : Int) (l : Bool) (u : Int) (t : TypeId) : C4 w.heap.size x y l u (w.alloc (.cells #[.int .i64 x, .int .i64 y, .bool l, .int .i64 u] t)) := ⟨⟨by simp, by simp, by simp, by simp⟩, by simp, fun o => by simp [go_sem]⟩
theorem C4.put {b : Nat} {x y x' y' : Int} {l l' : Bool} {u u' : Int} {w : World} (h : C4 b x y l u w) : C4 b x' y' l' u' ((((w.setCell ⟨b, 0, none⟩ (.int .i64 x')).setCell ⟨b, 1, none⟩ (.int .i64 y')).setCell ⟨b, 2, none⟩ (.bool l')).setCell ⟨b, 3, none⟩ (.int .i64 u')) := by
  have s := set4_at (x := .int .i64 x') (y := .int .i64 y') (z := .bool l') (u := .int .i64 u') h.1.1 h.1.2.1 h.1.2.2.1 h.1.2.2.2
  exact ⟨⟨s.1, s.2.1, s.2.2.1, s.2.2.2.1⟩, s.2.2.2.2, fun o => by rw [World.frozen?_setCell, World.frozen?_setCell, World.frozen?_setCell, World.frozen?_setCell]; exact h.2.2 o⟩
theorem DrawIvMul_c (a : Option Addr) (len cap : Nat) (w : World) (h : Code w a len) : Calls Try.prog 15 #[.slice a len cap] w fun e w' => ∃ l g l' g' : Int, e = .returned (.tuple #[.agg #[.int .i64 l, .int .i64 g], .agg #[.int .i64 l', .int .i64 g']]) ∧ In l ∧ In g ∧ In l' ∧ In g' ∧ Below w.heap.size w w' := by
  have H0 := hide h
  clear h
  go_enter Try.func15, Try.ntmps15
  go_wp2_with fail
  refine (DrawIvAdd_c _ _ _ _ (((unhide H0).alloc _).alloc _)).mono ?_
  rintro e w1 ⟨x, y, x', y', rfl, hx, hy, hx', hy', hb⟩
  have X := hide (show In x ∧ In y ∧ In x' ∧ In y' from ⟨hx, hy, hx', hy'⟩)
  have K1 := hide ((((Below.refl _ w).alloc (Nat.le_refl _) _).alloc (by simp) _).trans (hb.mono (by simp; omega)))
  obtain ⟨hc1, hf1⟩ := bcell hb
  have b0 : w1.cell? ⟨w.heap.size, 0, none⟩ = some (.int .i64 0) := (hc1 _ _ (by simp; omega)).trans (by simp)
  have b1 : w1.cell? ⟨w.heap.size, 1, none⟩ = some (.int .i64 0) := (hc1 _ _ (by simp; omega)).trans (by simp)
  have f0 : w1.frozen? ⟨w.heap.size, 0, none⟩ = false := (hf1 _ _ (by simp; omega)).trans (by simp)
  have f1 : w1.frozen? ⟨w.heap.size, 1, none⟩ = false := (hf1 _ _ (by simp; omega)).trans (by simp)
  have c0 : w1.cell? ⟨w.heap.size + 1, 0, none⟩ = some (.int .i64 0) := (hc1 _ _ (by simp)).trans (by simp)
  have c1 : w1.cell? ⟨w.heap.size + 1, 1, none⟩ = some (.int .i64 0) := (hc1 _ _ (by simp)).trans (by simp)
  have g0 : w1.frozen? ⟨w.heap.size + 1, 0, none⟩ = false := (hf1 _ _ (by simp)).trans (by simp)
  have g1 : w1.frozen? ⟨w.heap.size + 1, 1, none⟩ = false := (hf1 _ _ (by simp)).trans (by simp)
  clear hx hy hx' hy' hb H0 hc1 hf1
  go_wp2
  exact bodyPost_ret (v := .tuple #[.agg #[.int .i64 x, .int .i64 y], .agg #[.int .i64 x', .int .i64 y']]) (by simp [results, Try.results15, go_sem, b0, b1, c0, c1]) rfl ⟨x, y, x', y', rfl, (unhide X).1, (unhide X).2.1, (unhide X).2.2.1, (unhide X).2.2.2, ((((unhide K1).setCell (by simp) _).setCell (by simp) _).setCell (by simp) _).setCell (by simp) _⟩
theorem DrawIvSub_c (a : Option Addr) (len cap : Nat) (w : World) (h : Code w a len) : Calls Try.prog 16 #[.slice a len cap] w fun e w' => ∃ l g l' g' : Int, e = .returned (.tuple #[.agg #[.int .i64 l, .int .i64 g], .agg #[.int .i64 l', .int .i64 g']]) ∧ In l ∧ In g ∧ In l' ∧ In g' ∧ Below w.heap.size w w' := by
  have H0 := hide h
  clear h
  go_enter Try.func16, Try.ntmps16
  go_wp2_with fail
  refine (DrawIvAdd_c _ _ _ _ (((unhide H0).alloc _).alloc _)).mono ?_
  rintro e w1 ⟨x, y, x', y', rfl, hx, hy, hx', hy', hb⟩
  have X := hide (show In x ∧ In y ∧ In x' ∧ In y' from ⟨hx, hy, hx', hy'⟩)
  have K1 := hide ((((Below.refl _ w).alloc (Nat.le_refl _) _).alloc (by simp) _).trans (hb.mono (by simp; omega)))
  obtain ⟨hc1, hf1⟩ := bcell hb
  have b0 : w1.cell? ⟨w.heap.size, 0, none⟩ = some (.int .i64 0) := (hc1 _ _ (by simp; omega)).trans (by simp)
  have b1 : w1.cell? ⟨w.heap.size, 1, none⟩ = some (.int .i64 0) := (hc1 _ _ (by simp; omega)).trans (by simp)
  have f0 : w1.frozen? ⟨w.heap.size, 0, none⟩ = false := (hf1 _ _ (by simp; omega)).trans (by simp)
  have f1 : w1.frozen? ⟨w.heap.size, 1, none⟩ = false := (hf1 _ _ (by simp; omega)).trans (by simp)
  have c0 : w1.cell? ⟨w.heap.size + 1, 0, none⟩ = some (.int .i64 0) := (hc1 _ _ (by simp)).trans (by simp)
  have c1 : w1.cell? ⟨w.heap.size + 1, 1, none⟩ = some (.int .i64 0) := (hc1 _ _ (by simp)).trans (by simp)
  have g0 : w1.frozen? ⟨w.heap.size + 1, 0, none⟩ = false := (hf1 _ _ (by simp)).trans (by simp)
  have g1 : w1.frozen? ⟨w.heap.size + 1, 1, none⟩ = false := (hf1 _ _ (by simp)).trans (by simp)
  clear hx hy hx' hy' hb H0 hc1 hf1
  go_wp2
  exact bodyPost_ret (v := .tuple #[.agg #[.int .i64 x, .int .i64 y], .agg #[.int .i64 x', .int .i64 y']]) (by simp [results, Try.results16, go_sem, b0, b1, c0, c1]) rfl ⟨x, y, x', y', rfl, (unhide X).1, (unhide X).2.1, (unhide X).2.2.1, (unhide X).2.2.2, ((((unhide K1).setCell (by simp) _).setCell (by simp) _).setCell (by simp) _).setCell (by simp) _⟩
end Go.Proofs.Ytfnedaidljppnaa
