/- Where there is no alarm both ends are corners. -/
import Derived.Test.YtfnedaidljppnaaTwoO
import Derived.Test.YtfnedaidljppnaaTwoD
namespace Go.Proofs.Ytfnedaidljppnaa
open Go.RowKit Go.Iv
set_option linter.unusedSimpArgs false

theorem span_ends (m M : Int) (h1 : (span m M).live = true) (h2 : (span m M).al = 0) : In m ∧ In M ∧ (span m M).lo = m ∧ (span m M).hi = M := by
  unfold span at *
  by_cases h : M < -9223372036854775808 ∨ 9223372036854775807 < m
  · rw [if_pos h] at h1; simp at h1
  · rw [if_neg h] at h1 h2 ⊢
    simp only at h2 ⊢
    by_cases k : m < -9223372036854775808 ∨ 9223372036854775807 < M
    · rw [if_pos k] at h2; simp at h2
    · unfold In; omega
theorem cl_in (x : Int) (h : In x) : clO x = 0 ∧ clN x = x := by
  rcases clO_cases x with ⟨_, c, _⟩ | ⟨_, c, _⟩ | ⟨e, _, d⟩
  · unfold In at h; omega
  · unfold In at h; omega
  · exact ⟨e, d⟩
theorem spanL_ends (x0 : Int) (l : List Int) (h1 : (spanL (x0 :: l)).live = true) (h2 : (spanL (x0 :: l)).al = 0) :
    (∃ x ∈ x0 :: l, clO x = 0 ∧ clN x = (spanL (x0 :: l)).lo) ∧ (∃ x ∈ x0 :: l, clO x = 0 ∧ clN x = (spanL (x0 :: l)).hi) := by
  have h := span_ends (minL x0 l) (maxL x0 l) h1 h2
  refine ⟨⟨minL x0 l, ?_, (cl_in _ h.1).1, ?_⟩, ⟨maxL x0 l, ?_, (cl_in _ h.2.1).1, ?_⟩⟩
  · rcases minL_mem x0 l with e | e
    · rw [e]; exact List.mem_cons_self
    · exact List.mem_cons_of_mem _ e
  · rw [(cl_in _ h.1).2]; exact h.2.2.1.symm
  · rcases maxL_mem x0 l with e | e
    · rw [e]; exact List.mem_cons_self
    · exact List.mem_cons_of_mem _ e
  · rw [(cl_in _ h.2.1).2]; exact h.2.2.2.symm
def cA (al ah : Int) (i : Nat) : Int := if i % 2 = 0 then al else ah
def cB (bl bh : Int) (i : Nat) : Int := if i / 2 = 0 then bl else bh
/-- Whether one of the first corners is the number e. -/
def endB (k al ah bl bh e : Int) (q : Nat) : Bool := (List.range q).any fun i => numO k (cA al ah i) (cB bl bh i) == 0 && numN k (cA al ah i) (cB bl bh i) == e
theorem endB_succ (k al ah bl bh e : Int) (q : Nat) : endB k al ah bl bh e (q + 1) = (endB k al ah bl bh e q || (numO k (cA al ah q) (cB bl bh q) == 0 && numN k (cA al ah q) (cB bl bh q) == e)) := by
  unfold endB; rw [List.range_succ, List.any_append]; simp only [List.any_cons, List.any_nil, Bool.or_false]
theorem endB_of (k al ah bl bh e : Int) (i : Nat) (hi : i < 4) (h : numO k (cA al ah i) (cB bl bh i) = 0 ∧ numN k (cA al ah i) (cB bl bh i) = e) : endB k al ah bl bh e 4 = true := by
  unfold endB; rw [List.any_eq_true]; exact ⟨i, by simpa using hi, by simp [h]⟩
theorem ends4 (k al ah bl bh e : Int) (f : Int → Int → Int) (hN : ∀ x y, (x = al ∨ x = ah) → (y = bl ∨ y = bh) → numN k x y = clN (f x y) ∧ numO k x y = clO (f x y)) (h : ∃ x ∈ [f al bl, f al bh, f ah bl, f ah bh], clO x = 0 ∧ clN x = e) : endB k al ah bl bh e 4 = true := by
  obtain ⟨x, hx, h1, h2⟩ := h
  simp only [List.mem_cons, List.not_mem_nil, or_false] at hx
  rcases hx with rfl | rfl | rfl | rfl
  · exact endB_of k al ah bl bh e 0 (by decide) (by have := hN al bl (.inl rfl) (.inl rfl); exact ⟨this.2.trans h1, this.1.trans h2⟩)
  · exact endB_of k al ah bl bh e 2 (by decide) (by have := hN al bh (.inl rfl) (.inr rfl); exact ⟨this.2.trans h1, this.1.trans h2⟩)
  · exact endB_of k al ah bl bh e 1 (by decide) (by have := hN ah bl (.inr rfl) (.inl rfl); exact ⟨this.2.trans h1, this.1.trans h2⟩)
  · exact endB_of k al ah bl bh e 3 (by decide) (by have := hN ah bh (.inr rfl) (.inr rfl); exact ⟨this.2.trans h1, this.1.trans h2⟩)
theorem cor_ends (k al ah bl bh : Int) (f : Int → Int → Int) (hN : ∀ x y, (x = al ∨ x = ah) → (y = bl ∨ y = bh) → numN k x y = clN (f x y) ∧ numO k x y = clO (f x y)) (h1 : (corV f al ah bl bh).live = true) (h2 : (corV f al ah bl bh).al = 0) :
    endB k al ah bl bh (corV f al ah bl bh).lo 4 = true ∧ endB k al ah bl bh (corV f al ah bl bh).hi 4 = true := by
  by_cases h : al ≤ ah ∧ bl ≤ bh
  · rw [show corV f al ah bl bh = spanL [f al bl, f al bh, f ah bl, f ah bh] from if_pos h] at h1 h2 ⊢
    have := spanL_ends _ _ h1 h2
    exact ⟨ends4 k al ah bl bh _ f hN this.1, ends4 k al ah bl bh _ f hN this.2⟩
  · rw [show corV f al ah bl bh = zeroV from if_neg h] at h1; simp [zeroV] at h1
theorem or_zero_inv (x d : Int) (hx : x = 0 ∨ x = 4) (hd : d = 0 ∨ d = 1) (h : bits .or .i64 x d = 0) : x = 0 ∧ d = 0 := by
  rcases hx with rfl | rfl <;> rcases hd with rfl | rfl
  · exact ⟨rfl, rfl⟩
  · exact absurd h (by decide +kernel)
  · exact absurd h (by decide +kernel)
  · exact absurd h (by decide +kernel)
theorem quo_ends (al ah bl bh : Int) (h1 : (quoV al ah bl bh).live = true) (h2 : (quoV al ah bl bh).al = 0) :
    endB 3 al ah bl bh (quoV al ah bl bh).lo 4 = true ∧ endB 3 al ah bl bh (quoV al ah bl bh).hi 4 = true := by
  by_cases h : al ≤ ah ∧ bl ≤ bh
  · have e : quoV al ah bl bh = { spanL (quoL al ah bl bh) with al := bits .or .i64 (spanL (quoL al ah bl bh)).al (dvA bl bh) } := if_pos h
    rw [e] at h1 h2 ⊢
    simp only at h1 h2 ⊢
    obtain ⟨h3, h4⟩ := or_zero_inv _ _ (spanL_al _) (dvA_cases bl bh) h2
    have hd : ¬ (bl ≤ 0 ∧ 0 ≤ bh) := fun k => by rw [dvA_has bl bh k] at h4; omega
    have hq : quoL al ah bl bh = [al.tdiv bl, al.tdiv bh, ah.tdiv bl, ah.tdiv bh] := by
      unfold quoL
      by_cases hb : bl < 0
      · rw [if_pos hb, if_neg (by omega), show min bh (-1) = bh by omega]; rfl
      · rw [if_neg hb, if_pos (by omega), show max bl 1 = bl by omega]; rfl
    rw [hq] at h1 h3 ⊢
    have hs := spanL_ends _ _ h1 h3
    have hN : ∀ x y, (x = al ∨ x = ah) → (y = bl ∨ y = bh) → numN 3 x y = clN (x.tdiv y) ∧ numO 3 x y = clO (x.tdiv y) := by
      intro x y _ hy
      have : y ≠ 0 := by omega
      exact ⟨if_neg this, if_neg this⟩
    exact ⟨ends4 3 al ah bl bh _ (fun x y => x.tdiv y) hN hs.1, ends4 3 al ah bl bh _ (fun x y => x.tdiv y) hN hs.2⟩
  · rw [show quoV al ah bl bh = zeroV from if_neg h] at h1; simp [zeroV] at h1
theorem ends_any (k al ah bl bh : Int) (h0 : 0 ≤ k) (h3 : k ≤ 3) (h1 : (opV k al ah bl bh).live = true) (h2 : (opV k al ah bl bh).al = 0) :
    endB k al ah bl bh (opV k al ah bl bh).lo 4 = true ∧ endB k al ah bl bh (opV k al ah bl bh).hi 4 = true := by
  rcases (show k = 0 ∨ k = 1 ∨ k = 2 ∨ k = 3 by omega) with rfl | rfl | rfl | rfl
  · exact cor_ends 0 al ah bl bh (fun x y => x + y) (fun _ _ _ _ => ⟨rfl, rfl⟩) h1 h2
  · exact cor_ends 1 al ah bl bh (fun x y => x - y) (fun _ _ _ _ => ⟨rfl, rfl⟩) h1 h2
  · exact cor_ends 2 al ah bl bh (fun x y => x * y) (fun _ _ _ _ => ⟨rfl, rfl⟩) h1 h2
  · exact quo_ends al ah bl bh h1 h2
theorem s5_call {w0 w W : World} {M A C : Nat} {al ah bl bh x y u x' y' u' : Int} {l l' : Bool} (h : S2 w0 M A al ah bl bh w ∧ C4 C x y l u w ∧ C4 (C + 1) x' y' l' u' w) (hb : Below w.heap.size w W) : S2 w0 M A al ah bl bh W ∧ C4 C x y l u W ∧ C4 (C + 1) x' y' l' u' W :=
  ⟨S2.call hb h.1, C4.call hb h.2.1, C4.call hb h.2.2⟩
theorem DrawIvQuo_c (a : Option Addr) (len cap : Nat) (w : World) (h : Code w a len) : Calls Try.prog 20 #[.slice a len cap] w fun e w' => ∃ l g l' g' : Int, e = .returned (.tuple #[.agg #[.int .i64 l, .int .i64 g], .agg #[.int .i64 l', .int .i64 g']]) ∧ In l ∧ In g ∧ In l' ∧ In g' ∧ Below w.heap.size w w' := by
  have H0 := hide h
  clear h
  go_enter Try.func20, Try.ntmps20
  go_wp2_with fail
  refine (DrawIvAdd_c _ _ _ _ (((unhide H0).alloc _).alloc _)).mono ?_
  rintro e w1 ⟨x, y, x', y', rfl, hx, hy, hx', hy', hb⟩
  have X := hide (show In x ∧ In y ∧ In x' ∧ In y' from ⟨hx, hy, hx', hy'⟩)
  have K1 := hide ((((Below.refl _ w).alloc (Nat.le_refl _) _).alloc (by simp) _).trans (hb.mono (by simp; omega)))
  obtain ⟨hc1, hf1⟩ := bcell hb
  have b0 : w1.cell? ⟨w.heap.size, 0, none⟩ = some (.int .i64 0) := (hc1 _ _ (by simp; omega)).trans (by simp)
  have b1 : w1.cell? ⟨w.heap.size, 1, none⟩ = some (.int .i64 0) := (hc1 _ _ (by simp; omega)).trans (by simp)
  have f0 : w1.frozen? ⟨w.heap.size, 0, none⟩ = false := (hf1 _ _ (by simp; omega)).trans (by simp)
  have f1 : w1.frozen? ⟨w.heap.size, 1, none⟩ = false := (hf1 _ _ (by simp; omega)).trans (by simp)
  have c0 : w1.cell? ⟨w.heap.size + 1, 0, none⟩ = some (.int .i64 0) := (hc1 _ _ (by simp)).trans (by simp)
  have c1 : w1.cell? ⟨w.heap.size + 1, 1, none⟩ = some (.int .i64 0) := (hc1 _ _ (by simp)).trans (by simp)
  have g0 : w1.frozen? ⟨w.heap.size + 1, 0, none⟩ = false := (hf1 _ _ (by simp)).trans (by simp)
  have g1 : w1.frozen? ⟨w.heap.size + 1, 1, none⟩ = false := (hf1 _ _ (by simp)).trans (by simp)
  clear hx hy hx' hy' hb H0 hc1 hf1
  go_wp2
  exact bodyPost_ret (v := .tuple #[.agg #[.int .i64 x, .int .i64 y], .agg #[.int .i64 x', .int .i64 y']]) (by simp [results, Try.results20, go_sem, b0, b1, c0, c1]) rfl ⟨x, y, x', y', rfl, (unhide X).1, (unhide X).2.1, (unhide X).2.2.1, (unhide X).2.2.2, ((((unhide K1).setCell (by simp) _).setCell (by simp) _).setCell (by simp) _).setCell (by simp) _⟩
end Go.Proofs.Ytfnedaidljppnaa
