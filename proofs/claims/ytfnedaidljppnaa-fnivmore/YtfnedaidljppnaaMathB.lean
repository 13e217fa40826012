namespace Go.Iv

/-- f lies between its values at the ends of l .. h. -/
def Btw (f : Int → Int) (l h : Int) : Prop := ∀ x, l ≤ x → x ≤ h → min (f l) (f h) ≤ f x ∧ f x ≤ max (f l) (f h)

theorem btw_up (f : Int → Int) (l h : Int) (hm : ∀ x y, l ≤ x → x ≤ y → y ≤ h → f x ≤ f y) : Btw f l h := by
  intro x h1 h2
  have a := hm l x (by omega) h1 h2
  have b := hm x h h1 h2 (by omega)
  omega
theorem btw_down (f : Int → Int) (l h : Int) (hm : ∀ x y, l ≤ x → x ≤ y → y ≤ h → f y ≤ f x) : Btw f l h := by
  intro x h1 h2
  have a := hm l x (by omega) h1 h2
  have b := hm x h h1 h2 (by omega)
  omega

def mn4 (a b c d : Int) : Int := min (min a b) (min c d)
def mx4 (a b c d : Int) : Int := max (max a b) (max c d)

/-- Corners bound a function of two numbers that lies between its ends in each. -/
theorem corners (f : Int → Int → Int) (al ah bl bh x y : Int) (h1 : ∀ y, bl ≤ y → y ≤ bh → Btw (fun x => f x y) al ah) (h2 : ∀ x, al ≤ x → x ≤ ah → Btw (fun y => f x y) bl bh)
    (hx1 : al ≤ x) (hx2 : x ≤ ah) (hy1 : bl ≤ y) (hy2 : y ≤ bh) :
    mn4 (f al bl) (f al bh) (f ah bl) (f ah bh) ≤ f x y ∧ f x y ≤ mx4 (f al bl) (f al bh) (f ah bl) (f ah bh) := by
  have a := h1 y hy1 hy2 x hx1 hx2
  have b := h2 al (by omega) (by omega) y hy1 hy2
  have c := h2 ah (by omega) (by omega) y hy1 hy2
  simp only at a b c
  unfold mn4 mx4
  omega

theorem mul_btw_left (y al ah : Int) : Btw (fun x => x * y) al ah := by
  by_cases h : 0 ≤ y
  · exact btw_up _ _ _ (fun a b _ hab _ => Int.mul_le_mul_of_nonneg_right hab h)
  · exact btw_down _ _ _ (fun a b _ hab _ => Int.mul_le_mul_of_nonpos_right hab (by omega))
theorem mul_btw_right (x bl bh : Int) : Btw (fun y => x * y) bl bh := by
  have := mul_btw_left x bl bh
  simpa [Int.mul_comm] using this

theorem mul_corners (al ah bl bh x y : Int) (hx1 : al ≤ x) (hx2 : x ≤ ah) (hy1 : bl ≤ y) (hy2 : y ≤ bh) :
    mn4 (al * bl) (al * bh) (ah * bl) (ah * bh) ≤ x * y ∧ x * y ≤ mx4 (al * bl) (al * bh) (ah * bl) (ah * bh) :=
  corners (fun x y => x * y) al ah bl bh x y (fun y _ _ => mul_btw_left y al ah) (fun x _ _ => mul_btw_right x bl bh) hx1 hx2 hy1 hy2

theorem tdiv_mono (a b c : Int) (h : 0 < c) (hab : a ≤ b) : a.tdiv c ≤ b.tdiv c := Int.tdiv_le_tdiv h hab
theorem tdiv_anti (x a b : Int) (hx : 0 ≤ x) (ha : 0 < a) (hab : a ≤ b) : x.tdiv b ≤ x.tdiv a := by
  obtain ⟨n, rfl⟩ := Int.eq_ofNat_of_zero_le hx
  obtain ⟨p, rfl⟩ := Int.eq_ofNat_of_zero_le (show 0 ≤ a by omega)
  obtain ⟨q, rfl⟩ := Int.eq_ofNat_of_zero_le (show 0 ≤ b by omega)
  rw [← Int.ofNat_tdiv, ← Int.ofNat_tdiv]
  have := Nat.div_le_div_left (a := n) (show p ≤ q by omega) (show 0 < p by omega)
  omega
theorem tdiv_btw_left (y al ah : Int) (h : y ≠ 0) : Btw (fun x => x.tdiv y) al ah := by
  by_cases hy : 0 < y
  · exact btw_up _ _ _ (fun a b _ hab _ => tdiv_mono a b y hy hab)
  · refine btw_down _ _ _ (fun a b _ hab _ => ?_)
    have := tdiv_mono a b (-y) (by omega) hab
    rw [Int.tdiv_neg, Int.tdiv_neg] at this
    show b.tdiv y ≤ a.tdiv y
    omega
theorem tdiv_btw_right (x bl bh : Int) (h : 0 < bl) : Btw (fun y => x.tdiv y) bl bh := by
  by_cases hx : 0 ≤ x
  · exact btw_down _ _ _ (fun a b ha hab _ => tdiv_anti x a b hx (by omega) hab)
  · refine btw_up _ _ _ (fun a b ha hab _ => ?_)
    have := tdiv_anti (-x) a b (by omega) (by omega) hab
    rw [Int.neg_tdiv, Int.neg_tdiv] at this
    show x.tdiv a ≤ x.tdiv b
    omega
theorem tdiv_btw_right' (x bl bh : Int) (h : bh < 0) : Btw (fun y => x.tdiv y) bl bh := by
  have := tdiv_btw_right x (-bh) (-bl) (by omega)
  intro y h1 h2
  have := this (-y) (by omega) (by omega)
  simp only [Int.tdiv_neg] at this
  show min (x.tdiv bl) (x.tdiv bh) ≤ x.tdiv y ∧ x.tdiv y ≤ max (x.tdiv bl) (x.tdiv bh)
  omega

theorem quo_corners (al ah bl bh x y : Int) (h : 0 < bl ∨ bh < 0) (hx1 : al ≤ x) (hx2 : x ≤ ah) (hy1 : bl ≤ y) (hy2 : y ≤ bh) :
    mn4 (al.tdiv bl) (al.tdiv bh) (ah.tdiv bl) (ah.tdiv bh) ≤ x.tdiv y ∧ x.tdiv y ≤ mx4 (al.tdiv bl) (al.tdiv bh) (ah.tdiv bl) (ah.tdiv bh) :=
  corners (fun x y => x.tdiv y) al ah bl bh x y (fun y _ _ => tdiv_btw_left y al ah (by omega)) (fun x _ _ => by rcases h with h | h; exact tdiv_btw_right x bl bh h; exact tdiv_btw_right' x bl bh h) hx1 hx2 hy1 hy2

end Go.Iv
