/- Facts about the order of tokens. -/
import Derived.Test.YthldhjifnpfmiaaGreatDoorTkZ
namespace Go.Proofs.YthldhjifnpfmiaaGreatDoor
open Go.RowKit
set_option linter.unusedSimpArgs false

theorem cmpI_self (a : Int) : cmpI a a = 0 := by simp [cmpI]
theorem cmpI_neg (a b : Int) : cmpI a b = - cmpI b a := by
  rcases cmpI_cases a b with ⟨h, e⟩ | ⟨h, e⟩ | ⟨h, e⟩ <;> rcases cmpI_cases b a with ⟨h2, e2⟩ | ⟨h2, e2⟩ | ⟨h2, e2⟩ <;> omega
theorem orI_neg (x y : Int) : orI (-x) (-y) = - orI x y := by
  unfold orI
  by_cases h : x = 0
  · simp [h]
  · rw [if_neg h, if_neg (by omega)]
theorem entC_neg (p q : Int × Int) : entC p q = - entC q p := by
  unfold entC
  rw [cmpI_neg p.1 q.1, cmpI_neg p.2 q.2, orI_neg]
theorem entC_zero (p q : Int × Int) (h : entC p q = 0) : p = q := by
  obtain ⟨p1, p2⟩ := p
  obtain ⟨q1, q2⟩ := q
  unfold entC orI at h
  simp only at h
  rcases cmpI_cases p1 q1 with ⟨g, e⟩ | ⟨g, e⟩ | ⟨g, e⟩
  · rw [e] at h; simp at h
  · rw [e] at h; simp at h
  · rw [e] at h
    simp at h
    rcases cmpI_cases p2 q2 with ⟨g2, e2⟩ | ⟨g2, e2⟩ | ⟨g2, e2⟩
    · rw [e2] at h; simp at h
    · rw [e2] at h; simp at h
    · rw [g, g2]
theorem entC_self (p : Int × Int) : entC p p = 0 := by simp [entC, orI, cmpI]
theorem rowC_neg : ∀ (a b : List (Int × Int)), rowC a b = - rowC b a
  | [], [] => rfl
  | [], _ :: _ => rfl
  | _ :: _, [] => rfl
  | p :: ps, q :: qs => by
    show orI (entC p q) (rowC ps qs) = - orI (entC q p) (rowC qs ps)
    rw [entC_neg p q, rowC_neg ps qs, orI_neg]
theorem rowC_zero : ∀ (a b : List (Int × Int)), rowC a b = 0 → a = b
  | [], [], _ => rfl
  | [], _ :: _, h => by simp [rowC] at h
  | _ :: _, [], h => by simp [rowC] at h
  | p :: ps, q :: qs, h => by
    have h' : orI (entC p q) (rowC ps qs) = 0 := h
    unfold orI at h'
    by_cases e : entC p q = 0
    · rw [if_pos e] at h'
      rw [entC_zero p q e, rowC_zero ps qs h']
    · rw [if_neg e] at h'
      exact absurd h' e
theorem rowC_self : ∀ (a : List (Int × Int)), rowC a a = 0
  | [] => rfl
  | p :: ps => by
    show orI (entC p p) (rowC ps ps) = 0
    rw [entC_self, rowC_self ps]; rfl
theorem cmpI_lt (a b : Int) : cmpI a b < 0 ↔ a < b := by
  rcases cmpI_cases a b with ⟨h, e⟩ | ⟨h, e⟩ | ⟨h, e⟩ <;> omega
theorem cmpI_z (a b : Int) : cmpI a b = 0 ↔ a = b := by
  rcases cmpI_cases a b with ⟨h, e⟩ | ⟨h, e⟩ | ⟨h, e⟩ <;> omega
theorem orI_lt (x y : Int) : orI x y < 0 ↔ x < 0 ∨ (x = 0 ∧ y < 0) := by
  unfold orI
  by_cases h : x = 0
  · simp [h]
  · rw [if_neg h]; omega
theorem entC_lt3 (p q : Int × Int) : entC p q < 0 ↔ p.1 < q.1 ∨ (p.1 = q.1 ∧ p.2 < q.2) := by
  unfold entC
  rw [orI_lt, cmpI_lt, cmpI_z, cmpI_lt]
theorem rowC_trans : ∀ (a b c : List (Int × Int)), rowC a b < 0 → rowC b c < 0 → rowC a c < 0
  | [], b, [], h1, h2 => by
    cases b with
    | nil => exact h1
    | cons q qs => simp [rowC] at h2
  | [], _, _ :: _, _, _ => by simp [rowC]
  | p :: ps, [], _, h1, _ => by simp [rowC] at h1
  | p :: ps, q :: qs, [], _, h2 => by simp [rowC] at h2
  | p :: ps, q :: qs, r :: rs, h1, h2 => by
    have h1' : orI (entC p q) (rowC ps qs) < 0 := h1
    have h2' : orI (entC q r) (rowC qs rs) < 0 := h2
    show orI (entC p r) (rowC ps rs) < 0
    rw [orI_lt] at h1' h2' ⊢
    rcases h1' with a1 | ⟨a1, a2⟩
    · rcases h2' with b1 | ⟨b1, b2⟩
      · left
        rw [entC_lt3] at a1 b1 ⊢
        omega
      · left
        rw [← entC_zero q r b1]; exact a1
    · rcases h2' with b1 | ⟨b1, b2⟩
      · left
        rw [entC_zero p q a1]; exact b1
      · right
        exact ⟨by rw [entC_zero p q a1]; exact b1, rowC_trans ps qs rs a2 b2⟩
theorem tokC_neg (a b : List (Int × Int)) : tokC a b = - tokC b a := by
  unfold tokC
  rw [cmpI_neg a.length b.length, rowC_neg a b, orI_neg]
theorem tokC_self (a : List (Int × Int)) : tokC a a = 0 := by unfold tokC; rw [cmpI_self, rowC_self]; rfl
theorem tokC_zero (a b : List (Int × Int)) (h : tokC a b = 0) : a = b := by
  unfold tokC orI at h
  by_cases e : cmpI a.length b.length = 0
  · rw [if_pos e] at h; exact rowC_zero a b h
  · rw [if_neg e] at h; exact absurd h e
theorem tokC_trans (a b c : List (Int × Int)) (h1 : tokC a b < 0) (h2 : tokC b c < 0) : tokC a c < 0 := by
  unfold tokC at *
  rw [orI_lt, cmpI_lt, cmpI_z] at *
  rcases h1 with a1 | ⟨a1, a2⟩
  · left; omega
  · rcases h2 with b1 | ⟨b1, b2⟩
    · left; omega
    · right; exact ⟨by omega, rowC_trans a b c a2 b2⟩
end Go.Proofs.YthldhjifnpfmiaaGreatDoor
