/- What a widening comes to; three pairs and the steps, kept over calls. -/
import Derived.Test.YtojakiiohbmlaaaWidF
import Derived.Test.YtojakiiohbmlaaaWidD
namespace Go.Proofs.Ytojakiiohbmlaaa
open Go.RowKit Go.Iv
set_option linter.unusedSimpArgs false

theorem dn_inv (n : Int) (P : Int → Prop) (zs : List Int) (hs : ∀ s ∈ zs, s ≤ n → P s) : ∀ b, P b → P (zs.foldl (fun b s => if s ≤ n then mx b s else b) b) := by
  induction zs with
  | nil => exact fun b h => h
  | cons s zs ih =>
    intro b h
    refine ih (fun t ht => hs t (List.mem_cons_of_mem _ ht)) _ ?_
    show P (if s ≤ n then mx b s else b)
    split
    · rename_i hle
      unfold mx; split
      · exact hs s List.mem_cons_self hle
      · exact h
    · exact h
theorem up_inv (n : Int) (P : Int → Prop) (zs : List Int) (hs : ∀ s ∈ zs, n ≤ s → P s) : ∀ b, P b → P (zs.foldl (fun b s => if n ≤ s then mn b s else b) b) := by
  induction zs with
  | nil => exact fun b h => h
  | cons s zs ih =>
    intro b h
    refine ih (fun t ht => hs t (List.mem_cons_of_mem _ ht)) _ ?_
    show P (if n ≤ s then mn b s else b)
    split
    · rename_i hle
      unfold mn; split
      · exact hs s List.mem_cons_self hle
      · exact h
    · exact h
theorem dn_le (n : Int) (h : In n) (zs : List Int) : dn n zs ≤ n := dn_inv n (· ≤ n) zs (fun _ _ h => h) _ (by unfold In at h; show (-9223372036854775808 : Int) ≤ n; omega)
theorem up_ge (n : Int) (h : In n) (zs : List Int) : n ≤ up n zs := up_inv n (n ≤ ·) zs (fun _ _ h => h) _ (by unfold In at h; show n ≤ (9223372036854775807 : Int); omega)
theorem dn_mem (n : Int) (zs : List Int) : dn n zs = -9223372036854775808 ∨ dn n zs ∈ zs := dn_inv n (fun x => x = -9223372036854775808 ∨ x ∈ zs) zs (fun _ h _ => .inr h) _ (.inl rfl)
theorem up_mem (n : Int) (zs : List Int) : up n zs = 9223372036854775807 ∨ up n zs ∈ zs := up_inv n (fun x => x = 9223372036854775807 ∨ x ∈ zs) zs (fun _ h _ => .inr h) _ (.inl rfl)

/-- Whether an end was found so far. -/
def fnd (c : Bool) (x : Int) (zs : List Int) : Bool := c || zs.any (fun s => s == x)
theorem fnd_snoc (c : Bool) (x : Int) (zs : List Int) (k : Nat) (h : k < zs.length) : fnd c x (zs.take (k + 1)) = (fnd c x (zs.take k) || zs[k] == x) := by
  rw [take_snoc zs k h]; unfold fnd; rw [List.any_append, ← Bool.or_assoc]; simp only [List.any_cons, List.any_nil, Bool.or_false]
theorem wid_facts (al ah bl bh : Int) (zs : List Int) (h3 : In bl) (h4 : In bh) (ho : al ≤ ah ∧ bl ≤ bh ∧ zs.length ≤ 100) :
    leqB al ah (widL al ah bl bh zs) (widH al ah bl bh zs) = true ∧ leqB bl bh (widL al ah bl bh zs) (widH al ah bl bh zs) = true ∧
    widL (widL al ah bl bh zs) (widH al ah bl bh zs) bl bh zs = widL al ah bl bh zs ∧ widH (widL al ah bl bh zs) (widH al ah bl bh zs) bl bh zs = widH al ah bl bh zs ∧
    widL (widL al ah bl bh zs) (widH al ah bl bh zs) al ah [] = widL al ah bl bh zs ∧ widH (widL al ah bl bh zs) (widH al ah bl bh zs) al ah [] = widH al ah bl bh zs ∧
    fnd (widL al ah bl bh zs == al || widL al ah bl bh zs == -9223372036854775808) (widL al ah bl bh zs) zs = true ∧ fnd (widH al ah bl bh zs == ah || widH al ah bl bh zs == 9223372036854775807) (widH al ah bl bh zs) zs = true := by
  obtain ⟨X, hX⟩ : ∃ X, X = widL al ah bl bh zs := ⟨_, rfl⟩
  obtain ⟨Y, hY⟩ : ∃ Y, Y = widH al ah bl bh zs := ⟨_, rfl⟩
  rw [← hX, ← hY]
  have eX : X = if bl < al then dn bl zs else al := by rw [hX]; exact if_pos ho
  have eY : Y = if ah < bh then up bh zs else ah := by rw [hY]; exact if_pos ho
  have d := dn_le bl h3 zs
  have u := up_ge bh h4 zs
  have x1 : X ≤ al ∧ X ≤ bl := by rw [eX]; split <;> omega
  have y1 : ah ≤ Y ∧ bh ≤ Y := by rw [eY]; split <;> omega
  refine ⟨decide_eq_true (by omega), decide_eq_true (by omega), ?_, ?_, ?_, ?_, ?_, ?_⟩
  · unfold widL; rw [if_pos ⟨by omega, ho.2.1, ho.2.2⟩, if_neg (by omega)]
  · unfold widH; rw [if_pos ⟨by omega, ho.2.1, ho.2.2⟩, if_neg (by omega)]
  · unfold widL; rw [if_pos ⟨by omega, ho.1, by simp⟩, if_neg (by omega)]
  · unfold widH; rw [if_pos ⟨by omega, ho.1, by simp⟩, if_neg (by omega)]
  · unfold fnd
    rw [eX]
    split
    · rcases dn_mem bl zs with h | h
      · rw [h]; simp
      · simp only [Bool.or_eq_true, List.any_eq_true]
        exact .inr ⟨_, h, by simp⟩
    · simp
  · unfold fnd
    rw [eY]
    split
    · rcases up_mem bh zs with h | h
      · rw [h]; simp
      · simp only [Bool.or_eq_true, List.any_eq_true]
        exact .inr ⟨_, h, by simp⟩
    · simp

@[reducible] def SW (w0 : World) (M A B C : Nat) (al ah bl bh x y : Int) (q : Nat) (zs : List Int) (w : World) : Prop :=
  w.cell? ⟨A, 0, none⟩ = some (.int .i64 al) ∧ w.cell? ⟨A, 1, none⟩ = some (.int .i64 ah) ∧ w.cell? ⟨B, 0, none⟩ = some (.int .i64 bl) ∧ w.cell? ⟨B, 1, none⟩ = some (.int .i64 bh) ∧ w.cell? ⟨C, 0, none⟩ = some (.int .i64 x) ∧ w.cell? ⟨C, 1, none⟩ = some (.int .i64 y) ∧ Hid (Below M w0 w ∧ M ≤ w.heap.size ∧ A < w.heap.size ∧ B < w.heap.size ∧ C < w.heap.size ∧ Ints w (some ⟨q, 0, none⟩) zs)
theorem SW.call {w0 w w1 : World} {M A B C : Nat} {al ah bl bh x y : Int} {q : Nat} {zs : List Int} (hb : Below w.heap.size w w1) (h : SW w0 M A B C al ah bl bh x y q zs w) : SW w0 M A B C al ah bl bh x y q zs w1 := by
  obtain ⟨a0, a1, b0, b1, c0, c1, r⟩ := h
  obtain ⟨k, s, ha, hbb, hc, hi⟩ := unhide r
  have g := hb.size
  exact ⟨(hb.cell (by exact ha)).trans a0, (hb.cell (by exact ha)).trans a1, (hb.cell (by exact hbb)).trans b0, (hb.cell (by exact hbb)).trans b1, (hb.cell (by exact hc)).trans c0, (hb.cell (by exact hc)).trans c1, hide ⟨k.trans (hb.mono s), by omega, by omega, by omega, by omega, hi.call hb⟩⟩
theorem SW.drew {w0 w : World} {M A B C : Nat} {al ah bl bh x y : Int} {q : Nat} {zs : List Int} (h : SW w0 M A B C al ah bl bh x y q zs w) : SW w0 M A B C al ah bl bh x y q zs w.drew := SW.call (Below.refl _ w).drew h
theorem SW.drewN {w0 w : World} {M A B C : Nat} {al ah bl bh x y : Int} {q : Nat} {zs : List Int} (h : SW w0 M A B C al ah bl bh x y q zs w) (n : Nat) : SW w0 M A B C al ah bl bh x y q zs (w.drewN n) := SW.call (below_drewN (Below.refl _ w) n) h
theorem SW.new {w0 w : World} {M A B : Nat} {al ah bl bh : Int} {q : Nat} {zs : List Int} (a0 : w.cell? ⟨A, 0, none⟩ = some (.int .i64 al)) (a1 : w.cell? ⟨A, 1, none⟩ = some (.int .i64 ah)) (b0 : w.cell? ⟨B, 0, none⟩ = some (.int .i64 bl)) (b1 : w.cell? ⟨B, 1, none⟩ = some (.int .i64 bh)) (k : Below M w0 w) (s : M ≤ w.heap.size) (hi : Ints w (some ⟨q, 0, none⟩) zs) (x y : Int) (t : TypeId) :
    SW w0 M A B w.heap.size al ah bl bh x y q zs (w.alloc (.cells #[.int .i64 x, .int .i64 y] t)) := by
  have ha := World.block_lt_of_cell? w _ a0
  have hb := World.block_lt_of_cell? w _ b0
  have n := (Below.refl _ w).alloc (Nat.le_refl _) (.cells #[.int .i64 x, .int .i64 y] t)
  exact ⟨(n.cell (by exact ha)).trans a0, (n.cell (by exact ha)).trans a1, (n.cell (by exact hb)).trans b0, (n.cell (by exact hb)).trans b1, by simp, by simp, hide ⟨k.alloc s _, by simp; omega, by have := n.size; exact Nat.lt_of_lt_of_le ha this, by have := n.size; exact Nat.lt_of_lt_of_le hb this, by simp, hi.call n⟩⟩
end Go.Proofs.Ytojakiiohbmlaaa
