/- The laws' operations, any of the five. -/
import Derived.Test.YtfnedaidljppnaaTwoS
namespace Go.Proofs.Ytfnedaidljppnaa
open Go.RowKit Go.Iv
set_option linter.unusedSimpArgs false

def opV (k al ah bl bh : Int) : V := if k = 0 then corV (fun x y => x + y) al ah bl bh else if k = 1 then corV (fun x y => x - y) al ah bl bh else if k = 2 then corV (fun x y => x * y) al ah bl bh else if k = 3 then quoV al ah bl bh else remV al ah bl bh
def numN (k a b : Int) : Int := if k = 0 then clN (a + b) else if k = 1 then clN (a - b) else if k = 2 then clN (a * b) else if k = 3 then quN a b else reN a b
def numO (k a b : Int) : Int := if k = 0 then clO (a + b) else if k = 1 then clO (a - b) else if k = 2 then clO (a * b) else if k = 3 then quO a b else 0
theorem k_cases {k : Int} (h0 : 0 ≤ k) (h4 : k ≤ 4) : k = 0 ∨ k = 1 ∨ k = 2 ∨ k = 3 ∨ k = 4 := by omega
theorem op_any (k al ah bl bh : Int) (h0 : 0 ≤ k) (h4 : k ≤ 4) (hal : In al) (hah : In ah) (hbl : In bl) (hbh : In bh) (w : World) : Calls Try.prog 10 #[.int .i64 k, .agg #[.int .i64 al, .int .i64 ah], .agg #[.int .i64 bl, .int .i64 bh]] w fun e w' => e = .returned (.tuple #[.agg #[.int .i64 (opV k al ah bl bh).lo, .int .i64 (opV k al ah bl bh).hi, .bool (opV k al ah bl bh).live, .int .i64 (opV k al ah bl bh).al], .agg #[.int .i64 (opV k al ah bl bh).lo, .int .i64 (opV k al ah bl bh).hi, .bool (opV k al ah bl bh).live, .int .i64 (opV k al ah bl bh).al]]) ∧ Below w.heap.size w w' := by
  rcases k_cases h0 h4 with rfl | rfl | rfl | rfl | rfl
  · rw [show opV 0 al ah bl bh = corV (fun x y => x + y) al ah bl bh from rfl]; exact op0_c al ah bl bh hal hah hbl hbh w
  · rw [show opV 1 al ah bl bh = corV (fun x y => x - y) al ah bl bh from rfl]; exact op1_c al ah bl bh hal hah hbl hbh w
  · rw [show opV 2 al ah bl bh = corV (fun x y => x * y) al ah bl bh from rfl]; exact op2_c al ah bl bh hal hah hbl hbh w
  · rw [show opV 3 al ah bl bh = quoV al ah bl bh from rfl]; exact op3_c al ah bl bh hal hah hbl hbh w
  · rw [show opV 4 al ah bl bh = remV al ah bl bh from rfl]; exact op4_c al ah bl bh hal hah hbl hbh w
theorem num_any (k a b : Int) (h0 : 0 ≤ k) (h4 : k ≤ 4) (ha : In a) (hb : In b) (w : World) : Calls Try.prog 13 #[.int .i64 k, .int .i64 a, .int .i64 b] w fun e w' => e = .returned (.tuple #[.int .i64 (numN k a b), .int .i64 (numO k a b)]) ∧ ∃ m, w' = w.drewN m := by
  rcases k_cases h0 h4 with rfl | rfl | rfl | rfl | rfl
  · exact num0_c a b ha hb w
  · exact num1_c a b ha hb w
  · exact num2_c a b ha hb w
  · exact num3_c a b ha hb w
  · exact num4_c a b ha hb w
theorem snd_of {v : V} {z : Int} (h : Snd v z) : (clO z ≠ 0 → bits .and .i64 v.al 4 = 4) ∧ (clO z = 0 → v.live = true ∧ hasB v.lo v.hi (clN z) = true) := by
  rcases clO_cases z with ⟨e, c, d⟩ | ⟨e, c, d⟩ | ⟨e, c, d⟩
  · exact ⟨fun _ => h.2 (by unfold In; omega), fun k => by omega⟩
  · exact ⟨fun _ => h.2 (by unfold In; omega), fun k => by omega⟩
  · exact ⟨fun k => absurd e k, fun _ => by rw [d]; exact h.1 c⟩
theorem sound_any (k al ah bl bh x y : Int) (h0 : 0 ≤ k) (h4 : k ≤ 4) (hx : al ≤ x ∧ x ≤ ah) (hy : bl ≤ y ∧ y ≤ bh) :
    (3 ≤ k → y = 0 → bits .and .i64 (opV k al ah bl bh).al 1 = 1) ∧ (¬ (3 ≤ k ∧ y = 0) → (numO k x y ≠ 0 → bits .and .i64 (opV k al ah bl bh).al 4 = 4) ∧ (numO k x y = 0 → (opV k al ah bl bh).live = true ∧ hasB (opV k al ah bl bh).lo (opV k al ah bl bh).hi (numN k x y) = true)) := by
  rcases k_cases h0 h4 with rfl | rfl | rfl | rfl | rfl
  · exact ⟨fun h => absurd h (by omega), fun _ => snd_of (add_sound al ah bl bh x y hx hy)⟩
  · exact ⟨fun h => absurd h (by omega), fun _ => snd_of (sub_sound al ah bl bh x y hx hy)⟩
  · exact ⟨fun h => absurd h (by omega), fun _ => snd_of (mul_sound al ah bl bh x y hx hy)⟩
  · refine ⟨fun _ h => ?_, fun h => ?_⟩
    · subst h; exact quo_div al ah bl bh (by omega) hy
    · have hy0 : y ≠ 0 := fun e => h ⟨by omega, e⟩
      have := snd_of (quo_sound al ah bl bh x y hx hy hy0)
      rw [show numO 3 x y = clO (x.tdiv y) from if_neg hy0, show numN 3 x y = clN (x.tdiv y) from if_neg hy0]
      exact this
  · refine ⟨fun _ h => ?_, fun h => ⟨fun e => absurd rfl e, fun _ => ?_⟩⟩
    · subst h; exact rem_div al ah bl bh (by omega) hy
    · have hy0 : y ≠ 0 := fun e => h ⟨by omega, e⟩
      exact rem_sound al ah bl bh x y hx hy hy0
end Go.Proofs.Ytfnedaidljppnaa
