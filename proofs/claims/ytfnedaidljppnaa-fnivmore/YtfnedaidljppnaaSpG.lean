/- The specification's quotients of intervals. -/
import Derived.Test.YtfnedaidljppnaaSpD47
import Derived.Test.YtfnedaidljppnaaSpF
import Derived.Test.YtfnedaidljppnaaOpE
import Derived.Test.YtfnedaidljppnaaValD
namespace Go.Proofs.Ytfnedaidljppnaa
open Go.RowKit Go.Iv
set_option linter.unusedSimpArgs false

theorem l2Ends_nil (a b : Nat) (w : World) : Calls Try.prog 68 #[.slice (some ⟨a, 0, none⟩) 0 0, .slice (some ⟨b, 0, none⟩) 0 0] w fun e w' => e = .returned (.agg #[.int .i64 (zeroV).lo, .int .i64 (zeroV).hi, .bool (zeroV).live, .int .i64 (zeroV).al]) ∧ Below w.heap.size w w' := by
  go_enter Try.func68, Try.ntmps68
  go_wp2
  exact bodyPost_ret (v := .agg #[.int .i64 0, .int .i64 0, .bool false, .int .i64 0]) (by simp [results, Try.results68, go_sem]) rfl ⟨rfl, (Below.refl _ _).alloc (Nat.le_refl _) _⟩
theorem box47_nil (al ah : Int) (g cap : Nat) (w : World) : Calls Try.prog 51 #[.int .i64 47, .agg #[.int .i64 al, .int .i64 ah], .slice (some ⟨g, 0, none⟩) 0 cap] w fun e w' => e = .returned (.agg #[.int .i64 (zeroV).lo, .int .i64 (zeroV).hi, .bool (zeroV).live, .int .i64 (zeroV).al]) ∧ Below w.heap.size w w' := by
  go_enter Try.func51, Try.ntmps51
  go_wp2
  go_loopw [7, 8, 9] (fun l m i wr => l = .slice (some ⟨w.heap.size + 1 + 1, 0, none⟩) 0 0 ∧ m = .slice (some ⟨w.heap.size + 1 + 1 + 1, 0, none⟩) 0 0 ∧ i = .int .i64 0 ∧ wr = (((w.alloc (Obj.cells #[.int .i64 al, .int .i64 ah] 25)).alloc (Obj.cells #[.int .i64 0, .int .i64 0, .bool false, .int .i64 0] 30)).alloc (Obj.cells #[] 2)).alloc (Obj.cells #[] 2)) (fun _ _ _ _ => 0)
  case atStart => exact ⟨rfl, rfl, rfl, rfl⟩
  case round =>
    obtain ⟨rfl, rfl, rfl, rfl⟩ := hrel
    go_wp2_with fail
    refine (l2Ends_nil _ _ _).mono ?_
    rintro e w3 ⟨rfl, hb⟩
    obtain ⟨hc, hf⟩ := bcell hb
    have K := hide (((((Below.refl _ w).alloc (Nat.le_refl _) _).alloc (by simp) _).alloc (by simp; omega) _).alloc (by simp; omega) _ |>.trans (hb.mono (by simp; omega)))
    clear hb
    go_wp2
    exact bodyPost_ret (v := .agg #[.int .i64 (zeroV).lo, .int .i64 (zeroV).hi, .bool (zeroV).live, .int .i64 (zeroV).al]) (by simp [results, Try.results51, go_sem, hc]) rfl ⟨rfl, ((((unhide K).setCell (by simp) _).setCell (by simp) _).setCell (by simp) _).setCell (by simp) _⟩

theorem partsL_in (bl bh : Int) (hbl : In bl) (hbh : In bh) : ∀ i, i < (partsL bl bh).length → In (partsL bl bh)[i]!.1 ∧ In (partsL bl bh)[i]!.2 ∧ (partsL bl bh)[i]!.1 ≠ 0 ∧ (partsL bl bh)[i]!.2 ≠ 0 := by
  unfold In at *
  unfold partsL
  rw [mn_eq, mx_eq]
  by_cases h1 : bl < 0 <;> by_cases h2 : 0 < bh
  · rw [if_pos h1, if_pos h2]
    intro i hi
    rcases (show i = 0 ∨ i = 1 by simp at hi; omega) with rfl | rfl <;> simp <;> omega
  · rw [if_pos h1, if_neg h2]
    intro i hi
    obtain rfl : i = 0 := by simp at hi; omega
    simp; omega
  · rw [if_neg h1, if_pos h2]
    intro i hi
    obtain rfl : i = 0 := by simp at hi; omega
    simp; omega
  · rw [if_neg h1, if_neg h2]
    intro i hi
    simp at hi
theorem partsL_two (bl bh : Int) : (partsL bl bh).length ≤ 2 := by
  unfold partsL
  by_cases h1 : bl < 0 <;> by_cases h2 : 0 < bh <;> simp [h1, h2]
theorem boxP (al ah bl bh : Int) {w wr w2 : World} {v : Value} (h : PR w bl bh v (partsL bl bh) wr) (hb : Below wr.heap.size wr w2) (hal : In al) (hah : In ah) (hbl : In bl) (hbh : In bh) :
    Calls Try.prog 51 #[.int .i64 47, .agg #[.int .i64 al, .int .i64 ah], v] w2 fun e w' => e = .returned (.agg #[.int .i64 (spanL (corL (fun x y => x.tdiv y) al ah (partsL bl bh))).lo, .int .i64 (spanL (corL (fun x y => x.tdiv y) al ah (partsL bl bh))).hi, .bool (spanL (corL (fun x y => x.tdiv y) al ah (partsL bl bh))).live, .int .i64 (spanL (corL (fun x y => x.tdiv y) al ah (partsL bl bh))).al]) ∧ Below w2.heap.size w2 w' := by
  obtain ⟨g, cap, rfl, hg, hc⟩ := h.cells
  have hz := hb.size
  by_cases h0 : 0 < (partsL bl bh).length
  · exact box47 al ah (partsL bl bh) g cap w2 h0 (partsL_two _ _) (by omega) (fun i hi => ⟨(hb.cell (by exact hg)).trans (hc i hi).1, (hb.cell (by exact hg)).trans (hc i hi).2⟩) hal hah (partsL_in bl bh hbl hbh)
  · have e : partsL bl bh = [] := List.eq_nil_of_length_eq_zero (by omega)
    rw [e]
    exact box47_nil al ah g cap w2
theorem m3 (a b c : Int) : min (min a b) c = min (min a c) b := by omega
theorem M3 (a b c : Int) : max (max a b) c = max (max a c) b := by omega
theorem span4 (a b c d : Int) : spanL [a, b, c, d] = spanL [a, c, b, d] := by
  simp only [spanL, minL, maxL]
  rw [m3 a b c, M3 a b c]
theorem span8 (a b c d e f g h : Int) : spanL [a, b, c, d, e, f, g, h] = spanL [a, c, b, d, e, g, f, h] := by
  simp only [spanL, minL, maxL]
  rw [m3 a b c, M3 a b c, m3 _ f g, M3 _ f g]
theorem spanL_quo (al ah bl bh : Int) : spanL (corL (fun x y => x.tdiv y) al ah (partsL bl bh)) = spanL (quoL al ah bl bh) := by
  unfold partsL quoL
  rw [mn_eq, mx_eq]
  by_cases h1 : bl < 0 <;> by_cases h2 : 0 < bh
  · rw [if_pos h1, if_pos h2, if_pos h1, if_pos h2]; exact span8 _ _ _ _ _ _ _ _
  · rw [if_pos h1, if_neg h2, if_pos h1, if_neg h2]; exact span4 _ _ _ _
  · rw [if_neg h1, if_pos h2, if_neg h1, if_pos h2]; exact span4 _ _ _ _
  · rw [if_neg h1, if_neg h2, if_neg h1, if_neg h2]; rfl
theorem spanL_al (l : List Int) : (spanL l).al = 0 ∨ (spanL l).al = 4 := by
  cases l with
  | nil => exact .inl rfl
  | cons x l =>
    simp only [spanL, span]
    split
    · exact .inr rfl
    · simp only
      split
      · exact .inr rfl
      · exact .inl rfl
theorem or_zero (x : Int) (h : x = 0 ∨ x = 4) : bits .or .i64 x 0 = x := by rcases h with rfl | rfl <;> decide +kernel
end Go.Proofs.Ytfnedaidljppnaa
