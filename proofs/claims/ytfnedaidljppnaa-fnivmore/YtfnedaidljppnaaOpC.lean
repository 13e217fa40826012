/- What lies between the corners of a row. -/
import Derived.Test.YtfnedaidljppnaaOpB
import Derived.Deep.RegionHeld3
import Derived.Deep.DeepCutAuto
import Derived.Deep.DrawnRows
namespace Go.Proofs.Ytfnedaidljppnaa
open Go.RowKit Go.Iv
set_option linter.unusedSimpArgs false

theorem frozen_of_block {w : World} {b o : Nat} {cs : Array Value} {t : TypeId} (hb : w.heap[b]? = some (.cells cs t (0, 0))) : w.frozen? ⟨b, o, none⟩ = false := by
  simp [World.frozen?, hb]
theorem set2_block {w : World} {b : Nat} {p q x y : Value} {t : TypeId} (hb : w.heap[b]? = some (.cells #[p, q] t (0, 0))) :
    ((w.setCell ⟨b, 0, none⟩ x).setCell ⟨b, 1, none⟩ y).heap[b]? = some (.cells #[x, y] t (0, 0)) := by
  simp [World.setCell, Array.getElem?_modify, hb]
theorem set2_other {w : World} {b c : Nat} {x y : Value} (h : c ≠ b) : ((w.setCell ⟨b, 0, none⟩ x).setCell ⟨b, 1, none⟩ y).heap[c]? = w.heap[c]? := by
  rw [Below.heap_setCell _ _ _ _ (by exact h), Below.heap_setCell _ _ _ _ (by exact h)]

/-- Two cells of an old block; all that was there is as it was. -/
@[reducible] def S1 (w0 : World) (g o : Nat) (x y : Int) (w : World) : Prop :=
  w.cell? ⟨g, o, none⟩ = some (.int .i64 x) ∧ w.cell? ⟨g, o + 1, none⟩ = some (.int .i64 y) ∧ Below w0.heap.size w0 w ∧ g < w0.heap.size
theorem S1.drew {w0 w : World} {g o : Nat} {x y : Int} (h : S1 w0 g o x y w) : S1 w0 g o x y w.drew := ⟨h.1, h.2.1, h.2.2.1.drew, h.2.2.2⟩
theorem S1.to {w0 w w1 : World} {g o : Nat} {x y : Int} (k : Below w0.heap.size w w1) (h : S1 w0 g o x y w) : S1 w0 g o x y w1 :=
  ⟨(k.cell (by exact h.2.2.2)).trans h.1, (k.cell (by exact h.2.2.2)).trans h.2.1, h.2.2.1.trans k, h.2.2.2⟩
theorem S1.alloc {w0 w : World} {g o : Nat} {x y : Int} (h : S1 w0 g o x y w) (b : Obj) : S1 w0 g o x y (w.alloc b) := S1.to ((Below.refl _ _).alloc h.2.2.1.size b) h
theorem S1.set {w0 w : World} {g o b p : Nat} {x y : Int} (h : S1 w0 g o x y w) (hb : w0.heap.size ≤ b) (v : Value) : S1 w0 g o x y (w.setCell ⟨b, p, none⟩ v) := S1.to ((Below.refl _ _).setCell (by exact hb) v) h

/-- The least and the greatest corner so far lie in blocks of their own, the answer's block stands empty. -/
def St (w : World) (b c : Nat) (m M : Int) (wr : World) : Prop :=
  wr.heap[b]? = some (.cells #[.int .i64 (clN m), .int .i64 (clO m)] 77 (0, 0)) ∧ wr.heap[c]? = some (.cells #[.int .i64 (clN M), .int .i64 (clO M)] 77 (0, 0)) ∧
  wr.heap[w.heap.size]? = some (.cells #[.int .i64 0, .int .i64 0, .bool false, .int .i64 0] 30 (0, 0)) ∧ Below w.heap.size w wr
theorem St.lt {w wr : World} {b c : Nat} {m M : Int} (h : St w b c m M wr) : b < wr.heap.size ∧ c < wr.heap.size ∧ w.heap.size < wr.heap.size :=
  ⟨(Array.getElem?_eq_some_iff.1 h.1).1, (Array.getElem?_eq_some_iff.1 h.2.1).1, (Array.getElem?_eq_some_iff.1 h.2.2.1).1⟩
theorem St.to {w wr w1 : World} {b c : Nat} {m M : Int} (h : St w b c m M wr) (k : Below wr.heap.size wr w1) : St w b c m M w1 := by
  have l := h.lt
  exact ⟨(k.block b l.1).trans h.1, (k.block c l.2.1).trans h.2.1, (k.block _ l.2.2).trans h.2.2.1, h.2.2.2.trans (k.mono (by omega))⟩
theorem St.alloc {w wr : World} {b c : Nat} {m M : Int} (h : St w b c m M wr) (o : Obj) : St w b c m M (wr.alloc o) := h.to ((Below.refl _ _).alloc (Nat.le_refl _) o)
theorem St.setB {w wr : World} {b c : Nat} {m M : Int} (h : St w b c m M wr) (hbc : b ≠ c) (hb : w.heap.size < b) (x : Int) : St w b c x M ((wr.setCell ⟨b, 0, none⟩ (.int .i64 (clN x))).setCell ⟨b, 1, none⟩ (.int .i64 (clO x))) :=
  ⟨set2_block h.1, (set2_other hbc.symm).trans h.2.1, (set2_other (by omega)).trans h.2.2.1, (h.2.2.2.setCell (by show w.heap.size ≤ b; omega) _).setCell (by show w.heap.size ≤ b; omega) _⟩
theorem St.setC {w wr : World} {b c : Nat} {m M : Int} (h : St w b c m M wr) (hbc : b ≠ c) (hc : w.heap.size < c) (x : Int) : St w b c m x ((wr.setCell ⟨c, 0, none⟩ (.int .i64 (clN x))).setCell ⟨c, 1, none⟩ (.int .i64 (clO x))) :=
  ⟨(set2_other hbc).trans h.1, set2_block h.2.1, (set2_other (by omega)).trans h.2.2.1, (h.2.2.2.setCell (by show w.heap.size ≤ c; omega) _).setCell (by show w.heap.size ≤ c; omega) _⟩
theorem St.same {w wr : World} {b c : Nat} {m M m' M' : Int} (h : St w b c m M wr) (e1 : clN m' = clN m ∧ clO m' = clO m) (e2 : clN M' = clN M ∧ clO M' = clO M) : St w b c m' M' wr := by
  unfold St; rw [e1.1, e1.2, e2.1, e2.2]; exact h
def Sp (w : World) (m M : Int) (p q : Value) (wr : World) : Prop :=
  ∃ b c, p = .pointer (some ⟨b, 0, none⟩) ∧ q = .pointer (some ⟨c, 0, none⟩) ∧ b ≠ c ∧ w.heap.size < b ∧ w.heap.size < c ∧ St w b c m M wr
theorem heap3 (w : World) (a x y : Obj) : (((w.alloc a).alloc x).alloc y).heap[w.heap.size]? = some a ∧ (((w.alloc a).alloc x).alloc y).heap[w.heap.size + 1]? = some x ∧ (((w.alloc a).alloc x).alloc y).heap[w.heap.size + 1 + 1]? = some y := by
  refine ⟨?_, ?_, ?_⟩
  · rw [Below.heap_alloc _ _ _ (by simp; omega), Below.heap_alloc _ _ _ (by simp)]; exact heap_alloc_new _ _
  · rw [Below.heap_alloc _ _ _ (by simp)]
    have := heap_alloc_new (w.alloc a) x
    simpa using this
  · have := heap_alloc_new ((w.alloc a).alloc x) y
    simpa using this
theorem Sp.start {w : World} (x : Int) : ∀ p q, (p = w.heap.size + 1 ∧ q = w.heap.size + 1 + 1 ∨ p = w.heap.size + 1 + 1 ∧ q = w.heap.size + 1) →
    Sp w x x (.pointer (some ⟨p, 0, none⟩)) (.pointer (some ⟨q, 0, none⟩)) ((((w.alloc (Obj.cells #[.int .i64 0, .int .i64 0, .bool false, .int .i64 0] 30)).alloc (Obj.cells #[.int .i64 (clN x), .int .i64 (clO x)] 77)).alloc (Obj.cells #[.int .i64 (clN x), .int .i64 (clO x)] 77)).drew) := by
  intro p q h
  have h3 := heap3 w (Obj.cells #[.int .i64 0, .int .i64 0, .bool false, .int .i64 0] 30) (Obj.cells #[.int .i64 (clN x), .int .i64 (clO x)] 77) (Obj.cells #[.int .i64 (clN x), .int .i64 (clO x)] 77)
  have hb : Below w.heap.size w ((((w.alloc (Obj.cells #[.int .i64 0, .int .i64 0, .bool false, .int .i64 0] 30)).alloc (Obj.cells #[.int .i64 (clN x), .int .i64 (clO x)] 77)).alloc (Obj.cells #[.int .i64 (clN x), .int .i64 (clO x)] 77)).drew) :=
    (((((Below.refl _ _).alloc (Nat.le_refl _) _).alloc (by simp) _).alloc (by simp; omega) _)).drew
  rcases h with ⟨rfl, rfl⟩ | ⟨rfl, rfl⟩
  · exact ⟨_, _, rfl, rfl, by omega, by omega, by omega, h3.2.1, h3.2.2, h3.1, hb⟩
  · exact ⟨_, _, rfl, rfl, by omega, by omega, by omega, h3.2.2, h3.2.1, h3.1, hb⟩

set_option maxHeartbeats 2000000 in
theorem spanOf_c (v : Value) (x0 : Int) (rest : List Int) (base : Nat) (w : World) (hown : w.ownsRow base 77 2 v (rest.length + 1) (cellsC (x0 :: rest))) (hn : rest.length ≤ 20) :
    Calls Try.prog 49 #[v] w fun e w' => e = .returned (.agg #[.int .i64 (spanL (x0 :: rest)).lo, .int .i64 (spanL (x0 :: rest)).hi, .bool (spanL (x0 :: rest)).live, .int .i64 (spanL (x0 :: rest)).al]) ∧ Below w.heap.size w w' := by
  obtain ⟨g, cap, rfl, hg⟩ : ∃ g cap, v = .slice (some ⟨g, 0, none⟩) (rest.length + 1) cap ∧ g < w.heap.size := by
    rcases hown.2 with ⟨_, h⟩ | ⟨g, cap, cur, rfl, _, hg, _⟩
    · simp [cellsC] at h
    · exact ⟨g, cap, rfl, (Array.getElem?_eq_some_iff.1 hg).1⟩
  have hcells := hown.cells (g := g) rfl
  have hrow : ∀ i, i < (x0 :: rest).length → w.cell? ⟨g, 2 * i, none⟩ = some (.int .i64 (clN (x0 :: rest)[i]!)) ∧ w.cell? ⟨g, 2 * i + 1, none⟩ = some (.int .i64 (clO (x0 :: rest)[i]!)) := by
    intro i hi
    have h := cellsC_at (x0 :: rest) i hi
    have hadd : ∀ j, (⟨g, 0, none⟩ : Addr).add j = ⟨g, j, none⟩ := by intro j; unfold Addr.add; split <;> simp_all
    have e : (x0 :: rest)[i]! = (x0 :: rest)[i] := getElem!_pos (x0 :: rest) i hi
    rw [e]
    exact ⟨by rw [← hadd]; exact hcells _ _ h.1, by rw [← hadd]; exact hcells _ _ h.2⟩
  have r0 := hrow 0 (by simp)
  have r00 : w.cell? ⟨g, 0, none⟩ = some (.int .i64 (clN x0)) := r0.1
  have r01 : w.cell? ⟨g, 1, none⟩ = some (.int .i64 (clO x0)) := r0.2
  have HROW := hide hrow
  clear hrow r0 hcells hown
  have ne0 : (((rest.length : Int) + 1) == 0) = false := by simp; omega
  have lp : (0 : Int) < (rest.length : Int) + 1 := by omega
  go_enter Try.func49, Try.ntmps49
  go_wp2
  have hs : S1 w g 0 (clN x0) (clO x0) w := ⟨r00, r01, Below.refl _ _, hg⟩
  go_cut [3, 4] (fun p q wc => Sp w x0 x0 p q wc)
  case first =>
    go_region_held3 (S1 w g 0 (clN x0) (clO x0))
      (first | exact S1.drew (S1.alloc (S1.alloc (S1.alloc hs _) _) _) | exact S1.drew (S1.alloc (S1.alloc hs _) _) | exact S1.drew (S1.alloc hs _))
      (fail)
    all_goals (go_wp2_with fail; go_meet)
    · exact Sp.start x0 _ _ (.inl ⟨rfl, rfl⟩)
    · exact Sp.start x0 _ _ (.inr ⟨rfl, rfl⟩)
  case rest =>
  obtain ⟨b, c, rfl, rfl, hbc, hb, hc, hst⟩ := hcut
  obtain ⟨L, hL⟩ : ∃ L, L = x0 :: rest := ⟨_, rfl⟩
  have hLl : L.length = rest.length + 1 := by rw [hL]; rfl
  rw [← hL] at HROW
  have HL := hide hL
  have HST := hide hst
  clear hL hst hs r00 r01
  go_wp2
  go_loopw [19] (fun i wr => ∃ k : Nat, k ≤ L.length ∧ i = .int .i64 k ∧ St w b c (minL x0 (L.take k)) (maxL x0 (L.take k)) wr) (fun i _ => L.length - (intOf i).toNat)
  case atStart => exact ⟨0, Nat.zero_le _, rfl, unhide HST⟩
  case round =>
    clear HST
    obtain ⟨k, hk, rfl, hst⟩ := hrel
    by_cases hlt : k < L.length
    · obtain ⟨x, hx⟩ : ∃ x, x = L[k]! := ⟨_, rfl⟩
      have hrk := (unhide HROW) k hlt
      rw [← hx] at hrk
      have r0 : wr.cell? ⟨g, k * 2, none⟩ = some (.int .i64 (clN x)) := by rw [Nat.mul_comm]; exact (hst.2.2.2.cell (by exact hg)).trans hrk.1
      have r1 : wr.cell? ⟨g, k * 2 + 1, none⟩ = some (.int .i64 (clO x)) := by rw [Nat.mul_comm]; exact (hst.2.2.2.cell (by exact hg)).trans hrk.2
      have hkL : (k : Int) < (rest.length : Int) + 1 := by omega
      have emin : Hid (minL x0 (L.take (k + 1)) = min (minL x0 (L.take k)) x) := by
        unfold Hid; rw [List.take_succ_eq_append_getElem hlt, minL_snoc, hx, getElem!_pos L k hlt]
      have emax : Hid (maxL x0 (L.take (k + 1)) = max (maxL x0 (L.take k)) x) := by
        unfold Hid; rw [List.take_succ_eq_append_getElem hlt, maxL_snoc, hx, getElem!_pos L k hlt]
      clear hx hrk
      generalize minL x0 (L.take k) = m at *
      generalize maxL x0 (L.take k) = M at *
      have lt := hst.lt
      have c3 : wr.cell? ⟨b, 0, none⟩ = some (.int .i64 (clN m)) := cell_of_block hst.1
      have c4 : wr.cell? ⟨b, 1, none⟩ = some (.int .i64 (clO m)) := cell_of_block hst.1
      have nb : ¬ b = wr.heap.size := by omega
      have nb' : ¬ wr.heap.size = b := by omega
      have nc : ¬ c = wr.heap.size := by omega
      have nc' : ¬ wr.heap.size = c := by omega
      have HST := hide hst
      clear hst
      go_wp2_with fail
      refine (less_c x m _).mono ?_
      rintro e w1 ⟨rfl, hb1⟩
      have hst1 := ((unhide HST).alloc _).to hb1
      have d0 : w1.cell? ⟨wr.heap.size, 0, none⟩ = some (.int .i64 (clN x)) := (hb1.cell (by simp)).trans (by simp)
      have d1 : w1.cell? ⟨wr.heap.size, 1, none⟩ = some (.int .i64 (clO x)) := (hb1.cell (by simp)).trans (by simp)
      have z1 : wr.heap.size < w1.heap.size := by have := hb1.size; simp at this; omega
      clear hb1 HST c3 c4 r0 r1
      have c3 : w1.cell? ⟨b, 0, none⟩ = some (.int .i64 (clN m)) := cell_of_block hst1.1
      have c4 : w1.cell? ⟨b, 1, none⟩ = some (.int .i64 (clO m)) := cell_of_block hst1.1
      have c5 : w1.cell? ⟨c, 0, none⟩ = some (.int .i64 (clN M)) := cell_of_block hst1.2.1
      have c6 : w1.cell? ⟨c, 1, none⟩ = some (.int .i64 (clO M)) := cell_of_block hst1.2.1
      have f3 : w1.frozen? ⟨b, 0, none⟩ = false := frozen_of_block hst1.1
      have f4 : w1.frozen? ⟨b, 1, none⟩ = false := frozen_of_block hst1.1
      have f5 : w1.frozen? ⟨c, 0, none⟩ = false := frozen_of_block hst1.2.1
      have f6 : w1.frozen? ⟨c, 1, none⟩ = false := frozen_of_block hst1.2.1
      have hcb : ¬ c = b := fun h => hbc h.symm
      have HST1 := hide hst1
      clear hst1
      cases hl1 : lessB x m
      · -- the least one stays
        have em := hide (min_no m x hl1)
        clear hl1
        go_wp2_with fail
        refine (less_c M x _).mono ?_
        rintro e w2 ⟨rfl, hb2⟩
        have hst2 := (unhide HST1).to hb2
        have d2 : w2.cell? ⟨wr.heap.size, 0, none⟩ = some (.int .i64 (clN x)) := (hb2.cell (by exact z1)).trans d0
        have d3 : w2.cell? ⟨wr.heap.size, 1, none⟩ = some (.int .i64 (clO x)) := (hb2.cell (by exact z1)).trans d1
        have g5 : w2.cell? ⟨c, 0, none⟩ = some (.int .i64 (clN M)) := cell_of_block hst2.2.1
        have g6 : w2.cell? ⟨c, 1, none⟩ = some (.int .i64 (clO M)) := cell_of_block hst2.2.1
        have h5 : w2.frozen? ⟨c, 0, none⟩ = false := frozen_of_block hst2.2.1
        have h6 : w2.frozen? ⟨c, 1, none⟩ = false := frozen_of_block hst2.2.1
        have HST2 := hide hst2
        clear hst2 hb2 HST1 d0 d1 c3 c4 c5 c6 f3 f4 f5 f6 z1
        cases hl2 : lessB M x
        · have eM := hide (max_no M x hl2)
          clear hl2
          go_wp2
          go_roundw
          case rel => exact ⟨k + 1, by omega, by go_num, by rw [emin.out, emax.out]; exact (unhide HST2).same (unhide em) (unhide eM)⟩
          case measure => simp [intOf]; omega
        · have eM := hide (max_yes M x hl2)
          clear hl2
          go_wp2
          go_roundw
          case rel => exact ⟨k + 1, by omega, by go_num, by rw [emin.out, emax.out, unhide eM]; exact ((unhide HST2).setC hbc hc x).same (unhide em) ⟨rfl, rfl⟩⟩
          case measure => simp [intOf]; omega
      · -- the new one is the least
        have em := hide (min_yes m x hl1)
        clear hl1
        have hst9 := hide ((unhide HST1).setB hbc hb x)
        go_wp2_with fail
        refine (less_c M x _).mono ?_
        rintro e w2 ⟨rfl, hb2⟩
        have hst2 := (unhide hst9).to hb2
        have d2 : w2.cell? ⟨wr.heap.size, 0, none⟩ = some (.int .i64 (clN x)) := (hb2.cell (by simpa [World.setCell] using z1)).trans (by simp [go_sem, nb', d0])
        have d3 : w2.cell? ⟨wr.heap.size, 1, none⟩ = some (.int .i64 (clO x)) := (hb2.cell (by simpa [World.setCell] using z1)).trans (by simp [go_sem, nb', d1])
        have g5 : w2.cell? ⟨c, 0, none⟩ = some (.int .i64 (clN M)) := cell_of_block hst2.2.1
        have g6 : w2.cell? ⟨c, 1, none⟩ = some (.int .i64 (clO M)) := cell_of_block hst2.2.1
        have h5 : w2.frozen? ⟨c, 0, none⟩ = false := frozen_of_block hst2.2.1
        have h6 : w2.frozen? ⟨c, 1, none⟩ = false := frozen_of_block hst2.2.1
        have HST2 := hide hst2
        clear hst2 hb2 HST1 hst9 d0 d1 c3 c4 c5 c6 f3 f4 f5 f6 z1
        cases hl2 : lessB M x
        · have eM := hide (max_no M x hl2)
          clear hl2
          go_wp2
          go_roundw
          case rel => exact ⟨k + 1, by omega, by go_num, by rw [emin.out, emax.out, unhide em]; exact (unhide HST2).same ⟨rfl, rfl⟩ (unhide eM)⟩
          case measure => simp [intOf]; omega
        · have eM := hide (max_yes M x hl2)
          clear hl2
          go_wp2
          go_roundw
          case rel => exact ⟨k + 1, by omega, by go_num, by rw [emin.out, emax.out, unhide em, unhide eM]; exact (unhide HST2).setC hbc hc x⟩
          case measure => simp [intOf]; omega
    · obtain rfl : k = L.length := by omega
      have e1 : L.take L.length = L := List.take_length
      rw [e1] at hst
      have eS : Hid (spanL (x0 :: rest) = span (minL x0 L) (maxL x0 L)) := by
        unfold Hid; rw [unhide HL]
        show span (minL x0 rest) (maxL x0 rest) = span (minL (min x0 x0) rest) (maxL (max x0 x0) rest)
        rw [show min x0 x0 = x0 by omega, show max x0 x0 = x0 by omega]
      have hle := hide (min_le_max x0 L)
      generalize minL x0 L = m at *
      generalize maxL x0 L = M at *
      have lt := hst.lt
      have c3 : wr.cell? ⟨b, 0, none⟩ = some (.int .i64 (clN m)) := cell_of_block hst.1
      have c4 : wr.cell? ⟨b, 1, none⟩ = some (.int .i64 (clO m)) := cell_of_block hst.1
      have c5 : wr.cell? ⟨c, 0, none⟩ = some (.int .i64 (clN M)) := cell_of_block hst.2.1
      have c6 : wr.cell? ⟨c, 1, none⟩ = some (.int .i64 (clO M)) := cell_of_block hst.2.1
      have HST := hide hst
      clear hst e1
      go_wp2_with fail
      refine (between_c m M (unhide hle) _).mono ?_
      rintro e w1 ⟨rfl, hb1⟩
      have hst1 := (unhide HST).to hb1
      have K1 : Hid (Below w.heap.size w w1) := hst1.2.2.2
      have s0 : w1.cell? ⟨w.heap.size, 0, none⟩ = some (.int .i64 0) := cell_of_block hst1.2.2.1
      have s1 : w1.cell? ⟨w.heap.size, 1, none⟩ = some (.int .i64 0) := cell_of_block hst1.2.2.1
      have s2 : w1.cell? ⟨w.heap.size, 2, none⟩ = some (.bool false) := cell_of_block hst1.2.2.1
      have s3 : w1.cell? ⟨w.heap.size, 3, none⟩ = some (.int .i64 0) := cell_of_block hst1.2.2.1
      have f0 : w1.frozen? ⟨w.heap.size, 0, none⟩ = false := frozen_of_block hst1.2.2.1
      have f1 : w1.frozen? ⟨w.heap.size, 1, none⟩ = false := frozen_of_block hst1.2.2.1
      have f2 : w1.frozen? ⟨w.heap.size, 2, none⟩ = false := frozen_of_block hst1.2.2.1
      have f3 : w1.frozen? ⟨w.heap.size, 3, none⟩ = false := frozen_of_block hst1.2.2.1
      clear hst1 HST hb1
      go_wp2
      exact bodyPost_ret (v := .agg #[.int .i64 (span m M).lo, .int .i64 (span m M).hi, .bool (span m M).live, .int .i64 (span m M).al]) (by simp [results, Try.results49, go_sem, s0, s1, s2, s3]) rfl ⟨by rw [eS.out], (((K1.out.setCell (by simp) _).setCell (by simp) _).setCell (by simp) _).setCell (by simp) _⟩
end Go.Proofs.Ytfnedaidljppnaa
