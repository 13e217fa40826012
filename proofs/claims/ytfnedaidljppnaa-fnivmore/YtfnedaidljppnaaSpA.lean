/- The specification's corners and what lies between them. -/
import Derived.Test.YtfnedaidljppnaaOpC
import Derived.Test.YtfnedaidljppnaaSpecC
import Derived.Deep.LoopGhost
namespace Go.Proofs.Ytfnedaidljppnaa
open Go.RowKit Go.Iv
set_option linter.unusedSimpArgs false

theorem corner43 (x y : Int) (hx : In x) (hy : In y) (w : World) : Calls Try.prog 67 #[.int .i64 43, .int .i64 x, .int .i64 y] w fun e w' => e = .returned (.tuple #[.int .i64 (clN (x + y)), .int .i64 (clO (x + y))]) ∧ w' = w := by
  have HX := hide hx
  have HY := hide hy
  clear hx hy
  go_enter Try.func67, Try.ntmps67
  go_wp2_with fail
  refine (sNumAdd_c _ _ (unhide HX) (unhide HY) _).mono ?_
  rintro e w' ⟨rfl, rfl⟩
  go_wp2
  go_ret2
  exact ⟨rfl, rfl⟩
theorem corner45 (x y : Int) (hx : In x) (hy : In y) (w : World) : Calls Try.prog 67 #[.int .i64 45, .int .i64 x, .int .i64 y] w fun e w' => e = .returned (.tuple #[.int .i64 (clN (x - y)), .int .i64 (clO (x - y))]) ∧ w' = w := by
  have HX := hide hx
  have HY := hide hy
  clear hx hy
  go_enter Try.func67, Try.ntmps67
  go_wp2_with fail
  refine (sNumSub_c _ _ (unhide HX) (unhide HY) _).mono ?_
  rintro e w' ⟨rfl, rfl⟩
  go_wp2
  go_ret2
  exact ⟨rfl, rfl⟩
theorem corner42 (x y : Int) (hx : In x) (hy : In y) (w : World) : Calls Try.prog 67 #[.int .i64 42, .int .i64 x, .int .i64 y] w fun e w' => e = .returned (.tuple #[.int .i64 (clN (x * y)), .int .i64 (clO (x * y))]) ∧ w' = w := by
  have HX := hide hx
  have HY := hide hy
  clear hx hy
  go_enter Try.func67, Try.ntmps67
  go_wp2_with fail
  refine (sNumMul_c _ _ (unhide HX) (unhide HY) _).mono ?_
  rintro e w' ⟨rfl, rfl⟩
  go_wp2
  go_ret2
  exact ⟨rfl, rfl⟩
theorem corner47 (x y : Int) (hx : In x) (hy : In y) (h0 : y ≠ 0) (w : World) : Calls Try.prog 67 #[.int .i64 47, .int .i64 x, .int .i64 y] w fun e w' => e = .returned (.tuple #[.int .i64 (clN (x.tdiv y)), .int .i64 (clO (x.tdiv y))]) ∧ w' = w := by
  have HX := hide hx
  have HY := hide hy
  have hq : Hid (quN x y = clN (x.tdiv y) ∧ quO x y = clO (x.tdiv y)) := ⟨if_neg h0, if_neg h0⟩
  clear hx hy h0
  go_enter Try.func67, Try.ntmps67
  go_wp2_with fail
  refine (sNumQuo_c _ _ (unhide HX) (unhide HY) _).mono ?_
  rintro e w' ⟨rfl, rfl⟩
  rw [hq.out.1, hq.out.2]
  go_wp2
  go_ret2
  exact ⟨rfl, rfl⟩

/-- The alarm of a row of corners. -/
def alA : List Int → Int
  | [] => 0
  | x :: l => if clO x = 0 then alA l else 4
theorem alA_snoc (l : List Int) (x : Int) : alA (l ++ [x]) = if clO x = 0 then alA l else 4 := by
  induction l with
  | nil => rfl
  | cons y l ih =>
    show (if clO y = 0 then alA (l ++ [x]) else 4) = _
    rw [ih]
    show _ = if clO x = 0 then (if clO y = 0 then alA l else 4) else 4
    split <;> split <;> simp_all

theorem minL_mem (m : Int) (l : List Int) : minL m l = m ∨ minL m l ∈ l := by
  induction l generalizing m with
  | nil => exact .inl rfl
  | cons y l ih =>
    show minL (min m y) l = m ∨ minL (min m y) l ∈ y :: l
    rcases ih (min m y) with h | h
    · rw [h]
      rcases (show min m y = m ∨ min m y = y by omega) with e | e
      · exact .inl e
      · rw [e]; exact .inr (List.mem_cons_self ..)
    · exact .inr (List.mem_cons_of_mem _ h)
theorem maxL_mem (m : Int) (l : List Int) : maxL m l = m ∨ maxL m l ∈ l := by
  induction l generalizing m with
  | nil => exact .inl rfl
  | cons y l ih =>
    show maxL (max m y) l = m ∨ maxL (max m y) l ∈ y :: l
    rcases ih (max m y) with h | h
    · rw [h]
      rcases (show max m y = m ∨ max m y = y by omega) with e | e
      · exact .inl e
      · rw [e]; exact .inr (List.mem_cons_self ..)
    · exact .inr (List.mem_cons_of_mem _ h)
theorem minL_le_mem (m : Int) (l : List Int) (x : Int) (h : x ∈ l) : minL m l ≤ x := by
  induction l generalizing m with
  | nil => simp at h
  | cons y l ih =>
    show minL (min m y) l ≤ x
    rcases List.mem_cons.1 h with rfl | h
    · exact Int.le_trans (minL_le _ _) (by omega)
    · exact ih _ h
theorem maxL_ge_mem (m : Int) (l : List Int) (x : Int) (h : x ∈ l) : x ≤ maxL m l := by
  induction l generalizing m with
  | nil => simp at h
  | cons y l ih =>
    show x ≤ maxL (max m y) l
    rcases List.mem_cons.1 h with rfl | h
    · exact Int.le_trans (by omega) (maxL_ge _ _)
    · exact ih _ h
theorem alA_four (l : List Int) (x : Int) (h : x ∈ l) (hx : clO x ≠ 0) : alA l = 4 := by
  induction l with
  | nil => simp at h
  | cons y l ih =>
    show (if clO y = 0 then alA l else 4) = 4
    split
    · rename_i hy
      rcases List.mem_cons.1 h with rfl | h
      · exact absurd hy hx
      · exact ih h
    · rfl
theorem alA_zero (l : List Int) (h : ∀ x ∈ l, clO x = 0) : alA l = 0 := by
  induction l with
  | nil => rfl
  | cons y l ih =>
    show (if clO y = 0 then alA l else 4) = 0
    rw [if_pos (h y (List.mem_cons_self ..))]
    exact ih (fun x hx => h x (List.mem_cons_of_mem _ hx))
theorem alA_out (x0 : Int) (l : List Int) (h0 : x0 ∈ l) (h : clO (minL x0 l) ≠ 0 ∨ clO (maxL x0 l) ≠ 0) : alA l = 4 := by
  rcases h with h | h
  · rcases minL_mem x0 l with e | e
    · rw [e] at h; exact alA_four l x0 h0 h
    · exact alA_four l _ e h
  · rcases maxL_mem x0 l with e | e
    · rw [e] at h; exact alA_four l x0 h0 h
    · exact alA_four l _ e h
theorem alA_in (x0 : Int) (l : List Int) (h1 : In (minL x0 l)) (h2 : In (maxL x0 l)) : alA l = 0 := by
  refine alA_zero l (fun x hx => ?_)
  have a := minL_le_mem x0 l x hx
  have b := maxL_ge_mem x0 l x hx
  exact (cl_in x (by unfold In at *; omega)).2

/-- The answer's block and the block of what is gathered. -/
def Le (w : World) (A : Int) (wr : World) : Prop :=
  wr.heap[w.heap.size]? = some (.cells #[.int .i64 0, .int .i64 0, .bool false, .int .i64 0] 30 (0, 0)) ∧ wr.heap[w.heap.size + 1]? = some (.cells #[.int .i64 0, .int .i64 0, .bool false, .int .i64 A] 30 (0, 0)) ∧ Below w.heap.size w wr
theorem Le.drewN {w wr : World} {A : Int} (h : Le w A wr) (n : Nat) : Le w A (wr.drewN n) := ⟨h.1, h.2.1, below_drewN h.2.2 n⟩
theorem Le.set {w wr : World} {A : Int} (h : Le w A wr) (x : Int) : Le w x (wr.setCell ⟨w.heap.size + 1, 3, none⟩ (.int .i64 x)) := by
  refine ⟨?_, ?_, h.2.2.setCell (by simp) _⟩
  · rw [Below.heap_setCell _ _ _ _ (by simp)]; exact h.1
  · simp [World.setCell, Array.getElem?_modify, h.2.1]
theorem set3_block {w : World} {b : Nat} {p q r s x y : Value} {t : TypeId} (hb : w.heap[b]? = some (.cells #[p, q, r, s] t (0, 0))) :
    (((w.setCell ⟨b, 2, none⟩ (.bool true)).setCell ⟨b, 0, none⟩ x).setCell ⟨b, 1, none⟩ y).heap[b]? = some (.cells #[x, y, .bool true, s] t (0, 0)) := by
  simp [World.setCell, Array.getElem?_modify, hb]
theorem set3_other {w : World} {b c : Nat} {x y : Value} (h : c ≠ b) : (((w.setCell ⟨b, 2, none⟩ (.bool true)).setCell ⟨b, 0, none⟩ x).setCell ⟨b, 1, none⟩ y).heap[c]? = w.heap[c]? := by
  rw [Below.heap_setCell _ _ _ _ (by exact h), Below.heap_setCell _ _ _ _ (by exact h), Below.heap_setCell _ _ _ _ (by exact h)]
theorem set3_cell {w : World} {b : Nat} {x y : Value} (c o : Nat) (h : ¬ c = b) : (((w.setCell ⟨b, 2, none⟩ (.bool true)).setCell ⟨b, 0, none⟩ x).setCell ⟨b, 1, none⟩ y).cell? ⟨c, o, none⟩ = w.cell? ⟨c, o, none⟩ :=
  World.cell?_of_block (w := w) (set3_other h)
/-- The cells of one half of a row of corners. -/
def cells1 (f : Int → Int) (l : List Int) : List Value := l.map fun x => .int .i64 (f x)

set_option maxHeartbeats 4000000 in
set_option maxRecDepth 100000 in
theorem l2Ends_c (va vb : Value) (x0 : Int) (rest : List Int) (ba bb : Nat) (w : World) (hA : w.ownsRow ba 2 1 va (rest.length + 1) (cells1 clN (x0 :: rest))) (hB : w.ownsRow bb 2 1 vb (rest.length + 1) (cells1 clO (x0 :: rest))) (hn : rest.length ≤ 20) :
    Calls Try.prog 68 #[va, vb] w fun e w' => e = .returned (.agg #[.int .i64 (spanL (x0 :: rest)).lo, .int .i64 (spanL (x0 :: rest)).hi, .bool (spanL (x0 :: rest)).live, .int .i64 (spanL (x0 :: rest)).al]) ∧ Below w.heap.size w w' := by
  obtain ⟨ga, capa, rfl, hga⟩ : ∃ g cap, va = .slice (some ⟨g, 0, none⟩) (rest.length + 1) cap ∧ g < w.heap.size := by
    rcases hA.2 with ⟨_, h⟩ | ⟨g, cap, cur, rfl, _, hg, _⟩
    · simp [cells1] at h
    · exact ⟨g, cap, rfl, (Array.getElem?_eq_some_iff.1 hg).1⟩
  obtain ⟨gb, capb, rfl, hgb⟩ : ∃ g cap, vb = .slice (some ⟨g, 0, none⟩) (rest.length + 1) cap ∧ g < w.heap.size := by
    rcases hB.2 with ⟨_, h⟩ | ⟨g, cap, cur, rfl, _, hg, _⟩
    · simp [cells1] at h
    · exact ⟨g, cap, rfl, (Array.getElem?_eq_some_iff.1 hg).1⟩
  obtain ⟨L, hL⟩ : ∃ L, L = x0 :: rest := ⟨_, rfl⟩
  have hLl : L.length = rest.length + 1 := by rw [hL]; rfl
  have hadd : ∀ g j, (⟨g, 0, none⟩ : Addr).add j = ⟨g, j, none⟩ := by intro g j; unfold Addr.add; split <;> simp_all
  have rowA : ∀ i, i < L.length → w.cell? ⟨ga, i, none⟩ = some (.int .i64 (clN L[i]!)) := by
    intro i hi
    have h := hA.cells (g := ga) rfl i (.int .i64 (clN L[i]!)) (by rw [← hL]; simp [cells1, hi])
    rw [hadd] at h; exact h
  have rowB : ∀ i, i < L.length → w.cell? ⟨gb, i, none⟩ = some (.int .i64 (clO L[i]!)) := by
    intro i hi
    have h := hB.cells (g := gb) rfl i (.int .i64 (clO L[i]!)) (by rw [← hL]; simp [cells1, hi])
    rw [hadd] at h; exact h
  have RA := hide rowA
  have RB := hide rowB
  have HL := hide hL
  have HX0 : Hid (L[0]! = x0) := by unfold Hid; rw [hL]; rfl
  clear rowA rowB hadd hA hB hL
  have ne0 : (((rest.length : Int) + 1) == 0) = false := by simp; omega
  go_enter Try.func68, Try.ntmps68
  go_wp2
  have hle0 : Le w 0 ((w.alloc (Obj.cells #[.int .i64 0, .int .i64 0, .bool false, .int .i64 0] 30)).alloc (Obj.cells #[.int .i64 0, .int .i64 0, .bool false, .int .i64 0] 30)) := by
    refine ⟨?_, ?_, ((Below.refl _ _).alloc (Nat.le_refl _) _).alloc (by simp) _⟩
    · rw [Below.heap_alloc _ _ _ (by simp)]; exact heap_alloc_new _ _
    · have := heap_alloc_new (w.alloc (Obj.cells #[.int .i64 0, .int .i64 0, .bool false, .int .i64 0] 30)) (Obj.cells #[.int .i64 0, .int .i64 0, .bool false, .int .i64 0] 30)
      simpa using this
  have HLE0 := hide hle0
  clear hle0
  go_loopg [5, 6, 8] L.length (fun g l h i wr => ∃ k a b : Nat, k ≤ L.length ∧ g = L.length - k ∧ l = .int .i64 a ∧ h = .int .i64 b ∧ i = .int .i64 k ∧ a < L.length ∧ b < L.length ∧ (clN L[a]! = clN (minL x0 (L.take k)) ∧ clO L[a]! = clO (minL x0 (L.take k))) ∧ (clN L[b]! = clN (maxL x0 (L.take k)) ∧ clO L[b]! = clO (maxL x0 (L.take k))) ∧ Le w (alA (L.take k)) wr)
  case atStart => exact ⟨0, 0, 0, Nat.zero_le _, rfl, rfl, rfl, rfl, by omega, by omega, by rw [HX0.out]; exact ⟨rfl, rfl⟩, by rw [HX0.out]; exact ⟨rfl, rfl⟩, unhide HLE0⟩
  case round =>
    clear HLE0
    obtain ⟨k, a, b, hk, hgk, rfl, rfl, rfl, ha, hb, hm, hM, hle⟩ := hrel
    by_cases hlt : k < L.length
    · obtain ⟨x, hx⟩ : ∃ x, x = L[k]! := ⟨_, rfl⟩
      have emin : Hid (minL x0 (L.take (k + 1)) = min (minL x0 (L.take k)) x) := by
        unfold Hid; rw [List.take_succ_eq_append_getElem hlt, minL_snoc, hx, getElem!_pos L k hlt]
      have emax : Hid (maxL x0 (L.take (k + 1)) = max (maxL x0 (L.take k)) x) := by
        unfold Hid; rw [List.take_succ_eq_append_getElem hlt, maxL_snoc, hx, getElem!_pos L k hlt]
      have ealA : Hid (alA (L.take (k + 1)) = if clO x = 0 then alA (L.take k) else 4) := by
        unfold Hid; rw [List.take_succ_eq_append_getElem hlt, alA_snoc, hx, getElem!_pos L k hlt]
      generalize minL x0 (L.take k) = m at *
      generalize maxL x0 (L.take k) = M at *
      generalize alA (L.take k) = A at *
      have kI : (k : Int) < (rest.length : Int) + 1 := by omega
      have aI : (a : Int) < (rest.length : Int) + 1 := by omega
      have bI : (b : Int) < (rest.length : Int) + 1 := by omega
      have row0 : ∀ wy, Below w.heap.size w wy → wy.cell? ⟨gb, k, none⟩ = some (.int .i64 (clO x)) ∧ wy.cell? ⟨ga, k, none⟩ = some (.int .i64 (clN x)) ∧ wy.cell? ⟨gb, a, none⟩ = some (.int .i64 (clO m)) ∧ wy.cell? ⟨ga, a, none⟩ = some (.int .i64 (clN m)) ∧ wy.cell? ⟨gb, b, none⟩ = some (.int .i64 (clO M)) ∧ wy.cell? ⟨ga, b, none⟩ = some (.int .i64 (clN M)) := by
        intro wy hwy
        refine ⟨?_, ?_, ?_, ?_, ?_, ?_⟩
        · rw [hx]; exact (hwy.cell (by exact hgb)).trans ((unhide RB) k hlt)
        · rw [hx]; exact (hwy.cell (by exact hga)).trans ((unhide RA) k hlt)
        · rw [← hm.2]; exact (hwy.cell (by exact hgb)).trans ((unhide RB) a ha)
        · rw [← hm.1]; exact (hwy.cell (by exact hga)).trans ((unhide RA) a ha)
        · rw [← hM.2]; exact (hwy.cell (by exact hgb)).trans ((unhide RB) b hb)
        · rw [← hM.1]; exact (hwy.cell (by exact hga)).trans ((unhide RA) b hb)
      have HX : Hid (L[k]! = x) := hx.symm
      have HM := hide (And.intro hm hM)
      have ROW := hide row0
      have r0 := (row0 wr hle.2.2).1
      have HLE := hide hle
      have HG := hide hgk
      clear hx hm hM row0 hgk
      by_cases hz : clO x = 0
      · have hz1 : (clO x == 0) = true := by simpa using hz
        have hz2 : (clO x != 0) = false := by simpa using hz
        obtain ⟨A', hA'⟩ : ∃ A', A' = A := ⟨_, rfl⟩
        have eA : Hid (alA (L.take (k + 1)) = A') := by rw [ealA.out, hA']; exact if_pos hz
        clear hz ealA hle
        go_wp2_with fail
        clear hz1 hz2
        obtain ⟨wy, hwy⟩ : ∃ wy, wy = wr := ⟨_, rfl⟩
        have hley : Le w A' wy := by rw [hwy, hA']; exact unhide HLE
        rw [← hwy]
        clear hwy HLE r0 hA'
        obtain ⟨c1, c2, c3, c4, c5, c6⟩ := (unhide ROW) wy hley.2.2
        have HLY := hide hley
        clear hley
        go_cut [56] (fun c wx => c = .bool (lessB x m) ∧ ∃ n, wx = wy.drewN n)
        case first =>
          rcases (show clO x < clO m ∨ (clO x = clO m ∧ clN x < clN m) ∨ (clO x = clO m ∧ ¬ clN x < clN m) ∨ clO m < clO x by omega) with h | ⟨h, h'⟩ | ⟨h, h'⟩ | h
          · have e : Hid (lessB x m = true) := by unfold lessB Hid; rw [if_pos (by omega)]; exact decide_eq_true h
            have hd : decide (clO x < clO m) = true := decide_eq_true h
            go_quiet (fail)
            go_wp2_with fail
            go_meet
            exact ⟨by rw [e.out], _, rfl⟩
          · have e : Hid (lessB x m = true) := by unfold lessB Hid; rw [if_neg (by omega)]; exact decide_eq_true h'
            have hd : decide (clO x < clO m) = false := decide_eq_false (by omega)
            have he : (clO x == clO m) = true := by simpa using h
            clear h
            go_quiet (fail)
            go_wp2_with fail
            go_meet
            exact ⟨by rw [e.out], _, rfl⟩
          · have e : Hid (lessB x m = false) := by unfold lessB Hid; rw [if_neg (by omega)]; exact decide_eq_false h'
            have hd : decide (clO x < clO m) = false := decide_eq_false (by omega)
            have he : (clO x == clO m) = true := by simpa using h
            have hf : decide (clN x < clN m) = false := decide_eq_false h'
            clear h h'
            go_quiet (fail)
            go_wp2_with fail
            go_meet
            exact ⟨by rw [e.out], _, rfl⟩
          · have e : Hid (lessB x m = false) := by unfold lessB Hid; rw [if_pos (by omega)]; exact decide_eq_false (by omega)
            have hd : decide (clO x < clO m) = false := decide_eq_false (by omega)
            have he : (clO x == clO m) = false := by simp; omega
            clear h
            go_quiet (fail)
            go_wp2_with fail
            go_meet
            exact ⟨by rw [e.out], _, rfl⟩
        case rest =>
        obtain ⟨rfl, hw1⟩ := hcut
        cases hl1 : lessB x m
        · have em := hide (min_no m x hl1)
          clear hl1
          clear c1 c2 c3 c4 c5 c6
          go_wp2_with fail
          obtain ⟨n1, rfl⟩ := hw1
          obtain ⟨wz, hwz⟩ : ∃ wz, wz = wy.drewN n1 := ⟨_, rfl⟩
          have hlez : Le w A' wz := by rw [hwz]; exact (unhide HLY).drewN _
          rw [← hwz]
          clear hwz HLY
          obtain ⟨c1, c2, c3, c4, c5, c6⟩ := (unhide ROW) wz hlez.2.2
          have HLZ := hide hlez
          clear hlez
          go_cut [88] (fun c wx => c = .bool (lessB M x) ∧ ∃ n, wx = wz.drewN n)
          case first =>
            rcases (show clO M < clO x ∨ (clO M = clO x ∧ clN M < clN x) ∨ (clO M = clO x ∧ ¬ clN M < clN x) ∨ clO x < clO M by omega) with h | ⟨h, h'⟩ | ⟨h, h'⟩ | h
            · have e : Hid (lessB M x = true) := by unfold lessB Hid; rw [if_pos (by omega)]; exact decide_eq_true h
              have hd : decide (clO M < clO x) = true := decide_eq_true h
              go_quiet (fail)
              go_wp2_with fail
              go_meet
              exact ⟨by rw [e.out], _, rfl⟩
            · have e : Hid (lessB M x = true) := by unfold lessB Hid; rw [if_neg (by omega)]; exact decide_eq_true h'
              have hd : decide (clO M < clO x) = false := decide_eq_false (by omega)
              have he : (clO x == clO M) = true := by simpa using h.symm
              clear h
              go_quiet (fail)
              go_wp2_with fail
              go_meet
              exact ⟨by rw [e.out], _, rfl⟩
            · have e : Hid (lessB M x = false) := by unfold lessB Hid; rw [if_neg (by omega)]; exact decide_eq_false h'
              have hd : decide (clO M < clO x) = false := decide_eq_false (by omega)
              have he : (clO x == clO M) = true := by simpa using h.symm
              have hf : decide (clN M < clN x) = false := decide_eq_false h'
              clear h h'
              go_quiet (fail)
              go_wp2_with fail
              go_meet
              exact ⟨by rw [e.out], _, rfl⟩
            · have e : Hid (lessB M x = false) := by unfold lessB Hid; rw [if_pos (by omega)]; exact decide_eq_false (by omega)
              have hd : decide (clO M < clO x) = false := decide_eq_false (by omega)
              have he : (clO x == clO M) = false := by simp; omega
              clear h
              go_quiet (fail)
              go_wp2_with fail
              go_meet
              exact ⟨by rw [e.out], _, rfl⟩
          case rest =>
          obtain ⟨rfl, hw2⟩ := hcut
          cases hl2 : lessB M x
          · have eM := hide (max_no M x hl2)
            clear hl2 c1 c2 c3 c4 c5 c6
            obtain ⟨n2, rfl⟩ := hw2
            go_wp2
            go_roundg (L.length - (k + 1))
            case measure => have := unhide HG; omega
            case rel => exact ⟨k + 1, a, b, by omega, rfl, rfl, rfl, by go_num, by omega, by omega, by rw [emin.out, (unhide em).1, (unhide em).2]; exact (unhide HM).1, by rw [emax.out, (unhide eM).1, (unhide eM).2]; exact (unhide HM).2, by rw [eA.out]; exact (unhide HLZ).drewN _⟩
          · have eM := hide (max_yes M x hl2)
            clear hl2 c1 c2 c3 c4 c5 c6
            obtain ⟨n2, rfl⟩ := hw2
            go_wp2
            go_roundg (L.length - (k + 1))
            case measure => have := unhide HG; omega
            case rel => exact ⟨k + 1, a, k, by omega, rfl, rfl, rfl, by go_num, by omega, by omega, by rw [emin.out, (unhide em).1, (unhide em).2]; exact (unhide HM).1, by rw [emax.out, unhide eM, HX.out]; exact ⟨rfl, rfl⟩, by rw [eA.out]; exact (unhide HLZ).drewN _⟩
        · have em := hide (min_yes m x hl1)
          clear hl1
          clear c1 c2 c3 c4 c5 c6
          go_wp2_with fail
          obtain ⟨n1, rfl⟩ := hw1
          obtain ⟨wz, hwz⟩ : ∃ wz, wz = wy.drewN n1 := ⟨_, rfl⟩
          have hlez : Le w A' wz := by rw [hwz]; exact (unhide HLY).drewN _
          rw [← hwz]
          clear hwz HLY
          obtain ⟨c1, c2, c3, c4, c5, c6⟩ := (unhide ROW) wz hlez.2.2
          have HLZ := hide hlez
          clear hlez
          go_cut [88] (fun c wx => c = .bool (lessB M x) ∧ ∃ n, wx = wz.drewN n)
          case first =>
            rcases (show clO M < clO x ∨ (clO M = clO x ∧ clN M < clN x) ∨ (clO M = clO x ∧ ¬ clN M < clN x) ∨ clO x < clO M by omega) with h | ⟨h, h'⟩ | ⟨h, h'⟩ | h
            · have e : Hid (lessB M x = true) := by unfold lessB Hid; rw [if_pos (by omega)]; exact decide_eq_true h
              have hd : decide (clO M < clO x) = true := decide_eq_true h
              go_quiet (fail)
              go_wp2_with fail
              go_meet
              exact ⟨by rw [e.out], _, rfl⟩
            · have e : Hid (lessB M x = true) := by unfold lessB Hid; rw [if_neg (by omega)]; exact decide_eq_true h'
              have hd : decide (clO M < clO x) = false := decide_eq_false (by omega)
              have he : (clO x == clO M) = true := by simpa using h.symm
              clear h
              go_quiet (fail)
              go_wp2_with fail
              go_meet
              exact ⟨by rw [e.out], _, rfl⟩
            · have e : Hid (lessB M x = false) := by unfold lessB Hid; rw [if_neg (by omega)]; exact decide_eq_false h'
              have hd : decide (clO M < clO x) = false := decide_eq_false (by omega)
              have he : (clO x == clO M) = true := by simpa using h.symm
              have hf : decide (clN M < clN x) = false := decide_eq_false h'
              clear h h'
              go_quiet (fail)
              go_wp2_with fail
              go_meet
              exact ⟨by rw [e.out], _, rfl⟩
            · have e : Hid (lessB M x = false) := by unfold lessB Hid; rw [if_pos (by omega)]; exact decide_eq_false (by omega)
              have hd : decide (clO M < clO x) = false := decide_eq_false (by omega)
              have he : (clO x == clO M) = false := by simp; omega
              clear h
              go_quiet (fail)
              go_wp2_with fail
              go_meet
              exact ⟨by rw [e.out], _, rfl⟩
          case rest =>
          obtain ⟨rfl, hw2⟩ := hcut
          cases hl2 : lessB M x
          · have eM := hide (max_no M x hl2)
            clear hl2 c1 c2 c3 c4 c5 c6
            obtain ⟨n2, rfl⟩ := hw2
            go_wp2
            go_roundg (L.length - (k + 1))
            case measure => have := unhide HG; omega
            case rel => exact ⟨k + 1, k, b, by omega, rfl, rfl, rfl, by go_num, by omega, by omega, by rw [emin.out, unhide em, HX.out]; exact ⟨rfl, rfl⟩, by rw [emax.out, (unhide eM).1, (unhide eM).2]; exact (unhide HM).2, by rw [eA.out]; exact (unhide HLZ).drewN _⟩
          · have eM := hide (max_yes M x hl2)
            clear hl2 c1 c2 c3 c4 c5 c6
            obtain ⟨n2, rfl⟩ := hw2
            go_wp2
            go_roundg (L.length - (k + 1))
            case measure => have := unhide HG; omega
            case rel => exact ⟨k + 1, k, k, by omega, rfl, rfl, rfl, by go_num, by omega, by omega, by rw [emin.out, unhide em, HX.out]; exact ⟨rfl, rfl⟩, by rw [emax.out, unhide eM, HX.out]; exact ⟨rfl, rfl⟩, by rw [eA.out]; exact (unhide HLZ).drewN _⟩
      · have hz1 : (clO x == 0) = false := by simpa using hz
        have hz2 : (clO x != 0) = true := by simpa using hz
        obtain ⟨A', hA'⟩ : ∃ A', A' = (4 : Int) := ⟨_, rfl⟩
        have eA : Hid (alA (L.take (k + 1)) = A') := by rw [ealA.out, hA']; exact if_neg hz
        have v0 : wr.cell? ⟨w.heap.size + 1, 3, none⟩ = some (.int .i64 A) := cell_of_block hle.2.1
        have f0 : wr.frozen? ⟨w.heap.size + 1, 3, none⟩ = false := frozen_of_block hle.2.1
        clear hz ealA hle
        go_wp2_with fail
        clear hz1 hz2
        obtain ⟨wy, hwy⟩ : ∃ wy, wy = wr.setCell ⟨w.heap.size + 1, 3, none⟩ (.int .i64 4) := ⟨_, rfl⟩
        have hley : Le w A' wy := by rw [hwy, hA']; exact (unhide HLE).set 4
        rw [← hwy]
        clear hwy HLE r0 hA' v0 f0
        obtain ⟨c1, c2, c3, c4, c5, c6⟩ := (unhide ROW) wy hley.2.2
        have HLY := hide hley
        clear hley
        go_cut [56] (fun c wx => c = .bool (lessB x m) ∧ ∃ n, wx = wy.drewN n)
        case first =>
          rcases (show clO x < clO m ∨ (clO x = clO m ∧ clN x < clN m) ∨ (clO x = clO m ∧ ¬ clN x < clN m) ∨ clO m < clO x by omega) with h | ⟨h, h'⟩ | ⟨h, h'⟩ | h
          · have e : Hid (lessB x m = true) := by unfold lessB Hid; rw [if_pos (by omega)]; exact decide_eq_true h
            have hd : decide (clO x < clO m) = true := decide_eq_true h
            go_quiet (fail)
            go_wp2_with fail
            go_meet
            exact ⟨by rw [e.out], _, rfl⟩
          · have e : Hid (lessB x m = true) := by unfold lessB Hid; rw [if_neg (by omega)]; exact decide_eq_true h'
            have hd : decide (clO x < clO m) = false := decide_eq_false (by omega)
            have he : (clO x == clO m) = true := by simpa using h
            clear h
            go_quiet (fail)
            go_wp2_with fail
            go_meet
            exact ⟨by rw [e.out], _, rfl⟩
          · have e : Hid (lessB x m = false) := by unfold lessB Hid; rw [if_neg (by omega)]; exact decide_eq_false h'
            have hd : decide (clO x < clO m) = false := decide_eq_false (by omega)
            have he : (clO x == clO m) = true := by simpa using h
            have hf : decide (clN x < clN m) = false := decide_eq_false h'
            clear h h'
            go_quiet (fail)
            go_wp2_with fail
            go_meet
            exact ⟨by rw [e.out], _, rfl⟩
          · have e : Hid (lessB x m = false) := by unfold lessB Hid; rw [if_pos (by omega)]; exact decide_eq_false (by omega)
            have hd : decide (clO x < clO m) = false := decide_eq_false (by omega)
            have he : (clO x == clO m) = false := by simp; omega
            clear h
            go_quiet (fail)
            go_wp2_with fail
            go_meet
            exact ⟨by rw [e.out], _, rfl⟩
        case rest =>
        obtain ⟨rfl, hw1⟩ := hcut
        cases hl1 : lessB x m
        · have em := hide (min_no m x hl1)
          clear hl1
          clear c1 c2 c3 c4 c5 c6
          go_wp2_with fail
          obtain ⟨n1, rfl⟩ := hw1
          obtain ⟨wz, hwz⟩ : ∃ wz, wz = wy.drewN n1 := ⟨_, rfl⟩
          have hlez : Le w A' wz := by rw [hwz]; exact (unhide HLY).drewN _
          rw [← hwz]
          clear hwz HLY
          obtain ⟨c1, c2, c3, c4, c5, c6⟩ := (unhide ROW) wz hlez.2.2
          have HLZ := hide hlez
          clear hlez
          go_cut [88] (fun c wx => c = .bool (lessB M x) ∧ ∃ n, wx = wz.drewN n)
          case first =>
            rcases (show clO M < clO x ∨ (clO M = clO x ∧ clN M < clN x) ∨ (clO M = clO x ∧ ¬ clN M < clN x) ∨ clO x < clO M by omega) with h | ⟨h, h'⟩ | ⟨h, h'⟩ | h
            · have e : Hid (lessB M x = true) := by unfold lessB Hid; rw [if_pos (by omega)]; exact decide_eq_true h
              have hd : decide (clO M < clO x) = true := decide_eq_true h
              go_quiet (fail)
              go_wp2_with fail
              go_meet
              exact ⟨by rw [e.out], _, rfl⟩
            · have e : Hid (lessB M x = true) := by unfold lessB Hid; rw [if_neg (by omega)]; exact decide_eq_true h'
              have hd : decide (clO M < clO x) = false := decide_eq_false (by omega)
              have he : (clO x == clO M) = true := by simpa using h.symm
              clear h
              go_quiet (fail)
              go_wp2_with fail
              go_meet
              exact ⟨by rw [e.out], _, rfl⟩
            · have e : Hid (lessB M x = false) := by unfold lessB Hid; rw [if_neg (by omega)]; exact decide_eq_false h'
              have hd : decide (clO M < clO x) = false := decide_eq_false (by omega)
              have he : (clO x == clO M) = true := by simpa using h.symm
              have hf : decide (clN M < clN x) = false := decide_eq_false h'
              clear h h'
              go_quiet (fail)
              go_wp2_with fail
              go_meet
              exact ⟨by rw [e.out], _, rfl⟩
            · have e : Hid (lessB M x = false) := by unfold lessB Hid; rw [if_pos (by omega)]; exact decide_eq_false (by omega)
              have hd : decide (clO M < clO x) = false := decide_eq_false (by omega)
              have he : (clO x == clO M) = false := by simp; omega
              clear h
              go_quiet (fail)
              go_wp2_with fail
              go_meet
              exact ⟨by rw [e.out], _, rfl⟩
          case rest =>
          obtain ⟨rfl, hw2⟩ := hcut
          cases hl2 : lessB M x
          · have eM := hide (max_no M x hl2)
            clear hl2 c1 c2 c3 c4 c5 c6
            obtain ⟨n2, rfl⟩ := hw2
            go_wp2
            go_roundg (L.length - (k + 1))
            case measure => have := unhide HG; omega
            case rel => exact ⟨k + 1, a, b, by omega, rfl, rfl, rfl, by go_num, by omega, by omega, by rw [emin.out, (unhide em).1, (unhide em).2]; exact (unhide HM).1, by rw [emax.out, (unhide eM).1, (unhide eM).2]; exact (unhide HM).2, by rw [eA.out]; exact (unhide HLZ).drewN _⟩
          · have eM := hide (max_yes M x hl2)
            clear hl2 c1 c2 c3 c4 c5 c6
            obtain ⟨n2, rfl⟩ := hw2
            go_wp2
            go_roundg (L.length - (k + 1))
            case measure => have := unhide HG; omega
            case rel => exact ⟨k + 1, a, k, by omega, rfl, rfl, rfl, by go_num, by omega, by omega, by rw [emin.out, (unhide em).1, (unhide em).2]; exact (unhide HM).1, by rw [emax.out, unhide eM, HX.out]; exact ⟨rfl, rfl⟩, by rw [eA.out]; exact (unhide HLZ).drewN _⟩
        · have em := hide (min_yes m x hl1)
          clear hl1
          clear c1 c2 c3 c4 c5 c6
          go_wp2_with fail
          obtain ⟨n1, rfl⟩ := hw1
          obtain ⟨wz, hwz⟩ : ∃ wz, wz = wy.drewN n1 := ⟨_, rfl⟩
          have hlez : Le w A' wz := by rw [hwz]; exact (unhide HLY).drewN _
          rw [← hwz]
          clear hwz HLY
          obtain ⟨c1, c2, c3, c4, c5, c6⟩ := (unhide ROW) wz hlez.2.2
          have HLZ := hide hlez
          clear hlez
          go_cut [88] (fun c wx => c = .bool (lessB M x) ∧ ∃ n, wx = wz.drewN n)
          case first =>
            rcases (show clO M < clO x ∨ (clO M = clO x ∧ clN M < clN x) ∨ (clO M = clO x ∧ ¬ clN M < clN x) ∨ clO x < clO M by omega) with h | ⟨h, h'⟩ | ⟨h, h'⟩ | h
            · have e : Hid (lessB M x = true) := by unfold lessB Hid; rw [if_pos (by omega)]; exact decide_eq_true h
              have hd : decide (clO M < clO x) = true := decide_eq_true h
              go_quiet (fail)
              go_wp2_with fail
              go_meet
              exact ⟨by rw [e.out], _, rfl⟩
            · have e : Hid (lessB M x = true) := by unfold lessB Hid; rw [if_neg (by omega)]; exact decide_eq_true h'
              have hd : decide (clO M < clO x) = false := decide_eq_false (by omega)
              have he : (clO x == clO M) = true := by simpa using h.symm
              clear h
              go_quiet (fail)
              go_wp2_with fail
              go_meet
              exact ⟨by rw [e.out], _, rfl⟩
            · have e : Hid (lessB M x = false) := by unfold lessB Hid; rw [if_neg (by omega)]; exact decide_eq_false h'
              have hd : decide (clO M < clO x) = false := decide_eq_false (by omega)
              have he : (clO x == clO M) = true := by simpa using h.symm
              have hf : decide (clN M < clN x) = false := decide_eq_false h'
              clear h h'
              go_quiet (fail)
              go_wp2_with fail
              go_meet
              exact ⟨by rw [e.out], _, rfl⟩
            · have e : Hid (lessB M x = false) := by unfold lessB Hid; rw [if_pos (by omega)]; exact decide_eq_false (by omega)
              have hd : decide (clO M < clO x) = false := decide_eq_false (by omega)
              have he : (clO x == clO M) = false := by simp; omega
              clear h
              go_quiet (fail)
              go_wp2_with fail
              go_meet
              exact ⟨by rw [e.out], _, rfl⟩
          case rest =>
          obtain ⟨rfl, hw2⟩ := hcut
          cases hl2 : lessB M x
          · have eM := hide (max_no M x hl2)
            clear hl2 c1 c2 c3 c4 c5 c6
            obtain ⟨n2, rfl⟩ := hw2
            go_wp2
            go_roundg (L.length - (k + 1))
            case measure => have := unhide HG; omega
            case rel => exact ⟨k + 1, k, b, by omega, rfl, rfl, rfl, by go_num, by omega, by omega, by rw [emin.out, unhide em, HX.out]; exact ⟨rfl, rfl⟩, by rw [emax.out, (unhide eM).1, (unhide eM).2]; exact (unhide HM).2, by rw [eA.out]; exact (unhide HLZ).drewN _⟩
          · have eM := hide (max_yes M x hl2)
            clear hl2 c1 c2 c3 c4 c5 c6
            obtain ⟨n2, rfl⟩ := hw2
            go_wp2
            go_roundg (L.length - (k + 1))
            case measure => have := unhide HG; omega
            case rel => exact ⟨k + 1, k, k, by omega, rfl, rfl, rfl, by go_num, by omega, by omega, by rw [emin.out, unhide em, HX.out]; exact ⟨rfl, rfl⟩, by rw [emax.out, unhide eM, HX.out]; exact ⟨rfl, rfl⟩, by rw [eA.out]; exact (unhide HLZ).drewN _⟩
    · obtain rfl : k = L.length := by omega
      have e1 : L.take L.length = L := List.take_length
      rw [e1] at hle hm hM
      have eS : Hid (spanL (x0 :: rest) = span (minL x0 L) (maxL x0 L)) := by
        unfold Hid; rw [unhide HL]
        show span (minL x0 rest) (maxL x0 rest) = span (minL (min x0 x0) rest) (maxL (max x0 x0) rest)
        rw [show min x0 x0 = x0 by omega, show max x0 x0 = x0 by omega]
      have h0L : x0 ∈ L := by rw [unhide HL]; exact List.mem_cons_self ..
      have hle1 := min_le_max x0 L
      have hout := alA_out x0 L h0L
      have hins := alA_in x0 L
      generalize minL x0 L = m at *
      generalize maxL x0 L = M at *
      generalize alA L = A at *
      have aI : (a : Int) < (rest.length : Int) + 1 := by omega
      have bI : (b : Int) < (rest.length : Int) + 1 := by omega
      have row0 : ∀ wy, Below w.heap.size w wy → wy.cell? ⟨gb, a, none⟩ = some (.int .i64 (clO m)) ∧ wy.cell? ⟨ga, a, none⟩ = some (.int .i64 (clN m)) ∧ wy.cell? ⟨gb, b, none⟩ = some (.int .i64 (clO M)) ∧ wy.cell? ⟨ga, b, none⟩ = some (.int .i64 (clN M)) := by
        intro wy hwy
        refine ⟨?_, ?_, ?_, ?_⟩
        · rw [← hm.2]; exact (hwy.cell (by exact hgb)).trans ((unhide RB) a ha)
        · rw [← hm.1]; exact (hwy.cell (by exact hga)).trans ((unhide RA) a ha)
        · rw [← hM.2]; exact (hwy.cell (by exact hgb)).trans ((unhide RB) b hb)
        · rw [← hM.1]; exact (hwy.cell (by exact hga)).trans ((unhide RA) b hb)
      obtain ⟨c3, c4, c5, c6⟩ := row0 wr hle.2.2
      have K0 : Hid (Below w.heap.size w wr) := hle.2.2
      have v0 : wr.cell? ⟨w.heap.size + 1, 0, none⟩ = some (.int .i64 0) := cell_of_block hle.2.1
      have v1 : wr.cell? ⟨w.heap.size + 1, 1, none⟩ = some (.int .i64 0) := cell_of_block hle.2.1
      have v2 : wr.cell? ⟨w.heap.size + 1, 2, none⟩ = some (.bool false) := cell_of_block hle.2.1
      have v3 : wr.cell? ⟨w.heap.size + 1, 3, none⟩ = some (.int .i64 A) := cell_of_block hle.2.1
      have f0 : wr.frozen? ⟨w.heap.size + 1, 0, none⟩ = false := frozen_of_block hle.2.1
      have f1 : wr.frozen? ⟨w.heap.size + 1, 1, none⟩ = false := frozen_of_block hle.2.1
      have f2 : wr.frozen? ⟨w.heap.size + 1, 2, none⟩ = false := frozen_of_block hle.2.1
      have s0 : wr.cell? ⟨w.heap.size, 0, none⟩ = some (.int .i64 0) := cell_of_block hle.1
      have s1 : wr.cell? ⟨w.heap.size, 1, none⟩ = some (.int .i64 0) := cell_of_block hle.1
      have s2 : wr.cell? ⟨w.heap.size, 2, none⟩ = some (.bool false) := cell_of_block hle.1
      have s3 : wr.cell? ⟨w.heap.size, 3, none⟩ = some (.int .i64 0) := cell_of_block hle.1
      have t0 : wr.frozen? ⟨w.heap.size, 0, none⟩ = false := frozen_of_block hle.1
      have t1 : wr.frozen? ⟨w.heap.size, 1, none⟩ = false := frozen_of_block hle.1
      have t2 : wr.frozen? ⟨w.heap.size, 2, none⟩ = false := frozen_of_block hle.1
      have t3 : wr.frozen? ⟨w.heap.size, 3, none⟩ = false := frozen_of_block hle.1
      have HBV := hide hle.2.1
      have HBR := hide hle.1
      have na : ¬ ga = w.heap.size + 1 := by omega
      have nb : ¬ gb = w.heap.size + 1 := by omega
      clear hle row0 hm hM h0L e1 RA RB HL HX0
      rcases clO_cases m with ⟨a1, a2, a3⟩ | ⟨a1, a2, a3⟩ | ⟨a1, a2, a3⟩ <;> rcases clO_cases M with ⟨b1, b2, b3⟩ | ⟨b1, b2, b3⟩ | ⟨b1, b2, b3⟩
      · have H : Hid (spanL (x0 :: rest) = ⟨0, 0, false, 4⟩) := by
          rw [eS.out]
          (try unfold In at *); unfold span Hid; rw [if_pos (by omega)]
        have eA : A = 4 := hout (.inl (by omega))
        rw [eA] at v3 HBV
        rw [a1] at c3
        rw [a3] at c4
        rw [b1] at c5
        rw [b3] at c6
        clear a1 a2 a3 b1 b2 b3 eA hout hins hle1 eS
        go_wp2
        exact bodyPost_ret (v := .agg #[.int .i64 0, .int .i64 0, .bool false, .int .i64 4]) (by simp [results, Try.results68, go_sem, s0, s1, s2, s3]) rfl ⟨by rw [H.out], (((K0.out.setCell (by simp) _).setCell (by simp) _).setCell (by simp) _).setCell (by simp) _⟩
      · have H : Hid (spanL (x0 :: rest) = ⟨(-9223372036854775808), 9223372036854775807, true, 4⟩) := by
          rw [eS.out]
          (try unfold In at *); unfold span Hid; rw [if_neg (by omega), if_pos (by omega)]; congr 1 <;> omega
        have eA : A = 4 := hout (.inl (by omega))
        rw [eA] at v3 HBV
        rw [a1] at c3
        rw [a3] at c4
        rw [b1] at c5
        rw [b3] at c6
        clear a1 a2 a3 b1 b2 b3 eA hout hins hle1 eS
        go_wp2
        go_region_held3 (fun wx => wx.cell? ⟨ga, a, none⟩ = some (.int .i64 0) ∧ wx.cell? ⟨ga, b, none⟩ = some (.int .i64 0)) (simp [go_sem, na, c4, c6]) (fail)
        have bv := set3_block (x := .int .i64 0) (y := .int .i64 0) (unhide HBV)
        have br := (set3_other (b := w.heap.size + 1) (c := w.heap.size) (x := .int .i64 0) (y := .int .i64 0) (w := wr) (by omega)).trans (unhide HBR)
        have ba := set3_cell (b := w.heap.size + 1) (x := .int .i64 0) (y := .int .i64 0) (w := wr)
        have bd : Below w.heap.size w (((wr.setCell ⟨w.heap.size + 1, 2, none⟩ (.bool true)).setCell ⟨w.heap.size + 1, 0, none⟩ (.int .i64 0)).setCell ⟨w.heap.size + 1, 1, none⟩ (.int .i64 0)) := ((K0.out.setCell (by simp) _).setCell (by simp) _).setCell (by simp) _
        have g3 := (ba gb a nb).trans c3
        have g5 := (ba gb b nb).trans c5
        clear ba c3 c4 c5 c6 v0 v1 v2 v3 f0 f1 f2 s0 s1 s2 s3 t0 t1 t2 t3 HBV HBR K0
        generalize ((wr.setCell ⟨w.heap.size + 1, 2, none⟩ (.bool true)).setCell ⟨w.heap.size + 1, 0, none⟩ (.int .i64 0)).setCell ⟨w.heap.size + 1, 1, none⟩ (.int .i64 0) = w1 at bv br bd g3 g5 ⊢
        have v0 : w1.cell? ⟨w.heap.size + 1, 0, none⟩ = some (.int .i64 0) := cell_of_block bv
        have v1 : w1.cell? ⟨w.heap.size + 1, 1, none⟩ = some (.int .i64 0) := cell_of_block bv
        have v2 : w1.cell? ⟨w.heap.size + 1, 2, none⟩ = some (.bool true) := cell_of_block bv
        have v3 : w1.cell? ⟨w.heap.size + 1, 3, none⟩ = some (.int .i64 4) := cell_of_block bv
        have f0 : w1.frozen? ⟨w.heap.size + 1, 0, none⟩ = false := frozen_of_block bv
        have f1 : w1.frozen? ⟨w.heap.size + 1, 1, none⟩ = false := frozen_of_block bv
        have s0 : w1.cell? ⟨w.heap.size, 0, none⟩ = some (.int .i64 0) := cell_of_block br
        have s1 : w1.cell? ⟨w.heap.size, 1, none⟩ = some (.int .i64 0) := cell_of_block br
        have s2 : w1.cell? ⟨w.heap.size, 2, none⟩ = some (.bool false) := cell_of_block br
        have s3 : w1.cell? ⟨w.heap.size, 3, none⟩ = some (.int .i64 0) := cell_of_block br
        have t0 : w1.frozen? ⟨w.heap.size, 0, none⟩ = false := frozen_of_block br
        have t1 : w1.frozen? ⟨w.heap.size, 1, none⟩ = false := frozen_of_block br
        have t2 : w1.frozen? ⟨w.heap.size, 2, none⟩ = false := frozen_of_block br
        have t3 : w1.frozen? ⟨w.heap.size, 3, none⟩ = false := frozen_of_block br
        have K0 := hide bd
        clear bv br bd
        go_wp2
        exact bodyPost_ret (v := .agg #[.int .i64 (-9223372036854775808), .int .i64 9223372036854775807, .bool true, .int .i64 4]) (by simp [results, Try.results68, go_sem, s0, s1, s2, s3]) rfl ⟨by rw [H.out], (((((((unhide K0).setCell (by simp) _).setCell (by simp) _).setCell (by simp) _).setCell (by simp) _).setCell (by simp) _).setCell (by simp) _).drew⟩
      · have H : Hid (spanL (x0 :: rest) = ⟨(-9223372036854775808), M, true, 4⟩) := by
          rw [eS.out]
          (try unfold In at *); unfold span Hid; rw [if_neg (by omega), if_pos (by omega)]; congr 1 <;> omega
        have eA : A = 4 := hout (.inl (by omega))
        rw [eA] at v3 HBV
        rw [a1] at c3
        rw [a3] at c4
        rw [b1] at c5
        rw [b3] at c6
        clear a1 a2 a3 b1 b2 b3 eA hout hins hle1 eS
        go_wp2
        go_region_held3 (fun wx => wx.cell? ⟨ga, a, none⟩ = some (.int .i64 0) ∧ wx.cell? ⟨ga, b, none⟩ = some (.int .i64 M)) (simp [go_sem, na, c4, c6]) (fail)
        have bv := set3_block (x := .int .i64 0) (y := .int .i64 M) (unhide HBV)
        have br := (set3_other (b := w.heap.size + 1) (c := w.heap.size) (x := .int .i64 0) (y := .int .i64 M) (w := wr) (by omega)).trans (unhide HBR)
        have ba := set3_cell (b := w.heap.size + 1) (x := .int .i64 0) (y := .int .i64 M) (w := wr)
        have bd : Below w.heap.size w (((wr.setCell ⟨w.heap.size + 1, 2, none⟩ (.bool true)).setCell ⟨w.heap.size + 1, 0, none⟩ (.int .i64 0)).setCell ⟨w.heap.size + 1, 1, none⟩ (.int .i64 M)) := ((K0.out.setCell (by simp) _).setCell (by simp) _).setCell (by simp) _
        have g3 := (ba gb a nb).trans c3
        have g5 := (ba gb b nb).trans c5
        clear ba c3 c4 c5 c6 v0 v1 v2 v3 f0 f1 f2 s0 s1 s2 s3 t0 t1 t2 t3 HBV HBR K0
        generalize ((wr.setCell ⟨w.heap.size + 1, 2, none⟩ (.bool true)).setCell ⟨w.heap.size + 1, 0, none⟩ (.int .i64 0)).setCell ⟨w.heap.size + 1, 1, none⟩ (.int .i64 M) = w1 at bv br bd g3 g5 ⊢
        have v0 : w1.cell? ⟨w.heap.size + 1, 0, none⟩ = some (.int .i64 0) := cell_of_block bv
        have v1 : w1.cell? ⟨w.heap.size + 1, 1, none⟩ = some (.int .i64 M) := cell_of_block bv
        have v2 : w1.cell? ⟨w.heap.size + 1, 2, none⟩ = some (.bool true) := cell_of_block bv
        have v3 : w1.cell? ⟨w.heap.size + 1, 3, none⟩ = some (.int .i64 4) := cell_of_block bv
        have f0 : w1.frozen? ⟨w.heap.size + 1, 0, none⟩ = false := frozen_of_block bv
        have f1 : w1.frozen? ⟨w.heap.size + 1, 1, none⟩ = false := frozen_of_block bv
        have s0 : w1.cell? ⟨w.heap.size, 0, none⟩ = some (.int .i64 0) := cell_of_block br
        have s1 : w1.cell? ⟨w.heap.size, 1, none⟩ = some (.int .i64 0) := cell_of_block br
        have s2 : w1.cell? ⟨w.heap.size, 2, none⟩ = some (.bool false) := cell_of_block br
        have s3 : w1.cell? ⟨w.heap.size, 3, none⟩ = some (.int .i64 0) := cell_of_block br
        have t0 : w1.frozen? ⟨w.heap.size, 0, none⟩ = false := frozen_of_block br
        have t1 : w1.frozen? ⟨w.heap.size, 1, none⟩ = false := frozen_of_block br
        have t2 : w1.frozen? ⟨w.heap.size, 2, none⟩ = false := frozen_of_block br
        have t3 : w1.frozen? ⟨w.heap.size, 3, none⟩ = false := frozen_of_block br
        have K0 := hide bd
        clear bv br bd
        go_wp2
        exact bodyPost_ret (v := .agg #[.int .i64 (-9223372036854775808), .int .i64 M, .bool true, .int .i64 4]) (by simp [results, Try.results68, go_sem, s0, s1, s2, s3]) rfl ⟨by rw [H.out], ((((((unhide K0).setCell (by simp) _).setCell (by simp) _).setCell (by simp) _).setCell (by simp) _).setCell (by simp) _).drew⟩
      · exfalso; (try unfold In at *); omega
      · have H : Hid (spanL (x0 :: rest) = ⟨0, 0, false, 4⟩) := by
          rw [eS.out]
          (try unfold In at *); unfold span Hid; rw [if_pos (by omega)]
        have eA : A = 4 := hout (.inl (by omega))
        rw [eA] at v3 HBV
        rw [a1] at c3
        rw [a3] at c4
        rw [b1] at c5
        rw [b3] at c6
        clear a1 a2 a3 b1 b2 b3 eA hout hins hle1 eS
        go_wp2
        exact bodyPost_ret (v := .agg #[.int .i64 0, .int .i64 0, .bool false, .int .i64 4]) (by simp [results, Try.results68, go_sem, s0, s1, s2, s3]) rfl ⟨by rw [H.out], (((K0.out.setCell (by simp) _).setCell (by simp) _).setCell (by simp) _).setCell (by simp) _⟩
      · exfalso; (try unfold In at *); omega
      · exfalso; (try unfold In at *); omega
      · have H : Hid (spanL (x0 :: rest) = ⟨m, 9223372036854775807, true, 4⟩) := by
          rw [eS.out]
          (try unfold In at *); unfold span Hid; rw [if_neg (by omega), if_pos (by omega)]; congr 1 <;> omega
        have eA : A = 4 := hout (.inr (by omega))
        rw [eA] at v3 HBV
        rw [a1] at c3
        rw [a3] at c4
        rw [b1] at c5
        rw [b3] at c6
        clear a1 a2 a3 b1 b2 b3 eA hout hins hle1 eS
        go_wp2
        go_region_held3 (fun wx => wx.cell? ⟨ga, a, none⟩ = some (.int .i64 m) ∧ wx.cell? ⟨ga, b, none⟩ = some (.int .i64 0)) (simp [go_sem, na, c4, c6]) (fail)
        have bv := set3_block (x := .int .i64 m) (y := .int .i64 0) (unhide HBV)
        have br := (set3_other (b := w.heap.size + 1) (c := w.heap.size) (x := .int .i64 m) (y := .int .i64 0) (w := wr) (by omega)).trans (unhide HBR)
        have ba := set3_cell (b := w.heap.size + 1) (x := .int .i64 m) (y := .int .i64 0) (w := wr)
        have bd : Below w.heap.size w (((wr.setCell ⟨w.heap.size + 1, 2, none⟩ (.bool true)).setCell ⟨w.heap.size + 1, 0, none⟩ (.int .i64 m)).setCell ⟨w.heap.size + 1, 1, none⟩ (.int .i64 0)) := ((K0.out.setCell (by simp) _).setCell (by simp) _).setCell (by simp) _
        have g3 := (ba gb a nb).trans c3
        have g5 := (ba gb b nb).trans c5
        clear ba c3 c4 c5 c6 v0 v1 v2 v3 f0 f1 f2 s0 s1 s2 s3 t0 t1 t2 t3 HBV HBR K0
        generalize ((wr.setCell ⟨w.heap.size + 1, 2, none⟩ (.bool true)).setCell ⟨w.heap.size + 1, 0, none⟩ (.int .i64 m)).setCell ⟨w.heap.size + 1, 1, none⟩ (.int .i64 0) = w1 at bv br bd g3 g5 ⊢
        have v0 : w1.cell? ⟨w.heap.size + 1, 0, none⟩ = some (.int .i64 m) := cell_of_block bv
        have v1 : w1.cell? ⟨w.heap.size + 1, 1, none⟩ = some (.int .i64 0) := cell_of_block bv
        have v2 : w1.cell? ⟨w.heap.size + 1, 2, none⟩ = some (.bool true) := cell_of_block bv
        have v3 : w1.cell? ⟨w.heap.size + 1, 3, none⟩ = some (.int .i64 4) := cell_of_block bv
        have f0 : w1.frozen? ⟨w.heap.size + 1, 0, none⟩ = false := frozen_of_block bv
        have f1 : w1.frozen? ⟨w.heap.size + 1, 1, none⟩ = false := frozen_of_block bv
        have s0 : w1.cell? ⟨w.heap.size, 0, none⟩ = some (.int .i64 0) := cell_of_block br
        have s1 : w1.cell? ⟨w.heap.size, 1, none⟩ = some (.int .i64 0) := cell_of_block br
        have s2 : w1.cell? ⟨w.heap.size, 2, none⟩ = some (.bool false) := cell_of_block br
        have s3 : w1.cell? ⟨w.heap.size, 3, none⟩ = some (.int .i64 0) := cell_of_block br
        have t0 : w1.frozen? ⟨w.heap.size, 0, none⟩ = false := frozen_of_block br
        have t1 : w1.frozen? ⟨w.heap.size, 1, none⟩ = false := frozen_of_block br
        have t2 : w1.frozen? ⟨w.heap.size, 2, none⟩ = false := frozen_of_block br
        have t3 : w1.frozen? ⟨w.heap.size, 3, none⟩ = false := frozen_of_block br
        have K0 := hide bd
        clear bv br bd
        go_wp2
        exact bodyPost_ret (v := .agg #[.int .i64 m, .int .i64 9223372036854775807, .bool true, .int .i64 4]) (by simp [results, Try.results68, go_sem, s0, s1, s2, s3]) rfl ⟨by rw [H.out], ((((((unhide K0).setCell (by simp) _).setCell (by simp) _).setCell (by simp) _).setCell (by simp) _).setCell (by simp) _).drew⟩
      · have H : Hid (spanL (x0 :: rest) = ⟨m, M, true, 0⟩) := by
          rw [eS.out]
          (try unfold In at *); unfold span Hid; rw [if_neg (by omega), if_neg (by omega)]; congr 1 <;> omega
        have eA : A = 0 := hins a2 b2
        rw [eA] at v3 HBV
        rw [a1] at c3
        rw [a3] at c4
        rw [b1] at c5
        rw [b3] at c6
        clear a1 a2 a3 b1 b2 b3 eA hout hins hle1 eS
        go_wp2
        go_region_held3 (fun wx => wx.cell? ⟨ga, a, none⟩ = some (.int .i64 m) ∧ wx.cell? ⟨ga, b, none⟩ = some (.int .i64 M)) (simp [go_sem, na, c4, c6]) (fail)
        have bv := set3_block (x := .int .i64 m) (y := .int .i64 M) (unhide HBV)
        have br := (set3_other (b := w.heap.size + 1) (c := w.heap.size) (x := .int .i64 m) (y := .int .i64 M) (w := wr) (by omega)).trans (unhide HBR)
        have ba := set3_cell (b := w.heap.size + 1) (x := .int .i64 m) (y := .int .i64 M) (w := wr)
        have bd : Below w.heap.size w (((wr.setCell ⟨w.heap.size + 1, 2, none⟩ (.bool true)).setCell ⟨w.heap.size + 1, 0, none⟩ (.int .i64 m)).setCell ⟨w.heap.size + 1, 1, none⟩ (.int .i64 M)) := ((K0.out.setCell (by simp) _).setCell (by simp) _).setCell (by simp) _
        have g3 := (ba gb a nb).trans c3
        have g5 := (ba gb b nb).trans c5
        clear ba c3 c4 c5 c6 v0 v1 v2 v3 f0 f1 f2 s0 s1 s2 s3 t0 t1 t2 t3 HBV HBR K0
        generalize ((wr.setCell ⟨w.heap.size + 1, 2, none⟩ (.bool true)).setCell ⟨w.heap.size + 1, 0, none⟩ (.int .i64 m)).setCell ⟨w.heap.size + 1, 1, none⟩ (.int .i64 M) = w1 at bv br bd g3 g5 ⊢
        have v0 : w1.cell? ⟨w.heap.size + 1, 0, none⟩ = some (.int .i64 m) := cell_of_block bv
        have v1 : w1.cell? ⟨w.heap.size + 1, 1, none⟩ = some (.int .i64 M) := cell_of_block bv
        have v2 : w1.cell? ⟨w.heap.size + 1, 2, none⟩ = some (.bool true) := cell_of_block bv
        have v3 : w1.cell? ⟨w.heap.size + 1, 3, none⟩ = some (.int .i64 0) := cell_of_block bv
        have f0 : w1.frozen? ⟨w.heap.size + 1, 0, none⟩ = false := frozen_of_block bv
        have f1 : w1.frozen? ⟨w.heap.size + 1, 1, none⟩ = false := frozen_of_block bv
        have s0 : w1.cell? ⟨w.heap.size, 0, none⟩ = some (.int .i64 0) := cell_of_block br
        have s1 : w1.cell? ⟨w.heap.size, 1, none⟩ = some (.int .i64 0) := cell_of_block br
        have s2 : w1.cell? ⟨w.heap.size, 2, none⟩ = some (.bool false) := cell_of_block br
        have s3 : w1.cell? ⟨w.heap.size, 3, none⟩ = some (.int .i64 0) := cell_of_block br
        have t0 : w1.frozen? ⟨w.heap.size, 0, none⟩ = false := frozen_of_block br
        have t1 : w1.frozen? ⟨w.heap.size, 1, none⟩ = false := frozen_of_block br
        have t2 : w1.frozen? ⟨w.heap.size, 2, none⟩ = false := frozen_of_block br
        have t3 : w1.frozen? ⟨w.heap.size, 3, none⟩ = false := frozen_of_block br
        have K0 := hide bd
        clear bv br bd
        go_wp2
        exact bodyPost_ret (v := .agg #[.int .i64 m, .int .i64 M, .bool true, .int .i64 0]) (by simp [results, Try.results68, go_sem, s0, s1, s2, s3]) rfl ⟨by rw [H.out], (((((unhide K0).setCell (by simp) _).setCell (by simp) _).setCell (by simp) _).setCell (by simp) _).drew⟩
end Go.Proofs.Ytfnedaidljppnaa
