/- Texts that go together: TokC, TokD, TokE, TokF, TokG. -/
import Derived.Test.YthldhjifnpfmiaaGreatDoorEntD
/- Tokens: what both TokenOk answer. -/
namespace Go.Proofs.YthldhjifnpfmiaaGreatDoor
open Go.RowKit
set_option linter.unusedSimpArgs false

/-- An entry whose line and pick are as they must be; a token. -/
def entB (p : Int × Int) : Bool := inB p.1 0 29 && inB p.2 0 4
def tokB (xs : List (Int × Int)) : Bool := decide (xs.length ≤ 3) && xs.all entB
theorem tokB_bad (xs : List (Int × Int)) (k : Nat) (hk : k < xs.length) (h : entB xs[k] = false) : tokB xs = false := by
  unfold tokB
  have : xs.all entB = false := by
    rw [List.all_eq_false]
    exact ⟨xs[k], List.getElem_mem hk, by simp [h]⟩
  rw [this, Bool.and_false]
theorem tokB_long (xs : List (Int × Int)) (h : ¬ xs.length ≤ 3) : tokB xs = false := by unfold tokB; simp [h]
theorem tokB_all (xs : List (Int × Int)) (h : ∀ j, (hj : j < xs.length) → j < xs.length → entB xs[j] = true) : tokB xs = decide (xs.length ≤ 3) := by
  unfold tokB
  have : xs.all entB = true := by
    rw [List.all_eq_true]
    intro x hx
    obtain ⟨i, hi, rfl⟩ := List.getElem_of_mem hx
    exact h i hi hi
  rw [this, Bool.and_true]
theorem isBelow_c (n m : Int) (w : World) : Calls Tryz.prog 64 #[.int .i64 n, .int .i64 m] w fun e w' => e = .returned (.bool (inB n 0 (m - 1))) ∧ w' = w := by
  by_cases h : 0 ≤ n
  · have H : Hid (inB n 0 (m - 1) = decide (n < m)) := decide_eq_decide.2 ⟨fun k => by omega, fun k => by omega⟩
    go_enter Tryz.func64, Tryz.ntmps64
    go_wp2
    go_ret
    exact ⟨by rw [H.out]; rfl, rfl⟩
  · have H : Hid (inB n 0 (m - 1) = false) := decide_eq_false (fun k => h k.1)
    go_enter Tryz.func64, Tryz.ntmps64
    go_wp2
    go_ret
    exact ⟨by rw [H.out]; rfl, rfl⟩
set_option maxHeartbeats 400000 in
theorem sTokenOk_c (a : Option Addr) (cap : Nat) (zs : List (Int × Int)) (w : World) (h : Ivs w a zs) : Calls Tryz.prog 26 #[.slice a zs.length cap] w fun e w' => e = .returned (.bool (tokB zs)) ∧ w' = w := by
  have hl := h.1
  obtain ⟨r, hr⟩ : ∃ r, r = tokB zs := ⟨_, rfl⟩
  obtain ⟨L, hL⟩ : ∃ L, L = zs.length := ⟨_, rfl⟩
  rw [← hr]
  rw [← hL] at hl ⊢
  have HR := hide hr
  have HL := hide hL
  have HH := hide h
  have hl' : (L : Int) ≤ 1048576 := by omega
  clear h hL hr
  by_cases h3 : (L : Int) ≤ 3
  · go_enter Tryz.func26, Tryz.ntmps26
    go_wp2
    go_loopw [3] (fun i wr => ∃ k : Nat, k ≤ L ∧ i = .int .i64 k ∧ (∀ j, (hj : j < zs.length) → j < k → entB zs[j] = true) ∧ wr = w) (fun i _ => L - (intOf i).toNat)
    case atStart => exact ⟨0, Nat.zero_le _, rfl, fun j _ h0 => by omega, rfl⟩
    case round =>
      obtain ⟨k, hk, rfl, ha, rfl⟩ := hrel
      have HA := hide ha
      clear ha
      by_cases hlt : k < L
      · have hk' : k < zs.length := by rw [← unhide HL]; exact hlt
        obtain ⟨s, hs⟩ : ∃ s, s = zs[k].1 := ⟨_, rfl⟩
        obtain ⟨z, hz⟩ : ∃ z, z = zs[k].2 := ⟨_, rfl⟩
        rcases (unhide HH).2 with h0 | ⟨cb, co, rfl, hc⟩
        · omega
        have c1 := (hc k hk').1
        have c2 := (hc k hk').2
        rw [← hs] at c1
        rw [← hz] at c2
        have E : Hid (entB zs[k] = (inB s 0 29 && inB z 0 4)) := by unfold Hid; rw [hs, hz]; rfl
        clear hs hz hc
        by_cases g1 : inB s 0 29 = true
        · by_cases g2 : inB z 0 4 = true
          · have HG : Hid (entB zs[k] = true) := by unfold Hid; rw [E.out, g1, g2]; rfl
            go_wp2_with fail
            refine (l1In_c _ _ _ _).mono ?_
            rintro e w2 ⟨rfl, rfl⟩
            rw [g1]
            go_wp2_with fail
            refine (l1In_c _ _ _ _).mono ?_
            rintro e w2 ⟨rfl, rfl⟩
            rw [g2]
            go_wp2
            go_roundw
            case rel => exact ⟨k + 1, by omega, by go_num, fun j hj h1 => by
              by_cases e : j = k
              · subst e; exact unhide HG
              · exact unhide HA j hj (by omega), trivial⟩
            case measure => simp [intOf]; omega
          · have g2' : inB z 0 4 = false := by simpa using g2
            have HG : Hid (entB zs[k] = false) := by unfold Hid; rw [E.out, g2', Bool.and_false]
            go_wp2_with fail
            refine (l1In_c _ _ _ _).mono ?_
            rintro e w2 ⟨rfl, rfl⟩
            rw [g1]
            go_wp2_with fail
            refine (l1In_c _ _ _ _).mono ?_
            rintro e w2 ⟨rfl, rfl⟩
            rw [g2']
            go_wp2
            go_ret
            exact ⟨by rw [unhide HR, tokB_bad zs k hk' (unhide HG)]; rfl, rfl⟩
        · have g1' : inB s 0 29 = false := by simpa using g1
          have HG : Hid (entB zs[k] = false) := by unfold Hid; rw [E.out, g1', Bool.false_and]
          go_wp2_with fail
          refine (l1In_c _ _ _ _).mono ?_
          rintro e w2 ⟨rfl, rfl⟩
          rw [g1']
          go_wp2
          go_ret
          exact ⟨by rw [unhide HR, tokB_bad zs k hk' (unhide HG)]; rfl, rfl⟩
      · obtain rfl : k = L := by omega
        go_wp2
        go_ret
        refine ⟨?_, rfl⟩
        rw [unhide HR, tokB_all zs (fun j hj _ => unhide HA j hj (by rw [unhide HL]; exact hj))]
        have h4 : zs.length ≤ 3 := by rw [← unhide HL]; omega
        simp [h4]
  · go_enter Tryz.func26, Tryz.ntmps26
    go_wp2
    go_ret
    exact ⟨by rw [unhide HR, tokB_long zs (by rw [← unhide HL]; omega)]; rfl, rfl⟩
set_option maxHeartbeats 400000 in
theorem TokenOk_c (a : Option Addr) (cap : Nat) (zs : List (Int × Int)) (w : World) (h : Ivs w a zs) : Calls Tryz.prog 38 #[.slice a zs.length cap] w fun e w' => e = .returned (.bool (tokB zs)) ∧ Below w.heap.size w w' := by
  have hl := h.1
  obtain ⟨r, hr⟩ : ∃ r, r = tokB zs := ⟨_, rfl⟩
  obtain ⟨L, hL⟩ : ∃ L, L = zs.length := ⟨_, rfl⟩
  rw [← hr]
  rw [← hL] at hl ⊢
  have HR := hide hr
  have HL := hide hL
  have HH := hide h
  have hl' : (L : Int) ≤ 1048576 := by omega
  clear h hL hr
  go_enter Tryz.func38, Tryz.ntmps38
  go_wp2
  go_loopw [7] (fun i wr => ∃ k : Nat, k ≤ L ∧ i = .int .i64 k ∧ (∀ j, (hj : j < zs.length) → j < k → entB zs[j] = true) ∧ Below w.heap.size w wr) (fun i _ => L - (intOf i).toNat)
  case atStart => exact ⟨0, Nat.zero_le _, rfl, fun j _ h0 => by omega, Below.refl _ _⟩
  case round =>
    obtain ⟨k, hk, rfl, ha, hb⟩ := hrel
    have HA := hide ha
    have HB := hide hb
    clear ha
    by_cases hlt : k < L
    · have hk' : k < zs.length := by rw [← unhide HL]; exact hlt
      obtain ⟨s, hs⟩ : ∃ s, s = zs[k].1 := ⟨_, rfl⟩
      obtain ⟨z, hz⟩ : ∃ z, z = zs[k].2 := ⟨_, rfl⟩
      rcases ((unhide HH).call hb).2 with h0 | ⟨cb, co, rfl, hc⟩
      · omega
      have c1 := (hc k hk').1
      have c2 := (hc k hk').2
      rw [← hs] at c1
      rw [← hz] at c2
      have E : Hid (entB zs[k] = (inB s 0 29 && inB z 0 4)) := by unfold Hid; rw [hs, hz]; rfl
      have HB1 : Hid (∀ o, Below w.heap.size w (wr.alloc o)) := fun o => hb.alloc hb.size o
      clear hs hz hc hb
      by_cases g1 : inB s 0 (30 - 1) = true
      · by_cases g2 : inB z 0 (5 - 1) = true
        · have HG : Hid (entB zs[k] = true) := by unfold Hid; rw [E.out, show inB s 0 29 = true from g1, show inB z 0 4 = true from g2]; rfl
          go_wp2_with fail
          refine (isBelow_c _ _ _).mono ?_
          rintro e w2 ⟨rfl, rfl⟩
          rw [g1]
          go_wp2_with fail
          refine (isBelow_c _ _ _).mono ?_
          rintro e w2 ⟨rfl, rfl⟩
          rw [g2]
          go_wp2
          go_roundw
          case rel => exact ⟨k + 1, by omega, by go_num, fun j hj h1 => by
            by_cases e : j = k
            · subst e; exact unhide HG
            · exact unhide HA j hj (by omega), unhide HB1 _⟩
          case measure => simp [intOf]; omega
        · have g2' : inB z 0 (5 - 1) = false := by simpa using g2
          have HG : Hid (entB zs[k] = false) := by unfold Hid; rw [E.out, show inB z 0 4 = false from g2', Bool.and_false]
          go_wp2_with fail
          refine (isBelow_c _ _ _).mono ?_
          rintro e w2 ⟨rfl, rfl⟩
          rw [g1]
          go_wp2_with fail
          refine (isBelow_c _ _ _).mono ?_
          rintro e w2 ⟨rfl, rfl⟩
          rw [g2']
          go_wp2
          go_ret
          exact ⟨by rw [unhide HR, tokB_bad zs k hk' (unhide HG)]; rfl, unhide HB1 _⟩
      · have g1' : inB s 0 (30 - 1) = false := by simpa using g1
        have HG : Hid (entB zs[k] = false) := by unfold Hid; rw [E.out, show inB s 0 29 = false from g1', Bool.false_and]
        go_wp2_with fail
        refine (isBelow_c _ _ _).mono ?_
        rintro e w2 ⟨rfl, rfl⟩
        rw [g1']
        go_wp2
        go_ret
        exact ⟨by rw [unhide HR, tokB_bad zs k hk' (unhide HG)]; rfl, unhide HB1 _⟩
    · obtain rfl : k = L := by omega
      clear hb
      have e := tokB_all zs (fun j hj _ => unhide HA j hj (by rw [unhide HL]; exact hj))
      rw [← unhide HR, ← unhide HL] at e
      have E := hide e
      clear e
      go_wp2
      go_ret
      refine ⟨?_, unhide HB⟩
      rw [unhide E]
      show Ending.returned (.bool (decide ((k : Int) ≤ 3))) = _
      rw [show decide ((k : Int) ≤ 3) = decide (k ≤ 3) from decide_eq_decide.2 (by omega)]
end Go.Proofs.YthldhjifnpfmiaaGreatDoor

/- The order of entries and tokens, as the program tells it: the library's Compare and Or. -/
namespace Go.Proofs.YthldhjifnpfmiaaGreatDoor
open Go.RowKit
set_option linter.unusedSimpArgs false

def cmpI (a b : Int) : Int := if a < b then -1 else if b < a then 1 else 0
def orI (x y : Int) : Int := if x = 0 then y else x
def entC (p q : Int × Int) : Int := orI (cmpI p.1 q.1) (cmpI p.2 q.2)
theorem cmpI_cases (a b : Int) : (a < b ∧ cmpI a b = -1) ∨ (b < a ∧ cmpI a b = 1) ∨ (a = b ∧ cmpI a b = 0) := by
  unfold cmpI
  by_cases h : a < b
  · exact .inl ⟨h, if_pos h⟩
  · by_cases h2 : b < a
    · exact .inr (.inl ⟨h2, by rw [if_neg h, if_pos h2]⟩)
    · exact .inr (.inr ⟨by omega, by rw [if_neg h, if_neg h2]⟩)
theorem nanI_c (x : Int) (w : World) : Calls Tryz.prog 107 #[.int .i64 x] w fun e w' => e = .returned (.bool false) ∧ w' = w := by
  go_enter Tryz.func107, Tryz.ntmps107
  go_wp2
  go_ret
  exact ⟨by simp, rfl⟩
theorem nanJ_c (x : Int) (w : World) : Calls Tryz.prog 110 #[.int .i64 x] w fun e w' => e = .returned (.bool false) ∧ w' = w := by
  go_enter Tryz.func110, Tryz.ntmps110
  go_wp2
  go_ret
  exact ⟨by simp, rfl⟩
theorem cmpI_c (a b : Int) (w : World) : Calls Tryz.prog 101 #[.int .i64 a, .int .i64 b] w fun e w' => e = .returned (.int .i64 (cmpI a b)) ∧ w' = w := by
  rcases cmpI_cases a b with ⟨h, e⟩ | ⟨h, e⟩ | ⟨h, e⟩
  all_goals
    have E := hide e
    clear e
    try subst h
    try (have h2 : ¬ a < b := by omega)
    go_enter Tryz.func101, Tryz.ntmps101
    go_wp2_with (go_at_call 107; refine (nanI_c _ _).mono ?_; rintro e w' ⟨rfl, rfl⟩)
    go_ret
    exact ⟨by rw [unhide E]; rfl, rfl⟩
theorem cmpJ_c (a b : Int) (w : World) : Calls Tryz.prog 108 #[.int .i64 a, .int .i64 b] w fun e w' => e = .returned (.int .i64 (cmpI a b)) ∧ w' = w := by
  rcases cmpI_cases a b with ⟨h, e⟩ | ⟨h, e⟩ | ⟨h, e⟩
  all_goals
    have E := hide e
    clear e
    try subst h
    try (have h2 : ¬ a < b := by omega)
    go_enter Tryz.func108, Tryz.ntmps108
    go_wp2_with (go_at_call 110; refine (nanJ_c _ _).mono ?_; rintro e w' ⟨rfl, rfl⟩)
    go_ret
    exact ⟨by rw [unhide E]; rfl, rfl⟩
theorem or_c (b c : Nat) (x y : Int) (w : World) (hx : w.cell? ⟨b, 0, none⟩ = some (.int .i64 x)) (hy : w.cell? ⟨b, 1, none⟩ = some (.int .i64 y)) :
    Calls Tryz.prog 100 #[.slice (some ⟨b, 0, none⟩) 2 c] w fun e w' => e = .returned (.int .i64 (orI x y)) ∧ w' = w := by
  go_enter Tryz.func100, Tryz.ntmps100
  go_wp2
  go_loopw [8] (fun i wr => ((i = .int .i64 0) ∨ (i = .int .i64 1 ∧ x = 0) ∨ (i = .int .i64 2 ∧ x = 0 ∧ y = 0)) ∧ wr = w) (fun i _ => 2 - (intOf i).toNat)
  case atStart => exact ⟨.inl rfl, rfl⟩
  case round =>
    obtain ⟨hq, rfl⟩ := hrel
    rcases hq with rfl | ⟨rfl, rfl⟩ | ⟨rfl, rfl, rfl⟩
    · by_cases h : x = 0
      · subst h
        go_wp2
        go_roundw
        case rel => exact ⟨.inr (.inl ⟨rfl, trivial⟩), trivial⟩
        case measure => simp [intOf]
      · have h1 : (x != 0) = true := by simpa using h
        have E : Hid (orI x y = x) := if_neg h
        go_wp2
        go_ret
        exact ⟨by rw [E.out]; rfl, rfl⟩
    · by_cases h : y = 0
      · subst h
        go_wp2
        go_roundw
        case rel => exact ⟨.inr (.inr ⟨rfl, trivial, trivial⟩), trivial⟩
        case measure => simp [intOf]
      · have h1 : (y != 0) = true := by simpa using h
        have E : Hid (orI 0 y = y) := if_pos rfl
        go_wp2
        go_ret
        exact ⟨by rw [E.out]; rfl, rfl⟩
    · go_wp2
      go_ret
      exact ⟨rfl, rfl⟩
end Go.Proofs.YthldhjifnpfmiaaGreatDoor

/- The order of entries and of rows of them. -/
namespace Go.Proofs.YthldhjifnpfmiaaGreatDoor
open Go.RowKit
set_option linter.unusedSimpArgs false

theorem H4.alloc {w0 w : World} {a1 a2 a3 a4 : Addr} {v1 v2 v3 v4 : Value} (o : Obj) (h : H4 w0 a1 a2 a3 a4 v1 v2 v3 v4 w) : H4 w0 a1 a2 a3 a4 v1 v2 v3 v4 (w.alloc o) := H4.call ((Below.refl _ _).alloc (Nat.le_refl _) o) h
theorem two_new (u : World) (x y : Value) (t : TypeId) : (u.alloc (Obj.cells #[x, y] t)).drew.cell? ⟨u.heap.size, 0, none⟩ = some x ∧ (u.alloc (Obj.cells #[x, y] t)).drew.cell? ⟨u.heap.size, 1, none⟩ = some y := by
  constructor
  · show (u.alloc (Obj.cells #[x, y] t)).cell? _ = _
    unfold World.cell?; rw [heap_alloc_new]; rfl
  · show (u.alloc (Obj.cells #[x, y] t)).cell? _ = _
    unfold World.cell?; rw [heap_alloc_new]; rfl
set_option maxHeartbeats 1000000 in
theorem eord_c (p1 p2 q1 q2 : Int) (w : World) : Calls Tryz.prog 103 #[.agg #[.int .i64 p1, .int .i64 p2], .agg #[.int .i64 q1, .int .i64 q2]] w fun e w' => e = .returned (.int .i64 (orI (cmpI p1 q1) (cmpI p2 q2))) ∧ Below w.heap.size w w' := by
  obtain ⟨u, hu⟩ : ∃ u, u = (w.alloc (Obj.cells #[.int .i64 p1, .int .i64 p2] 78)).alloc (Obj.cells #[.int .i64 q1, .int .i64 q2] 78) := ⟨_, rfl⟩
  have hk4 : H4 w ⟨w.heap.size, 0, none⟩ ⟨w.heap.size, 1, none⟩ ⟨w.heap.size + 1, 0, none⟩ ⟨w.heap.size + 1, 1, none⟩ (.int .i64 p1) (.int .i64 p2) (.int .i64 q1) (.int .i64 q2) u := by
    rw [hu]
    exact ⟨by simp [go_sem], by simp [go_sem], by simp [go_sem], by simp [go_sem], ((Below.refl _ _).alloc (Nat.le_refl _) _).alloc (by simp) _⟩
  have HU := hide hu
  clear hu
  go_enter Tryz.func103, Tryz.ntmps103
  go_wp2_with fail
  rw [← unhide HU]
  go_region_held3 (H4 w ⟨w.heap.size, 0, none⟩ ⟨w.heap.size, 1, none⟩ ⟨w.heap.size + 1, 0, none⟩ ⟨w.heap.size + 1, 1, none⟩ (.int .i64 p1) (.int .i64 p2) (.int .i64 q1) (.int .i64 q2))
    (first | assumption | exact H4.drew (by assumption) | exact H4.alloc _ (by assumption) | exact H4.drew (H4.alloc _ (by assumption)) | exact H4.alloc _ (H4.drew (by assumption)))
    (first
      | (go_at_call 108; refine (cmpJ_c _ _ _).mono ?_; rintro e w1 ⟨rfl, rfl⟩)
      | (go_at_call 100; refine (or_c _ _ (cmpI p1 q1) (cmpI p2 q2) _ (two_new _ _ _ _).1 (two_new _ _ _ _).2).mono ?_; rintro e w1 ⟨rfl, rfl⟩))
  rename_i hH
  go_wp2
  go_ret
  exact ⟨rfl, hH.2.2.2.2⟩
end Go.Proofs.YthldhjifnpfmiaaGreatDoor

/- The order of tokens, as the program and the specification tell it. -/
namespace Go.Proofs.YthldhjifnpfmiaaGreatDoor
open Go.RowKit
set_option linter.unusedSimpArgs false

/-- Rows of entries, held against each other from the start. -/
def rowC : List (Int × Int) → List (Int × Int) → Int
  | [], [] => 0
  | [], _ :: _ => -1
  | _ :: _, [] => 1
  | p :: ps, q :: qs => orI (entC p q) (rowC ps qs)
theorem rowC_at (zs zt : List (Int × Int)) (k : Nat) (h1 : k < zs.length) (h2 : k < zt.length) : rowC (zs.drop k) (zt.drop k) = orI (entC zs[k] zt[k]) (rowC (zs.drop (k + 1)) (zt.drop (k + 1))) := by
  rw [List.drop_eq_getElem_cons h1, List.drop_eq_getElem_cons h2]
  rfl
theorem rowC_long (zs zt : List (Int × Int)) (k : Nat) (h1 : k < zs.length) (h2 : zt.length ≤ k) : rowC (zs.drop k) (zt.drop k) = 1 := by
  rw [List.drop_eq_getElem_cons h1, List.drop_eq_nil_of_le h2]
  rfl
theorem rowC_short (zs zt : List (Int × Int)) (k : Nat) (h1 : zs.length ≤ k) (h2 : k < zt.length) : rowC (zs.drop k) (zt.drop k) = -1 := by
  rw [List.drop_eq_getElem_cons h2, List.drop_eq_nil_of_le h1]
  rfl
theorem rowC_end (zs zt : List (Int × Int)) (k : Nat) (h1 : zs.length ≤ k) (h2 : zt.length ≤ k) : rowC (zs.drop k) (zt.drop k) = 0 := by
  rw [List.drop_eq_nil_of_le h2, List.drop_eq_nil_of_le h1]
  rfl
def tokC (zs zt : List (Int × Int)) : Int := orI (cmpI zs.length zt.length) (rowC zs zt)
theorem two_new' (u : World) (x y : Value) (t : TypeId) : (u.alloc (Obj.cells #[x, y] t)).cell? ⟨u.heap.size, 0, none⟩ = some x ∧ (u.alloc (Obj.cells #[x, y] t)).cell? ⟨u.heap.size, 1, none⟩ = some y := two_new u x y t
set_option maxHeartbeats 1000000 in
theorem cmpF_c (a b : Option Addr) (c d : Nat) (zs zt : List (Int × Int)) (w : World) (h : Ivs w a zs) (h2 : Ivs w b zt) : Calls Tryz.prog 102 #[.slice a zs.length c, .slice b zt.length d, .func (.func 103) #[] #[]] w fun e w' => e = .returned (.int .i64 (rowC zs zt)) ∧ Below w.heap.size w w' := by
  have hl := h.1
  have hm := h2.1
  obtain ⟨r, hr⟩ : ∃ r, r = rowC zs zt := ⟨_, rfl⟩
  obtain ⟨L, hL⟩ : ∃ L, L = zs.length := ⟨_, rfl⟩
  obtain ⟨M, hM⟩ : ∃ M, M = zt.length := ⟨_, rfl⟩
  rw [← hr]
  rw [← hL] at hl ⊢
  rw [← hM] at hm ⊢
  have HR := hide hr
  have HL := hide hL
  have HM := hide hM
  have HH := hide h
  have HG := hide h2
  have hl' : (L : Int) ≤ 1048576 := by omega
  have hm' : (M : Int) ≤ 1048576 := by omega
  clear h h2 hL hM hr
  go_enter Tryz.func102, Tryz.ntmps102
  go_wp2
  go_loopw [13] (fun i wr => ∃ k : Nat, k ≤ L ∧ k ≤ M ∧ i = .int .i64 k ∧ rowC (zs.drop k) (zt.drop k) = r ∧ Below w.heap.size w wr) (fun i _ => L - (intOf i).toNat)
  case atStart => exact ⟨0, Nat.zero_le _, Nat.zero_le _, rfl, (unhide HR).symm, Below.refl _ _⟩
  case round =>
    obtain ⟨k, hk, hkm, rfl, hd, hb⟩ := hrel
    have HD := hide hd
    have HB := hide hb
    have HB1 : Hid (∀ o, Below w.heap.size w (wr.alloc o)) := fun o => hb.alloc hb.size o
    have HB2 : Hid (∀ o o2, Below w.heap.size w ((wr.alloc o).alloc o2)) := fun o o2 => (hb.alloc hb.size o).alloc (by have := hb.size; simp; omega) o2
    clear hd
    by_cases hlt : k < L
    · have hk' : k < zs.length := by rw [← unhide HL]; exact hlt
      obtain ⟨s, hs⟩ : ∃ s, s = zs[k].1 := ⟨_, rfl⟩
      obtain ⟨z, hz⟩ : ∃ z, z = zs[k].2 := ⟨_, rfl⟩
      rcases ((unhide HH).call hb).2 with h0 | ⟨cb, co, rfl, hc⟩
      · omega
      have c1 := (hc k hk').1
      have c2 := (hc k hk').2
      rw [← hs] at c1
      rw [← hz] at c2
      by_cases hlm : k < M
      · have hm2 : k < zt.length := by rw [← unhide HM]; exact hlm
        obtain ⟨t, ht⟩ : ∃ t, t = zt[k].1 := ⟨_, rfl⟩
        obtain ⟨y, hy⟩ : ∃ y, y = zt[k].2 := ⟨_, rfl⟩
        rcases ((unhide HG).call hb).2 with h0 | ⟨eb, eo, rfl, he⟩
        · omega
        have k1 := (he k hm2).1
        have k2 := (he k hm2).2
        rw [← ht] at k1
        rw [← hy] at k2
        have hlt2 : eb < wr.heap.size := World.block_lt_of_cell? wr _ k1
        have d1 : ∀ o, (wr.alloc o).cell? ⟨eb, eo + k * 2, none⟩ = some (.int .i64 t) := fun o => (((Below.refl _ _).alloc (Nat.le_refl _) o).cell (by exact hlt2)).trans k1
        have d2 : ∀ o, (wr.alloc o).cell? ⟨eb, eo + k * 2 + 1, none⟩ = some (.int .i64 y) := fun o => (((Below.refl _ _).alloc (Nat.le_refl _) o).cell (by exact hlt2)).trans k2
        obtain ⟨e0, he0⟩ : ∃ e0, e0 = orI (cmpI s t) (cmpI z y) := ⟨_, rfl⟩
        have E : Hid (r = orI e0 (rowC (zs.drop (k + 1)) (zt.drop (k + 1)))) := by
          unfold Hid; rw [← unhide HD, rowC_at zs zt k hk' hm2, he0, hs, hz, ht, hy]; rfl
        have HE := hide he0
        clear hs hz hc he ht hy k1 k2 hlt2 hb he0
        go_wp2_with fail
        refine (eord_c _ _ _ _ _).mono ?_
        rintro e w2 ⟨rfl, b2⟩
        rw [← unhide HE]
        have B2 := hide ((unhide HB2 _ _).trans (b2.mono ((unhide HB2 _ _).size)))
        clear b2 c1 c2 d1 d2 HE
        by_cases hz0 : e0 = 0
        · subst hz0
          have E1 : Hid (rowC (zs.drop (k + 1)) (zt.drop (k + 1)) = r) := by unfold Hid; rw [E.out]; rfl
          clear E HD
          go_wp2
          go_roundw
          case rel => exact ⟨k + 1, by omega, by omega, by go_num, unhide E1, unhide B2⟩
          case measure => simp [intOf]; omega
        · have h1 : (e0 != 0) = true := by simpa using hz0
          have E1 : Hid (r = e0) := by unfold Hid; rw [E.out]; exact if_neg hz0
          clear E
          go_wp2
          go_ret
          exact ⟨by rw [unhide E1]; rfl, unhide B2⟩
      · have E : Hid (r = 1) := by unfold Hid; rw [← unhide HD]; exact rowC_long zs zt k hk' (by rw [← unhide HM]; omega)
        clear hs hz hc hb
        go_wp2
        go_ret
        exact ⟨by rw [unhide E]; rfl, unhide HB1 _⟩
    · obtain rfl : k = L := by omega
      clear hb
      by_cases hlm : k < M
      · have E : Hid (r = -1) := by unfold Hid; rw [← unhide HD]; exact rowC_short zs zt k (by rw [← unhide HL]; omega) (by rw [← unhide HM]; omega)
        go_wp2
        go_ret
        exact ⟨by rw [unhide E]; rfl, unhide HB⟩
      · have E : Hid (r = 0) := by unfold Hid; rw [← unhide HD]; exact rowC_end zs zt k (by rw [← unhide HL]; omega) (by rw [← unhide HM]; omega)
        go_wp2
        go_ret
        exact ⟨by rw [unhide E]; rfl, unhide HB⟩
set_option maxHeartbeats 1000000 in
theorem tord_c (a b : Option Addr) (c d : Nat) (zs zt : List (Int × Int)) (w : World) (h : Ivs w a zs) (h2 : Ivs w b zt) : Calls Tryz.prog 83 #[.slice a zs.length c, .slice b zt.length d] w fun e w' => e = .returned (.int .i64 (tokC zs zt)) ∧ Below w.heap.size w w' := by
  go_enter Tryz.func83, Tryz.ntmps83
  go_wp2_with fail
  refine (cmpI_c _ _ _).mono ?_
  rintro e w1 ⟨rfl, rfl⟩
  go_wp2_with fail
  refine (cmpF_c _ _ _ _ _ _ _ h h2).mono ?_
  rintro e w2 ⟨rfl, b2⟩
  have HB1 : Hid (∀ o, Below w1.heap.size w1 (w2.alloc o)) := fun o => b2.alloc b2.size o
  clear h h2 b2
  go_wp2_with fail
  refine (or_c _ _ (cmpI zs.length zt.length) (rowC zs zt) _ (two_new' _ _ _ _).1 (two_new' _ _ _ _).2).mono ?_
  rintro e w3 ⟨rfl, rfl⟩
  go_wp2
  go_ret
  exact ⟨rfl, unhide HB1 _⟩
end Go.Proofs.YthldhjifnpfmiaaGreatDoor

/- The order of tokens, as the specification tells it; which token is less. -/
namespace Go.Proofs.YthldhjifnpfmiaaGreatDoor
open Go.RowKit
set_option linter.unusedSimpArgs false

theorem below_drewN {B : Nat} {a w : World} (h : Below B a w) (n : Nat) : Below B a (w.drewN n) := ⟨h.os, h.tape, h.output, h.size, h.block⟩
theorem entB_in (p : Int × Int) (h : entB p = true) : (0 ≤ p.1 ∧ p.1 ≤ 29) ∧ (0 ≤ p.2 ∧ p.2 ≤ 4) := by
  unfold entB inB at h
  simpa using h
theorem tokB_in (xs : List (Int × Int)) (h : tokB xs = true) (k : Nat) (hk : k < xs.length) : (0 ≤ xs[k].1 ∧ xs[k].1 ≤ 29) ∧ (0 ≤ xs[k].2 ∧ xs[k].2 ≤ 4) := by
  unfold tokB at h
  rw [Bool.and_eq_true, List.all_eq_true] at h
  exact entB_in _ (h.2 _ (List.getElem_mem hk))
theorem entC_lt (s z t y : Int) (h1 : 0 ≤ z ∧ z ≤ 4) (h2 : 0 ≤ y ∧ y ≤ 4) (h : 10 * s + z < 10 * t + y) : orI (cmpI s t) (cmpI z y) = -1 := by
  unfold orI cmpI
  by_cases e : s < t
  · simp [e]
  · obtain rfl : s = t := by omega
    have : z < y := by omega
    simp [this]
theorem entC_gt (s z t y : Int) (h1 : 0 ≤ z ∧ z ≤ 4) (h2 : 0 ≤ y ∧ y ≤ 4) (h : 10 * t + y < 10 * s + z) : orI (cmpI s t) (cmpI z y) = 1 := by
  unfold orI cmpI
  by_cases e : t < s
  · have : ¬ s < t := by omega
    simp [e, this]
  · obtain rfl : s = t := by omega
    have h3 : y < z := by omega
    have h4 : ¬ z < y := by omega
    simp [h3, h4]
theorem entC_eq (s z t y : Int) (h1 : 0 ≤ z ∧ z ≤ 4) (h2 : 0 ≤ y ∧ y ≤ 4) (h : 10 * t + y = 10 * s + z) : orI (cmpI s t) (cmpI z y) = 0 := by
  obtain rfl : s = t := by omega
  obtain rfl : y = z := by omega
  simp [orI, cmpI]
set_option maxHeartbeats 1000000 in
theorem l9Cmp_c (a b : Option Addr) (c d : Nat) (zs zt : List (Int × Int)) (w : World) (h : Ivs w a zs) (h2 : Ivs w b zt) (ta : tokB zs = true) (tb : tokB zt = true) : Calls Tryz.prog 52 #[.slice a zs.length c, .slice b zt.length d] w fun e w' => e = .returned (.int .i64 (tokC zs zt)) ∧ Below w.heap.size w w' := by
  have hl := h.1
  have hm := h2.1
  obtain ⟨r, hr⟩ : ∃ r, r = tokC zs zt := ⟨_, rfl⟩
  obtain ⟨L, hL⟩ : ∃ L, L = zs.length := ⟨_, rfl⟩
  obtain ⟨M, hM⟩ : ∃ M, M = zt.length := ⟨_, rfl⟩
  rw [← hr]
  rw [← hL] at hl ⊢
  rw [← hM] at hm ⊢
  have HR : Hid (r = orI (cmpI L M) (rowC zs zt)) := by unfold Hid; rw [hr, hL, hM]; rfl
  have HL := hide hL
  have HM := hide hM
  have HH := hide h
  have HG := hide h2
  have hl' : (L : Int) ≤ 1048576 := by omega
  have hm' : (M : Int) ≤ 1048576 := by omega
  have TA := hide (tokB_in zs ta)
  have TB := hide (tokB_in zt tb)
  clear h h2 hL hM hr ta tb
  rcases cmpI_cases L M with ⟨hc, e⟩ | ⟨hc, e⟩ | ⟨hc, e⟩
  · have E : Hid (r = -1) := by unfold Hid; rw [HR.out, e]; rfl
    have g : ((L : Int) != (M : Int)) = true := by simp; omega
    clear e HR
    go_enter Tryz.func52, Tryz.ntmps52
    go_wp2
    go_ret
    exact ⟨by rw [unhide E]; rfl, Below.refl _ _⟩
  · have E : Hid (r = 1) := by unfold Hid; rw [HR.out, e]; rfl
    have g : ((L : Int) != (M : Int)) = true := by simp; omega
    have g2 : ¬ (L : Int) < M := by omega
    clear e HR
    go_enter Tryz.func52, Tryz.ntmps52
    go_wp2
    go_ret
    exact ⟨by rw [unhide E]; rfl, Below.refl _ _⟩
  · obtain rfl : L = M := by omega
    have E : Hid (r = rowC zs zt) := by unfold Hid; rw [HR.out, e]; rfl
    clear e HR hc
    go_enter Tryz.func52, Tryz.ntmps52
    go_wp2
    go_loopw [5] (fun i wr => ∃ k : Nat, k ≤ L ∧ i = .int .i64 k ∧ rowC (zs.drop k) (zt.drop k) = r ∧ Below w.heap.size w wr) (fun i _ => L - (intOf i).toNat)
    case atStart => exact ⟨0, Nat.zero_le _, rfl, (unhide E).symm, Below.refl _ _⟩
    case round =>
      clear E
      obtain ⟨k, hk, rfl, hd, hb⟩ := hrel
      have HD := hide hd
      have HB := hide hb
      clear hd
      by_cases hlt : k < L
      · have hk' : k < zs.length := by rw [← unhide HL]; exact hlt
        have hm2 : k < zt.length := by rw [← unhide HM]; exact hlt
        obtain ⟨s, hs⟩ : ∃ s, s = zs[k].1 := ⟨_, rfl⟩
        obtain ⟨z, hz⟩ : ∃ z, z = zs[k].2 := ⟨_, rfl⟩
        obtain ⟨t, ht⟩ : ∃ t, t = zt[k].1 := ⟨_, rfl⟩
        obtain ⟨y, hy⟩ : ∃ y, y = zt[k].2 := ⟨_, rfl⟩
        rcases ((unhide HH).call hb).2 with h0 | ⟨cb, co, rfl, hc⟩
        · omega
        rcases ((unhide HG).call hb).2 with h0 | ⟨eb, eo, rfl, he⟩
        · omega
        have c1 := (hc k hk').1
        have c2 := (hc k hk').2
        have k1 := (he k hm2).1
        have k2 := (he k hm2).2
        rw [← hs] at c1
        rw [← hz] at c2
        rw [← ht] at k1
        rw [← hy] at k2
        have b1 := unhide TA k hk'
        have b2 := unhide TB k hm2
        rw [← hs, ← hz] at b1
        rw [← ht, ← hy] at b2
        have R1 := hide (rowC_at zs zt k hk' hm2)
        have R2 : Hid (entC zs[k] zt[k] = orI (cmpI s t) (cmpI z y)) := by unfold Hid; rw [hs, hz, ht, hy]; rfl
        obtain ⟨x, hx⟩ : ∃ x, x = 10 * s + z := ⟨_, rfl⟩
        obtain ⟨x2, hx2⟩ : ∃ x, x = 10 * t + y := ⟨_, rfl⟩
        have q1 : IntKind.i64.wrap (10 * s) = 10 * s := by rw [IntKind.wrap_i64]; omega
        have q2 : IntKind.i64.wrap (10 * t) = 10 * t := by rw [IntKind.wrap_i64]; omega
        have q3 : IntKind.i64.wrap (10 * s + z) = x := by rw [IntKind.wrap_i64]; omega
        have q4 : IntKind.i64.wrap (10 * t + y) = x2 := by rw [IntKind.wrap_i64]; omega
        have p1 : wrap64 (10 * s) = 10 * s := by unfold wrap64; omega
        have p2 : wrap64 (10 * t) = 10 * t := by unfold wrap64; omega
        have p3 : wrap64 (10 * s + z) = x := by unfold wrap64; omega
        have p4 : wrap64 (10 * t + y) = x2 := by unfold wrap64; omega
        have F1 : Hid (x < x2 → orI (cmpI s t) (cmpI z y) = -1) := fun g => entC_lt s z t y b1.2 b2.2 (by omega)
        have F2 : Hid (x2 < x → orI (cmpI s t) (cmpI z y) = 1) := fun g => entC_gt s z t y b1.2 b2.2 (by omega)
        have F3 : Hid (x2 = x → orI (cmpI s t) (cmpI z y) = 0) := fun g => entC_eq s z t y b1.2 b2.2 (by omega)
        have HB1 : Hid (∀ n, Below w.heap.size w (wr.drewN n)) := fun n => below_drewN hb n
        clear hs hz ht hy hc he b1 b2 hx hx2 hb TA TB
        go_wp2
        go_quiet (fail)
        go_wp2
        go_quiet (fail)
        clear q1 q2 q3 q4 p1 p2 p3 p4
        by_cases g1 : x < x2
        · have E : Hid (r = -1) := by unfold Hid; rw [← unhide HD, unhide R1, unhide R2, unhide F1 g1]; rfl
          go_wp2
          go_ret
          exact ⟨by rw [unhide E]; rfl, unhide HB1 _⟩
        · by_cases g2 : x2 < x
          · have E : Hid (r = 1) := by unfold Hid; rw [← unhide HD, unhide R1, unhide R2, unhide F2 g2]; rfl
            go_wp2
            go_ret
            exact ⟨by rw [unhide E]; rfl, unhide HB1 _⟩
          · have E : Hid (rowC (zs.drop (k + 1)) (zt.drop (k + 1)) = r) := by unfold Hid; rw [← unhide HD, unhide R1, unhide R2, unhide F3 (by omega)]; rfl
            go_wp2
            go_roundw
            case rel => exact ⟨k + 1, by omega, by go_num, unhide E, unhide HB1 _⟩
            case measure => simp [intOf]; omega
      · obtain rfl : k = L := by omega
        have E : Hid (r = 0) := by unfold Hid; rw [← unhide HD]; exact rowC_end zs zt k (by rw [← unhide HL]; omega) (by rw [← unhide HM]; omega)
        clear hb
        go_wp2
        go_ret
        exact ⟨by rw [unhide E]; rfl, unhide HB⟩
def lessB (zs zt : List (Int × Int)) : Bool := tokB zs && (tokB zt && decide (tokC zs zt < 0))
set_option maxHeartbeats 1000000 in
theorem TokenLess_c (a b : Option Addr) (c d : Nat) (zs zt : List (Int × Int)) (w : World) (h : Ivs w a zs) (h2 : Ivs w b zt) : Calls Tryz.prog 63 #[.slice a zs.length c, .slice b zt.length d] w fun e w' => e = .returned (.bool (lessB zs zt)) ∧ Below w.heap.size w w' := by
  obtain ⟨r, hr⟩ : ∃ r, r = lessB zs zt := ⟨_, rfl⟩
  rw [← hr]
  unfold lessB at hr
  have HH := hide h
  have HG := hide h2
  clear h h2
  by_cases t1 : tokB zs = true
  · by_cases t2 : tokB zt = true
    · rw [t1, t2, Bool.true_and, Bool.true_and] at hr
      have HR := hide hr
      clear hr
      go_enter Tryz.func63, Tryz.ntmps63
      go_wp2_with fail
      refine (TokenOk_c _ _ _ _ (unhide HH)).mono ?_
      rintro e w1 ⟨rfl, b1⟩
      rw [t1]
      have B1 := hide b1
      clear b1
      go_wp2_with fail
      refine (TokenOk_c _ _ _ _ ((unhide HG).call (unhide B1))).mono ?_
      rintro e w2 ⟨rfl, b2⟩
      rw [t2]
      have B2 := hide ((unhide B1).trans (b2.mono (unhide B1).size))
      clear b2
      go_wp2_with fail
      refine (tord_c _ _ _ _ _ _ _ ((unhide HH).call (unhide B2)) ((unhide HG).call (unhide B2))).mono ?_
      rintro e w3 ⟨rfl, b3⟩
      have B3 := hide ((unhide B2).trans (b3.mono (unhide B2).size))
      clear b3
      go_wp2
      go_ret
      exact ⟨by rw [unhide HR]; rfl, unhide B3⟩
    · have t2' : tokB zt = false := by simpa using t2
      rw [t1, t2', Bool.true_and, Bool.false_and] at hr
      have HR := hide hr
      clear hr
      go_enter Tryz.func63, Tryz.ntmps63
      go_wp2_with fail
      refine (TokenOk_c _ _ _ _ (unhide HH)).mono ?_
      rintro e w1 ⟨rfl, b1⟩
      rw [t1]
      have B1 := hide b1
      clear b1
      go_wp2_with fail
      refine (TokenOk_c _ _ _ _ ((unhide HG).call (unhide B1))).mono ?_
      rintro e w2 ⟨rfl, b2⟩
      rw [t2']
      have B2 := hide ((unhide B1).trans (b2.mono (unhide B1).size))
      clear b2
      go_wp2
      go_ret
      exact ⟨by rw [unhide HR]; rfl, unhide B2⟩
  · have t1' : tokB zs = false := by simpa using t1
    rw [t1', Bool.false_and] at hr
    have HR := hide hr
    clear hr
    go_enter Tryz.func63, Tryz.ntmps63
    go_wp2_with fail
    refine (TokenOk_c _ _ _ _ (unhide HH)).mono ?_
    rintro e w1 ⟨rfl, b1⟩
    rw [t1']
    have B1 := hide b1
    clear b1
    go_wp2
    go_ret
    exact ⟨by rw [unhide HR]; rfl, unhide B1⟩
end Go.Proofs.YthldhjifnpfmiaaGreatDoor

