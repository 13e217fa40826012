/- Tokens: what both TokenOk answer. -/
import Derived.Test.YtppchebikafmeaaDoorEntC
namespace Go.Proofs.YtppchebikafmeaaDoor
open Go.RowKit
set_option linter.unusedSimpArgs false

/-- An entry whose line and pick are as they must be; a token. -/
def entB (p : Int × Int) : Bool := inB p.1 0 29 && inB p.2 0 4
def tokB (xs : List (Int × Int)) : Bool := decide (xs.length ≤ 3) && xs.all entB
theorem tokB_bad (xs : List (Int × Int)) (k : Nat) (hk : k < xs.length) (h : entB xs[k] = false) : tokB xs = false := by
  unfold tokB
  have : xs.all entB = false := by
    rw [List.all_eq_false]
    exact ⟨xs[k], List.getElem_mem hk, by simp [h]⟩
  rw [this, Bool.and_false]
theorem tokB_long (xs : List (Int × Int)) (h : ¬ xs.length ≤ 3) : tokB xs = false := by unfold tokB; simp [h]
theorem tokB_all (xs : List (Int × Int)) (h : ∀ j, (hj : j < xs.length) → j < xs.length → entB xs[j] = true) : tokB xs = decide (xs.length ≤ 3) := by
  unfold tokB
  have : xs.all entB = true := by
    rw [List.all_eq_true]
    intro x hx
    obtain ⟨i, hi, rfl⟩ := List.getElem_of_mem hx
    exact h i hi hi
  rw [this, Bool.and_true]
theorem isBelow_c (n m : Int) (w : World) : Calls Tryd.prog 34 #[.int .i64 n, .int .i64 m] w fun e w' => e = .returned (.bool (inB n 0 (m - 1))) ∧ w' = w := by
  by_cases h : 0 ≤ n
  · have H : Hid (inB n 0 (m - 1) = decide (n < m)) := decide_eq_decide.2 ⟨fun k => by omega, fun k => by omega⟩
    go_enter Tryd.func34, Tryd.ntmps34
    go_wp2
    go_ret
    exact ⟨by rw [H.out]; rfl, rfl⟩
  · have H : Hid (inB n 0 (m - 1) = false) := decide_eq_false (fun k => h k.1)
    go_enter Tryd.func34, Tryd.ntmps34
    go_wp2
    go_ret
    exact ⟨by rw [H.out]; rfl, rfl⟩
set_option maxHeartbeats 400000 in
theorem sTokenOk_c (a : Option Addr) (cap : Nat) (zs : List (Int × Int)) (w : World) (h : Ivs w a zs) : Calls Tryd.prog 14 #[.slice a zs.length cap] w fun e w' => e = .returned (.bool (tokB zs)) ∧ w' = w := by
  have hl := h.1
  obtain ⟨r, hr⟩ : ∃ r, r = tokB zs := ⟨_, rfl⟩
  obtain ⟨L, hL⟩ : ∃ L, L = zs.length := ⟨_, rfl⟩
  rw [← hr]
  rw [← hL] at hl ⊢
  have HR := hide hr
  have HL := hide hL
  have HH := hide h
  have hl' : (L : Int) ≤ 1048576 := by omega
  clear h hL hr
  by_cases h3 : (L : Int) ≤ 3
  · go_enter Tryd.func14, Tryd.ntmps14
    go_wp2
    go_loopw [3] (fun i wr => ∃ k : Nat, k ≤ L ∧ i = .int .i64 k ∧ (∀ j, (hj : j < zs.length) → j < k → entB zs[j] = true) ∧ wr = w) (fun i _ => L - (intOf i).toNat)
    case atStart => exact ⟨0, Nat.zero_le _, rfl, fun j _ h0 => by omega, rfl⟩
    case round =>
      obtain ⟨k, hk, rfl, ha, rfl⟩ := hrel
      have HA := hide ha
      clear ha
      by_cases hlt : k < L
      · have hk' : k < zs.length := by rw [← unhide HL]; exact hlt
        obtain ⟨s, hs⟩ : ∃ s, s = zs[k].1 := ⟨_, rfl⟩
        obtain ⟨z, hz⟩ : ∃ z, z = zs[k].2 := ⟨_, rfl⟩
        rcases (unhide HH).2 with h0 | ⟨cb, co, rfl, hc⟩
        · omega
        have c1 := (hc k hk').1
        have c2 := (hc k hk').2
        rw [← hs] at c1
        rw [← hz] at c2
        have E : Hid (entB zs[k] = (inB s 0 29 && inB z 0 4)) := by unfold Hid; rw [hs, hz]; rfl
        clear hs hz hc
        by_cases g1 : inB s 0 29 = true
        · by_cases g2 : inB z 0 4 = true
          · have HG : Hid (entB zs[k] = true) := by unfold Hid; rw [E.out, g1, g2]; rfl
            go_wp2_with fail
            refine (l1In_c _ _ _ _).mono ?_
            rintro e w2 ⟨rfl, rfl⟩
            rw [g1]
            go_wp2_with fail
            refine (l1In_c _ _ _ _).mono ?_
            rintro e w2 ⟨rfl, rfl⟩
            rw [g2]
            go_wp2
            go_roundw
            case rel => exact ⟨k + 1, by omega, by go_num, fun j hj h1 => by
              by_cases e : j = k
              · subst e; exact unhide HG
              · exact unhide HA j hj (by omega), trivial⟩
            case measure => simp [intOf]; omega
          · have g2' : inB z 0 4 = false := by simpa using g2
            have HG : Hid (entB zs[k] = false) := by unfold Hid; rw [E.out, g2', Bool.and_false]
            go_wp2_with fail
            refine (l1In_c _ _ _ _).mono ?_
            rintro e w2 ⟨rfl, rfl⟩
            rw [g1]
            go_wp2_with fail
            refine (l1In_c _ _ _ _).mono ?_
            rintro e w2 ⟨rfl, rfl⟩
            rw [g2']
            go_wp2
            go_ret
            exact ⟨by rw [unhide HR, tokB_bad zs k hk' (unhide HG)]; rfl, rfl⟩
        · have g1' : inB s 0 29 = false := by simpa using g1
          have HG : Hid (entB zs[k] = false) := by unfold Hid; rw [E.out, g1', Bool.false_and]
          go_wp2_with fail
          refine (l1In_c _ _ _ _).mono ?_
          rintro e w2 ⟨rfl, rfl⟩
          rw [g1']
          go_wp2
          go_ret
          exact ⟨by rw [unhide HR, tokB_bad zs k hk' (unhide HG)]; rfl, rfl⟩
      · obtain rfl : k = L := by omega
        go_wp2
        go_ret
        refine ⟨?_, rfl⟩
        rw [unhide HR, tokB_all zs (fun j hj _ => unhide HA j hj (by rw [unhide HL]; exact hj))]
        have h4 : zs.length ≤ 3 := by rw [← unhide HL]; omega
        simp [h4]
  · go_enter Tryd.func14, Tryd.ntmps14
    go_wp2
    go_ret
    exact ⟨by rw [unhide HR, tokB_long zs (by rw [← unhide HL]; omega)]; rfl, rfl⟩
set_option maxHeartbeats 400000 in
theorem TokenOk_c (a : Option Addr) (cap : Nat) (zs : List (Int × Int)) (w : World) (h : Ivs w a zs) : Calls Tryd.prog 15 #[.slice a zs.length cap] w fun e w' => e = .returned (.bool (tokB zs)) ∧ Below w.heap.size w w' := by
  have hl := h.1
  obtain ⟨r, hr⟩ : ∃ r, r = tokB zs := ⟨_, rfl⟩
  obtain ⟨L, hL⟩ : ∃ L, L = zs.length := ⟨_, rfl⟩
  rw [← hr]
  rw [← hL] at hl ⊢
  have HR := hide hr
  have HL := hide hL
  have HH := hide h
  have hl' : (L : Int) ≤ 1048576 := by omega
  clear h hL hr
  go_enter Tryd.func15, Tryd.ntmps15
  go_wp2
  go_loopw [7] (fun i wr => ∃ k : Nat, k ≤ L ∧ i = .int .i64 k ∧ (∀ j, (hj : j < zs.length) → j < k → entB zs[j] = true) ∧ Below w.heap.size w wr) (fun i _ => L - (intOf i).toNat)
  case atStart => exact ⟨0, Nat.zero_le _, rfl, fun j _ h0 => by omega, Below.refl _ _⟩
  case round =>
    obtain ⟨k, hk, rfl, ha, hb⟩ := hrel
    have HA := hide ha
    have HB := hide hb
    clear ha
    by_cases hlt : k < L
    · have hk' : k < zs.length := by rw [← unhide HL]; exact hlt
      obtain ⟨s, hs⟩ : ∃ s, s = zs[k].1 := ⟨_, rfl⟩
      obtain ⟨z, hz⟩ : ∃ z, z = zs[k].2 := ⟨_, rfl⟩
      rcases ((unhide HH).call hb).2 with h0 | ⟨cb, co, rfl, hc⟩
      · omega
      have c1 := (hc k hk').1
      have c2 := (hc k hk').2
      rw [← hs] at c1
      rw [← hz] at c2
      have E : Hid (entB zs[k] = (inB s 0 29 && inB z 0 4)) := by unfold Hid; rw [hs, hz]; rfl
      have HB1 : Hid (∀ o, Below w.heap.size w (wr.alloc o)) := fun o => hb.alloc hb.size o
      clear hs hz hc hb
      by_cases g1 : inB s 0 (30 - 1) = true
      · by_cases g2 : inB z 0 (5 - 1) = true
        · have HG : Hid (entB zs[k] = true) := by unfold Hid; rw [E.out, show inB s 0 29 = true from g1, show inB z 0 4 = true from g2]; rfl
          go_wp2_with fail
          refine (isBelow_c _ _ _).mono ?_
          rintro e w2 ⟨rfl, rfl⟩
          rw [g1]
          go_wp2_with fail
          refine (isBelow_c _ _ _).mono ?_
          rintro e w2 ⟨rfl, rfl⟩
          rw [g2]
          go_wp2
          go_roundw
          case rel => exact ⟨k + 1, by omega, by go_num, fun j hj h1 => by
            by_cases e : j = k
            · subst e; exact unhide HG
            · exact unhide HA j hj (by omega), unhide HB1 _⟩
          case measure => simp [intOf]; omega
        · have g2' : inB z 0 (5 - 1) = false := by simpa using g2
          have HG : Hid (entB zs[k] = false) := by unfold Hid; rw [E.out, show inB z 0 4 = false from g2', Bool.and_false]
          go_wp2_with fail
          refine (isBelow_c _ _ _).mono ?_
          rintro e w2 ⟨rfl, rfl⟩
          rw [g1]
          go_wp2_with fail
          refine (isBelow_c _ _ _).mono ?_
          rintro e w2 ⟨rfl, rfl⟩
          rw [g2']
          go_wp2
          go_ret
          exact ⟨by rw [unhide HR, tokB_bad zs k hk' (unhide HG)]; rfl, unhide HB1 _⟩
      · have g1' : inB s 0 (30 - 1) = false := by simpa using g1
        have HG : Hid (entB zs[k] = false) := by unfold Hid; rw [E.out, show inB s 0 29 = false from g1', Bool.false_and]
        go_wp2_with fail
        refine (isBelow_c _ _ _).mono ?_
        rintro e w2 ⟨rfl, rfl⟩
        rw [g1']
        go_wp2
        go_ret
        exact ⟨by rw [unhide HR, tokB_bad zs k hk' (unhide HG)]; rfl, unhide HB1 _⟩
    · obtain rfl : k = L := by omega
      clear hb
      have e := tokB_all zs (fun j hj _ => unhide HA j hj (by rw [unhide HL]; exact hj))
      rw [← unhide HR, ← unhide HL] at e
      have E := hide e
      clear e
      go_wp2
      go_ret
      refine ⟨?_, unhide HB⟩
      rw [unhide E]
      show Ending.returned (.bool (decide ((k : Int) ≤ 3))) = _
      rw [show decide ((k : Int) ≤ 3) = decide (k ≤ 3) from decide_eq_decide.2 (by omega)]
end Go.Proofs.YtppchebikafmeaaDoor
