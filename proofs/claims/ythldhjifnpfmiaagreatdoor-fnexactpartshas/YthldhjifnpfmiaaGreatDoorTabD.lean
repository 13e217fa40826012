/- Tables: their sizes, how they are compared; whether one is right. -/
import Derived.Test.YthldhjifnpfmiaaGreatDoorTabC
namespace Go.Proofs.YthldhjifnpfmiaaGreatDoor
open Go.RowKit
set_option linter.unusedSimpArgs false

def szEL : List ER → Int → Int
  | [], l => l
  | e :: es, l => if szE e.2.1.length e.2.2.length l < 0 then -1 else szEL es (szE e.2.1.length e.2.2.length l)
theorem szEL_drop (es : List ER) (k : Nat) (h : k < es.length) (l : Int) : szEL (es.drop k) l = if szE es[k].2.1.length es[k].2.2.length l < 0 then -1 else szEL (es.drop (k + 1)) (szE es[k].2.1.length es[k].2.2.length l) := by
  rw [List.drop_eq_getElem_cons h]; rfl
def szES (es : List ER) (l : Int) : Int := if l - es.length < 0 then -1 else szEL es (l - es.length)
theorem szEL_le : ∀ (es : List ER) (l : Int), 0 ≤ l → szEL es l ≤ l ∧ -1 ≤ szEL es l ∧ (0 ≤ szEL es l → ∀ i, (h : i < es.length) → (es[i].2.1.length : Int) ≤ l ∧ (es[i].2.2.length : Int) ≤ l)
  | [], l, h => ⟨Int.le_refl _, by show -1 ≤ l; omega, fun _ i hi => by cases hi⟩
  | e :: es, l, h => by
    have q := szE_le e.2.1.length e.2.2.length l h
    by_cases g : szE e.2.1.length e.2.2.length l < 0
    · have E : szEL (e :: es) l = -1 := if_pos g
      rw [E]
      exact ⟨by omega, by omega, fun k => by omega⟩
    · have E : szEL (e :: es) l = szEL es (szE e.2.1.length e.2.2.length l) := if_neg g
      rw [E]
      have r := szEL_le es _ (show 0 ≤ szE e.2.1.length e.2.2.length l by omega)
      refine ⟨by omega, r.2.1, fun k i hi => ?_⟩
      cases i with
      | zero => exact q.2.2 (by omega)
      | succ i =>
        have := r.2.2 k i (by simpa using hi)
        rw [List.getElem_cons_succ]
        omega
theorem szES_le (es : List ER) (l : Int) (h : 0 ≤ l) : szES es l ≤ l ∧ -1 ≤ szES es l ∧ (0 ≤ szES es l → (es.length : Int) ≤ l ∧ ∀ i, (h : i < es.length) → (es[i].2.1.length : Int) ≤ l ∧ (es[i].2.2.length : Int) ≤ l) := by
  unfold szES
  by_cases g : l - es.length < 0
  · rw [if_pos g]
    exact ⟨by omega, by omega, fun k => by omega⟩
  · rw [if_neg g]
    have r := szEL_le es (l - es.length) (by omega)
    refine ⟨by omega, r.2.1, fun k => ⟨by omega, fun i hi => ?_⟩⟩
    have := r.2.2 k i hi
    omega
/-- Rows of bounds of any length that a machine has. -/
def EnvsA (w : World) (a : Option Addr) (es : List ER) : Prop :=
  es.length ≤ 9223372036854775807 ∧ (es.length = 0 ∨ ∃ cb co, a = some ⟨cb, co, none⟩ ∧ ∀ i, (h : i < es.length) → ∃ xa xc ya yc, w.cell? ⟨cb, co + i * 3, none⟩ = some (.bool es[i].1) ∧ w.cell? ⟨cb, co + i * 3 + 1, none⟩ = some (.slice xa es[i].2.1.length xc) ∧ w.cell? ⟨cb, co + i * 3 + 2, none⟩ = some (.slice ya es[i].2.2.length yc) ∧ IvsA w xa es[i].2.1 ∧ IvsA w ya es[i].2.2)
theorem EnvsA.call {w w1 : World} {a : Option Addr} {es : List ER} (h : EnvsA w a es) (hb : Below w.heap.size w w1) : EnvsA w1 a es := by
  refine ⟨h.1, ?_⟩
  rcases h.2 with h0 | ⟨cb, co, rfl, hc⟩
  · exact .inl h0
  · refine .inr ⟨cb, co, rfl, fun i hi => ?_⟩
    obtain ⟨xa, xc, ya, yc, h1, h2, h3, h4, h5⟩ := hc i hi
    exact ⟨xa, xc, ya, yc, (hb.cell (World.block_lt_of_cell? w _ h1)).trans h1, (hb.cell (World.block_lt_of_cell? w _ h2)).trans h2, (hb.cell (World.block_lt_of_cell? w _ h3)).trans h3, h4.call hb, h5.call hb⟩
theorem Envs.ofA {w : World} {a : Option Addr} {es : List ER} (h : EnvsA w a es) (hl : (es.length : Int) ≤ 1048576) (hs : ∀ i, (h : i < es.length) → (es[i].2.1.length : Int) ≤ 1048576 ∧ (es[i].2.2.length : Int) ≤ 1048576) : Envs w a es := by
  refine ⟨by omega, ?_⟩
  rcases h.2 with h0 | ⟨cb, co, rfl, hc⟩
  · exact .inl h0
  · refine .inr ⟨cb, co, rfl, fun i hi => ?_⟩
    obtain ⟨xa, xc, ya, yc, h1, h2, h3, h4, h5⟩ := hc i hi
    exact ⟨xa, xc, ya, yc, h1, h2, h3, Ivs.ofA h4 (hs i hi).1, Ivs.ofA h5 (hs i hi).2⟩
set_option maxHeartbeats 1000000 in
theorem szEnvS_c (a : Option Addr) (cap : Nat) (es : List ER) (left : Int) (h0 : 0 ≤ left) (h1 : left ≤ 1048576) (w : World) (h : EnvsA w a es) : Calls Tryz.prog 50 #[.slice a es.length cap, .int .i64 left] w fun e w' => e = .returned (.int .i64 (szES es left)) ∧ Below w.heap.size w w' := by
  have hl := h.1
  obtain ⟨L, hL⟩ : ∃ L, L = es.length := ⟨_, rfl⟩
  have HZ := hide (show szES es left = if left - L < 0 then -1 else szEL es (left - L) by rw [hL]; unfold szES; rfl)
  rw [← hL] at hl ⊢
  have HL := hide hL
  have HH := hide h
  have hl' : (L : Int) ≤ 9223372036854775807 := by omega
  clear h hL
  by_cases hn : left - L < 0
  · rw [unhide HZ, if_pos hn]
    go_enter Tryz.func50, Tryz.ntmps50
    go_wp2
    go_ret
    exact ⟨rfl, Below.refl _ _⟩
  · rw [unhide HZ, if_neg hn]
    clear HZ
    obtain ⟨R, hR⟩ : ∃ R, R = szEL es (left - L) := ⟨_, rfl⟩
    rw [← hR]
    have HR := hide hR
    clear hR
    go_enter Tryz.func50, Tryz.ntmps50
    go_wp2
    go_loopw [1, 5] (fun l i wr => ∃ (k : Nat) (m : Int), k ≤ L ∧ 0 ≤ m ∧ m ≤ 1048576 ∧ i = .int .i64 k ∧ l = .int .i64 m ∧ szEL (es.drop k) m = R ∧ Below w.heap.size w wr) (fun _ i _ => L - (intOf i).toNat)
    case atStart => exact ⟨0, left - L, Nat.zero_le _, by omega, by omega, rfl, rfl, by rw [List.drop_zero, unhide HR], Below.refl _ _⟩
    case round =>
      obtain ⟨k, m, hk, m0, m1, rfl, rfl, he, hb⟩ := hrel
      have HE := hide he
      have HB := hide hb
      clear he
      by_cases hlt : k < L
      · have hk' : k < es.length := by rw [← unhide HL]; exact hlt
        rcases ((unhide HH).call hb).2 with h0 | ⟨cb, co, rfl, hc⟩
        · omega
        obtain ⟨xa, xc, ya, yc, d1, d2, d3, i1, i2⟩ := hc k hk'
        have s1 := i1.1
        have s2 := i2.1
        have HD := hide (szEL_drop es k hk' m)
        have HW := hide (szE_le es[k].2.1.length es[k].2.2.length m m0)
        clear hc hb i1 i2
        generalize es[k].1 = li at d1
        generalize es[k].2.1.length = x at d2 s1 HD HW
        generalize es[k].2.2.length = y at d3 s2 HD HW
        go_wp2_with fail
        refine (szEnv_c li xa ya xc yc x y m m0 m1 _ s1 s2).mono ?_
        rintro e w2 ⟨rfl, b2⟩
        have B2 := hide ((unhide HB).trans (b2.mono (unhide HB).size))
        clear b2 d1 d2 d3
        have q1 := (unhide HW).1
        have q2 := (unhide HW).2.1
        generalize szE x y m = z at HD q1 q2
        by_cases hm : z < 0
        · have HX := hide (show R = -1 by rw [← unhide HE, unhide HD, if_pos hm])
          go_wp2
          go_ret
          exact ⟨by rw [unhide HX]; rfl, unhide B2⟩
        · have HX := hide (show szEL (es.drop (k + 1)) z = R by rw [← unhide HE, unhide HD, if_neg hm])
          go_wp2
          go_roundw
          case rel => exact ⟨k + 1, z, by omega, by omega, by omega, by go_num, rfl, unhide HX, unhide B2⟩
          case measure => simp [intOf]; omega
      · have HX := hide (show R = m by rw [← unhide HE, List.drop_of_length_le (by have := unhide HL; omega)]; rfl)
        clear hb
        go_wp2
        go_ret
        exact ⟨by rw [unhide HX]; rfl, unhide HB⟩
@[reducible] def H6' (w0 : World) (a b : Nat) (o p : Nat) (x y z p1 q r : Value) (w : World) : Prop := w.cell? ⟨a, o, none⟩ = some x ∧ w.cell? ⟨a, o + 1, none⟩ = some y ∧ w.cell? ⟨a, o + 2, none⟩ = some z ∧ w.cell? ⟨b, p, none⟩ = some p1 ∧ w.cell? ⟨b, p + 1, none⟩ = some q ∧ w.cell? ⟨b, p + 2, none⟩ = some r ∧ Below w0.heap.size w0 w
theorem H6'.drew {w0 w : World} {a b o p : Nat} {x y z p1 q r : Value} (h : H6' w0 a b o p x y z p1 q r w) : H6' w0 a b o p x y z p1 q r w.drew := ⟨h.1, h.2.1, h.2.2.1, h.2.2.2.1, h.2.2.2.2.1, h.2.2.2.2.2.1, h.2.2.2.2.2.2.drew⟩
theorem H6'.call {w0 w w1 : World} {a b o p : Nat} {x y z p1 q r : Value} (hb : Below w.heap.size w w1) (h : H6' w0 a b o p x y z p1 q r w) : H6' w0 a b o p x y z p1 q r w1 :=
  ⟨(hb.cell (World.block_lt_of_cell? w _ h.1)).trans h.1, (hb.cell (World.block_lt_of_cell? w _ h.2.1)).trans h.2.1, (hb.cell (World.block_lt_of_cell? w _ h.2.2.1)).trans h.2.2.1, (hb.cell (World.block_lt_of_cell? w _ h.2.2.2.1)).trans h.2.2.2.1, (hb.cell (World.block_lt_of_cell? w _ h.2.2.2.2.1)).trans h.2.2.2.2.1, (hb.cell (World.block_lt_of_cell? w _ h.2.2.2.2.2.1)).trans h.2.2.2.2.2.1, h.2.2.2.2.2.2.trans (hb.mono h.2.2.2.2.2.2.size)⟩
set_option maxHeartbeats 1000000 in
theorem eqEnvS_c (a b : Option Addr) (c d : Nat) (es : List ER) (w : World) (h : Envs w a es) (h2 : Envs w b es) : Calls Tryz.prog 69 #[.slice a es.length c, .slice b es.length d] w fun e w' => e = .returned (.bool true) ∧ Below w.heap.size w w' := by
  have hl := h.1
  obtain ⟨L, hL⟩ : ∃ L, L = es.length := ⟨_, rfl⟩
  rw [← hL] at hl ⊢
  have HL := hide hL
  have HH := hide h
  have HG := hide h2
  have hl' : (L : Int) ≤ 1048576 := by omega
  clear h h2 hL
  go_enter Tryz.func69, Tryz.ntmps69
  go_wp2
  go_loopw [5] (fun i wr => ∃ k : Nat, k ≤ L ∧ i = .int .i64 k ∧ Below w.heap.size w wr) (fun i _ => L - (intOf i).toNat)
  case atStart => exact ⟨0, Nat.zero_le _, rfl, Below.refl _ _⟩
  case round =>
    obtain ⟨k, hk, rfl, hb⟩ := hrel
    have HB := hide hb
    by_cases hlt : k < L
    · have hk' : k < es.length := by rw [← unhide HL]; exact hlt
      rcases ((unhide HH).call hb).2 with h0 | ⟨cb, co, rfl, hc⟩
      · omega
      rcases ((unhide HG).call hb).2 with h0 | ⟨eb, eo, rfl, hd⟩
      · omega
      obtain ⟨xa, xc, ya, yc, d1, d2, d3, i1, i2⟩ := hc k hk'
      obtain ⟨xa', xc', ya', yc', f1, f2, f3, j1, j2⟩ := hd k hk'
      have I1 := hide i1
      have I2 := hide i2
      have J1 := hide j1
      have J2 := hide j2
      clear hc hd i1 i2 j1 j2
      generalize es[k].1 = li at d1 f1
      generalize es[k].2.1 = xs at d2 f2 I1 J1
      generalize es[k].2.2 = ys at d3 f3 I2 J2
      have hk6 : H6' w cb eb (co + k * 3) (eo + k * 3) (.bool li) (.slice xa xs.length xc) (.slice ya ys.length yc) (.bool li) (.slice xa' xs.length xc') (.slice ya' ys.length yc') wr := ⟨d1, d2, d3, f1, f2, f3, hb⟩
      clear hb
      go_wp2
      go_region_held3 (H6' w cb eb (co + k * 3) (eo + k * 3) (.bool li) (.slice xa xs.length xc) (.slice ya ys.length yc) (.bool li) (.slice xa' xs.length xc') (.slice ya' ys.length yc'))
        (first | exact H6'.drew (by assumption) | exact hq)
        (first | (go_at_call 87; refine (eqEnv_c li xa ya xa' ya' xc yc xc' yc' xs ys _ ((unhide I1).call (bdrew wr 1)) ((unhide I2).call (bdrew wr 1)) ((unhide J1).call (bdrew wr 1)) ((unhide J2).call (bdrew wr 1))).mono ?_; rintro e w1 ⟨rfl, bq⟩; have hq := H6'.call bq (H6'.drew hk6)))
      have HQ := hide hq.2.2.2.2.2.2
      clear hq hk6 d1 d2 d3 f1 f2 f3
      rename_i hHeld
      clear hHeld
      go_wp2
      go_roundw
      case rel => exact ⟨k + 1, by omega, by go_num, unhide HQ⟩
      case measure => simp [intOf]; omega
    · clear hb
      go_wp2
      go_ret
      exact ⟨rfl, unhide HB⟩
end Go.Proofs.YthldhjifnpfmiaaGreatDoor
