/- Texts that go together: HasC, HasD. -/
import Derived.Test.YtpdnnpnclgcpoaaDoorLeZ
import Derived.Test.YtpdnnpnclgcpoaaDoorStZ
/- Stores that bounds have. -/
namespace Go.Proofs.YtpdnnpnclgcpoaaDoor
open Go.RowKit
set_option linter.unusedSimpArgs false
set_option linter.unusedVariables false

@[reducible] def K6 (w0 : World) (a1 a2 a3 a4 a5 a6 : Addr) (v1 v2 v3 v4 v5 v6 : Value) (w : World) : Prop := w.cell? a1 = some v1 ∧ w.cell? a2 = some v2 ∧ w.cell? a3 = some v3 ∧ w.cell? a4 = some v4 ∧ w.cell? a5 = some v5 ∧ w.cell? a6 = some v6 ∧ Below w0.heap.size w0 w
theorem K6.drew {w0 w : World} {a1 a2 a3 a4 a5 a6 : Addr} {v1 v2 v3 v4 v5 v6 : Value} (h : K6 w0 a1 a2 a3 a4 a5 a6 v1 v2 v3 v4 v5 v6 w) : K6 w0 a1 a2 a3 a4 a5 a6 v1 v2 v3 v4 v5 v6 w.drew := ⟨h.1, h.2.1, h.2.2.1, h.2.2.2.1, h.2.2.2.2.1, h.2.2.2.2.2.1, h.2.2.2.2.2.2.drew⟩
theorem K6.call {w0 w w1 : World} {a1 a2 a3 a4 a5 a6 : Addr} {v1 v2 v3 v4 v5 v6 : Value} (hb : Below w.heap.size w w1) (h : K6 w0 a1 a2 a3 a4 a5 a6 v1 v2 v3 v4 v5 v6 w) : K6 w0 a1 a2 a3 a4 a5 a6 v1 v2 v3 v4 v5 v6 w1 :=
  ⟨(hb.cell (World.block_lt_of_cell? w _ (h.1))).trans (h.1), (hb.cell (World.block_lt_of_cell? w _ (h.2.1))).trans (h.2.1), (hb.cell (World.block_lt_of_cell? w _ (h.2.2.1))).trans (h.2.2.1), (hb.cell (World.block_lt_of_cell? w _ (h.2.2.2.1))).trans (h.2.2.2.1), (hb.cell (World.block_lt_of_cell? w _ (h.2.2.2.2.1))).trans (h.2.2.2.2.1), (hb.cell (World.block_lt_of_cell? w _ (h.2.2.2.2.2.1))).trans (h.2.2.2.2.2.1), h.2.2.2.2.2.2.trans (hb.mono h.2.2.2.2.2.2.size)⟩
/-- Two structs of three cells side by side; below all is as it was. -/
def B2 (w0 : World) (b c : Nat) (x0 y0 z0 x1 y1 z1 : Value) (u : World) : Prop := C3 u b x0 y0 z0 ∧ C3 u c x1 y1 z1 ∧ Below w0.heap.size w0 u
theorem B2.call {w0 u v : World} {b c : Nat} {x0 y0 z0 x1 y1 z1 : Value} (h : B2 w0 b c x0 y0 z0 x1 y1 z1 u) (hb : Below u.heap.size u v) : B2 w0 b c x0 y0 z0 x1 y1 z1 v :=
  ⟨h.1.call hb, h.2.1.call hb, h.2.2.trans (hb.mono h.2.2.size)⟩
theorem B2.new (w : World) (x0 y0 z0 x1 y1 z1 : Value) (t0 t1 : TypeId) : B2 w w.heap.size (w.heap.size + 1) x0 y0 z0 x1 y1 z1 ((w.alloc (Obj.cells #[x0, y0, z0] t0)).alloc (Obj.cells #[x1, y1, z1] t1)) := by
  have T0 := (C3.new w x0 y0 z0 t0).alloc (Obj.cells #[x1, y1, z1] t1)
  have T1 := C3.new (w.alloc (Obj.cells #[x0, y0, z0] t0)) x1 y1 z1 t1
  rw [show (w.alloc (Obj.cells #[x0, y0, z0] t0)).heap.size = w.heap.size + 1 by simp] at T1
  exact ⟨T0, T1, ((Below.refl _ _).alloc (Nat.le_refl _) _).alloc (by simp) _⟩
def has1P (xs : List (Int × Int)) (is : List Int) : Prop := ∀ k, (h : k < xs.length) → (h2 : k < is.length) → hasB xs[k].1 xs[k].2 is[k] = true
instance (xs : List (Int × Int)) (is : List Int) : Decidable (has1P xs is) := by unfold has1P; infer_instance
def hasAll (p : Int × Int) (l : List Int) : Prop := ∀ k, (h : k < l.length) → hasB p.1 p.2 l[k] = true
instance (p : Int × Int) (l : List Int) : Decidable (hasAll p l) := by unfold hasAll; infer_instance
def has2P (ys : List (Int × Int)) (js : List (List Int)) : Prop := ∀ k, (h : k < ys.length) → (h2 : k < js.length) → hasAll ys[k] js[k]
instance (ys : List (Int × Int)) (js : List (List Int)) : Decidable (has2P ys js) := by unfold has2P; infer_instance
/-- Numbers of a store within live bounds. -/
def hasIn (xs ys : List (Int × Int)) (is : List Int) (js : List (List Int)) : Bool := decide (has1P xs is) && decide (has2P ys js)
set_option maxRecDepth 20000 in
set_option maxHeartbeats 8000000 in
theorem l6Has_c (li : Bool) (e1 e2 : Option Addr) (d1 d2 : Nat) (xs ys : List (Int × Int)) (g1 g2 g3 : Option Addr) (f1 f2 f3 : Nat) (is : List Int) (bs : List Bool) (js : List (List Int)) (w : World)
    (hx : Ivs w e1 xs) (hy : Ivs w e2 ys) (hi : Ints w g1 is) (hj : Mats w g3 js) (hl : li = true → xs.length = is.length ∧ ys.length = js.length ∧ xs.length ≤ 5 ∧ ys.length ≤ 2) :
    Calls Tryd.prog 43 #[.agg #[.bool li, .slice e1 xs.length d1, .slice e2 ys.length d2], .agg #[.slice g1 is.length f1, .slice g2 bs.length f2, .slice g3 js.length f3]] w fun e w' => e = .returned (.bool (li && hasIn xs ys is js)) ∧ Below w.heap.size w w' := by
  obtain ⟨r, hr⟩ : ∃ r, (li && hasIn xs ys is js) = r := ⟨_, rfl⟩
  rw [hr]
  have HRR := hide hr
  have HL := hide hl
  have HX := hide hx
  have HY := hide hy
  have HI := hide hi
  have HJ := hide hj
  have HB := hide (B2.new w (.bool li) (.slice e1 xs.length d1) (.slice e2 ys.length d2) (.slice g1 is.length f1) (.slice g2 bs.length f2) (.slice g3 js.length f3) 43 35)
  clear hr hl hx hy hi hj
  go_enter Tryd.func43, Tryd.ntmps43
  go_upto_region 1 with fail
  generalize (w.alloc (Obj.cells #[.bool li, .slice e1 xs.length d1, .slice e2 ys.length d2] 43)).alloc (Obj.cells #[.slice g1 is.length f1, .slice g2 bs.length f2, .slice g3 js.length f3] 35) = u at HB ⊢
  have t0 := (unhide HB).1.1
  cases li
  · go_wp2
    go_ret
    exact ⟨by rw [← unhide HRR]; rfl, (unhide HB).2.2⟩
  have HE := hide (show r = (decide (has1P xs is) && decide (has2P ys js)) from (unhide HRR).symm)
  have HM := hide (unhide HL rfl).1
  have HN := hide (unhide HL rfl).2.1
  have lx := (unhide HL rfl).2.2.1
  have ly := (unhide HL rfl).2.2.2
  have lx' : (xs.length : Int) ≤ 5 := by omega
  have ly' : (ys.length : Int) ≤ 2 := by omega
  clear HRR HL
  go_wp2
  clear t0
  go_loopw [5] (fun i wr => ∃ k : Nat, k ≤ xs.length ∧ i = .int .i64 k ∧ (∀ j, (h : j < xs.length) → (h2 : j < is.length) → j < k → hasB xs[j].1 xs[j].2 is[j] = true) ∧ B2 w w.heap.size (w.heap.size + 1) (.bool true) (.slice e1 xs.length d1) (.slice e2 ys.length d2) (.slice g1 is.length f1) (.slice g2 bs.length f2) (.slice g3 js.length f3) wr) (fun i _ => xs.length - (intOf i).toNat)
  case atStart => exact ⟨0, Nat.zero_le _, rfl, fun j _ _ h => by omega, unhide HB⟩
  case round =>
    clear HB
    obtain ⟨k, hk, rfl, hall, hb⟩ := hrel
    have HA := hide hall
    have HB := hide hb
    have t1 := hb.1.2.1
    by_cases hlt : k < xs.length
    · have hm' : k < is.length := by rw [← unhide HM]; exact hlt
      rcases ((unhide HX).call hb.2.2).2 with h0 | ⟨cb, co, he, hc⟩
      · omega
      cases he
      rcases ((unhide HI).call hb.2.2).2 with h0 | ⟨cb2, co2, he2, hc2⟩
      · omega
      cases he2
      have hs : H5 wr ⟨w.heap.size, 1, none⟩ ⟨cb, co + k * 2, none⟩ ⟨cb, co + k * 2 + 1, none⟩ ⟨w.heap.size + 1, 0, none⟩ ⟨cb2, co2 + k, none⟩ (.slice (some ⟨cb, co, none⟩) xs.length d1) (.int .i64 xs[k].1) (.int .i64 xs[k].2) (.slice (some ⟨cb2, co2, none⟩) is.length f1) (.int .i64 is[k]) wr := ⟨t1, (hc k hlt).1, (hc k hlt).2, hb.2.1.1, hc2 k hm', Below.refl _ _⟩
      have HG := hide (show hasB xs[k].1 xs[k].2 is[k] = true → ∀ j, (h : j < xs.length) → (h2 : j < is.length) → j < k + 1 → hasB xs[j].1 xs[j].2 is[j] = true from fun e j h h2 hj => by
        by_cases q : j = k
        · subst q; exact e
        · exact unhide HA j h h2 (by omega))
      have HF1 := hide (show hasB xs[k].1 xs[k].2 is[k] = false → r = false from fun e => by
        have h9 : ¬ has1P xs is := fun h => by have := h k hlt hm'; rw [e] at this; cases this
        rw [unhide HE, decide_eq_false h9]; rfl)
      have hlt' : (k : Int) < (xs.length : Int) := by omega
      have hm'' : (k : Int) < (is.length : Int) := by omega
      clear hc hc2 hall hb
      generalize xs[k].1 = x at hs HG HF1
      generalize xs[k].2 = y at hs HG HF1
      generalize is[k] = n at hs HG HF1
      have HH := hide hs
      clear hs
      go_wp2_with fail
      have hs := unhide HH
      clear t1
      go_region_held3 (H5 wr ⟨w.heap.size, 1, none⟩ ⟨cb, co + k * 2, none⟩ ⟨cb, co + k * 2 + 1, none⟩ ⟨w.heap.size + 1, 0, none⟩ ⟨cb2, co2 + k, none⟩ (.slice (some ⟨cb, co, none⟩) xs.length d1) (.int .i64 x) (.int .i64 y) (.slice (some ⟨cb2, co2, none⟩) is.length f1) (.int .i64 n))
        (first | exact H5.drew (by assumption) | exact H5.call kb hs.drew)
        (first
          | (go_at_call 83; refine (sIvHas_c _ _ _ _).mono ?_; rintro e u3 ⟨rfl, kb⟩))
      have kb2 := (H5.call kb hs.drew).2.2.2.2.2
      have HB2 := hide ((unhide HB).call kb2)
      rename_i hHeld
      clear hHeld kb kb2 hs HH
      cases ho : hasB x y n
      · have HN2 := hide (unhide HF1 ho)
        clear ho
        go_wp2
        go_ret
        exact ⟨by rw [unhide HN2]; rfl, (unhide HB2).2.2⟩
      · have HG2 := hide (unhide HG ho)
        clear ho HG HF1
        go_wp2
        go_roundw
        case rel => exact ⟨k + 1, by omega, by go_num, unhide HG2, unhide HB2⟩
        case measure => simp [intOf]; omega
    · have HE2 := hide (show r = decide (has2P ys js) by
        have h9 : has1P xs is := fun j hj h2 => unhide HA j hj h2 (by omega)
        rw [unhide HE, decide_eq_true h9]; rfl)
      clear hall hb HE HA
      go_wp2
      clear t1
      generalize wr = wo at HB ⊢
      go_loopw [6] (fun i wr => ∃ k : Nat, k ≤ ys.length ∧ i = .int .i64 k ∧ (∀ j, (h : j < ys.length) → (h2 : j < js.length) → j < k → hasAll ys[j] js[j]) ∧ B2 w w.heap.size (w.heap.size + 1) (.bool true) (.slice e1 xs.length d1) (.slice e2 ys.length d2) (.slice g1 is.length f1) (.slice g2 bs.length f2) (.slice g3 js.length f3) wr) (fun i _ => ys.length - (intOf i).toNat)
      case atStart => exact ⟨0, Nat.zero_le _, rfl, fun j _ _ h => by omega, unhide HB⟩
      case round =>
        clear HB
        obtain ⟨k, hk, rfl, hall, hb⟩ := hrel
        have HA := hide hall
        have HB := hide hb
        have t2 := hb.1.2.2.1
        by_cases hlt : k < ys.length
        · have hm' : k < js.length := by rw [← unhide HN]; exact hlt
          have hlt' : (k : Int) < (ys.length : Int) := by omega
          have hm'' : (k : Int) < (js.length : Int) := by omega
          rcases (unhide HJ).2 with h0 | ⟨jb, jo, he, hj0⟩
          · omega
          cases he
          obtain ⟨ja, jc, hjc, hji⟩ := hj0 k hm'
          rcases (unhide HY).2 with h0 | ⟨cb, co, he, hc⟩
          · omega
          cases he
          have y1 := (hc k hlt).1
          have y2 := (hc k hlt).2
          have HJC := hide hjc
          have HJI := hide hji
          have HY1 := hide y1
          have HY2 := hide y2
          have HG := hide (show hasAll ys[k] js[k] → ∀ j, (h : j < ys.length) → (h2 : j < js.length) → j < k + 1 → hasAll ys[j] js[j] from fun e j h h2 hj => by
            by_cases q : j = k
            · subst q; exact e
            · exact unhide HA j h h2 (by omega))
          have HF1 := hide (show ¬ hasAll ys[k] js[k] → r = false from fun e => by
            have h9 : ¬ has2P ys js := fun h => e (h k hlt hm')
            rw [unhide HE2, decide_eq_false h9])
          have HLL := hide hji.1
          clear hall hb hjc hji y1 y2 hc hj0
          generalize ys[k] = pk at HY1 HY2 HG HF1
          generalize js[k] = L at HJC HJI HG HF1 HLL
          have hLL : (L.length : Int) ≤ 1048576 := by have := unhide HLL; omega
          go_wp2
          clear t2
          generalize wr = wi at HB ⊢
          go_loopw [7] (fun i wr => ∃ m : Nat, m ≤ L.length ∧ i = .int .i64 m ∧ (∀ j, (h : j < L.length) → j < m → hasB pk.1 pk.2 L[j] = true) ∧ B2 w w.heap.size (w.heap.size + 1) (.bool true) (.slice e1 xs.length d1) (.slice (some ⟨cb, co, none⟩) ys.length d2) (.slice g1 is.length f1) (.slice g2 bs.length f2) (.slice (some ⟨jb, jo, none⟩) js.length f3) wr) (fun i _ => L.length - (intOf i).toNat)
          case atStart => exact ⟨0, Nat.zero_le _, rfl, fun j _ h => by omega, unhide HB⟩
          case round =>
            clear HB
            obtain ⟨m, hm, rfl, hin, hb⟩ := hrel
            have HIN := hide hin
            have HB := hide hb
            have s2 := hb.2.1.2.2.1
            have c1 := (hb.2.2.cell (World.block_lt_of_cell? w _ (unhide HJC))).trans (unhide HJC)
            by_cases hml : m < L.length
            · rcases ((unhide HJI).call hb.2.2).2 with h0 | ⟨ib, io, rfl, hci⟩
              · omega
              have hs : K6 wr ⟨w.heap.size, 2, none⟩ ⟨cb, co + k * 2, none⟩ ⟨cb, co + k * 2 + 1, none⟩ ⟨w.heap.size + 1, 2, none⟩ ⟨jb, jo + k, none⟩ ⟨ib, io + m, none⟩ (.slice (some ⟨cb, co, none⟩) ys.length d2) (.int .i64 pk.1) (.int .i64 pk.2) (.slice (some ⟨jb, jo, none⟩) js.length f3) (.slice (some ⟨ib, io, none⟩) L.length jc) (.int .i64 L[m]) wr := ⟨hb.1.2.2.1, (hb.2.2.cell (World.block_lt_of_cell? w _ (unhide HY1))).trans (unhide HY1), (hb.2.2.cell (World.block_lt_of_cell? w _ (unhide HY2))).trans (unhide HY2), s2, c1, hci m hml, Below.refl _ _⟩
              have HG3 := hide (show hasB pk.1 pk.2 L[m] = true → ∀ j, (h : j < L.length) → j < m + 1 → hasB pk.1 pk.2 L[j] = true from fun e j h hj => by
                by_cases q : j = m
                · subst q; exact e
                · exact unhide HIN j h (by omega))
              have HF3 := hide (show hasB pk.1 pk.2 L[m] = false → r = false from fun e => unhide HF1 (fun h => by have := h m hml; rw [e] at this; cases this))
              have hml' : (m : Int) < (L.length : Int) := by omega
              clear hci hin hb
              generalize pk.1 = x at hs HG3 HF3
              generalize pk.2 = y at hs HG3 HF3
              generalize L[m] = n at hs HG3 HF3
              have HH := hide hs
              clear hs
              go_wp2_with fail
              have hs := unhide HH
              clear s2 c1
              go_region_held3 (K6 wr ⟨w.heap.size, 2, none⟩ ⟨cb, co + k * 2, none⟩ ⟨cb, co + k * 2 + 1, none⟩ ⟨w.heap.size + 1, 2, none⟩ ⟨jb, jo + k, none⟩ ⟨ib, io + m, none⟩ (.slice (some ⟨cb, co, none⟩) ys.length d2) (.int .i64 x) (.int .i64 y) (.slice (some ⟨jb, jo, none⟩) js.length f3) (.slice (some ⟨ib, io, none⟩) L.length jc) (.int .i64 n))
                (first | exact K6.drew (by assumption) | exact K6.call kb hs.drew)
                (first
                  | (go_at_call 83; refine (sIvHas_c _ _ _ _).mono ?_; rintro e u3 ⟨rfl, kb⟩))
              have kb2 := (K6.call kb hs.drew).2.2.2.2.2.2
              have HB2 := hide ((unhide HB).call kb2)
              rename_i hHeld
              clear hHeld kb kb2 hs HH
              cases ho : hasB x y n
              · have HN2 := hide (unhide HF3 ho)
                clear ho
                go_wp2
                go_ret
                exact ⟨by rw [unhide HN2]; rfl, (unhide HB2).2.2⟩
              · have HG2 := hide (unhide HG3 ho)
                clear ho HG3 HF3
                go_wp2
                go_roundw
                case rel => exact ⟨m + 1, by omega, by go_num, unhide HG2, unhide HB2⟩
                case measure => simp [intOf]; omega
            · have HG2 := hide (unhide HG (fun j hj => unhide HIN j hj (by omega)))
              clear hin hb
              go_wp2
              go_roundw
              case rel => exact ⟨k + 1, by omega, by go_num, unhide HG2, unhide HB⟩
              case measure => simp [intOf]; omega
        · have HN2 := hide (show r = true by rw [unhide HE2]; exact decide_eq_true (fun j hj h2 => unhide HA j hj h2 (by omega)))
          clear hall hb
          go_wp2
          go_ret
          exact ⟨by rw [unhide HN2]; rfl, (unhide HB).2.2⟩
end Go.Proofs.YtpdnnpnclgcpoaaDoor

/- Stores that bounds have, as the program asks for it; the functions. -/
namespace Go.Proofs.YtpdnnpnclgcpoaaDoor
open Go.RowKit
set_option linter.unusedSimpArgs false
set_option linter.unusedVariables false

set_option maxRecDepth 20000 in
set_option maxHeartbeats 8000000 in
theorem has_c (b c : Nat) (e1 e2 : Option Addr) (d1 d2 : Nat) (xs ys : List (Int × Int)) (g1 g2 g3 : Option Addr) (f1 f2 f3 : Nat) (is : List Int) (bs : List Bool) (js : List (List Int)) (w : World)
    (hb1 : C3 w b (.bool true) (.slice e1 xs.length d1) (.slice e2 ys.length d2)) (hc1 : C3 w c (.slice g1 is.length f1) (.slice g2 bs.length f2) (.slice g3 js.length f3)) (hx : Ivs w e1 xs) (hy : Ivs w e2 ys) (hi : Ints w g1 is) (hj : Mats w g3 js) (hl : xs.length = is.length ∧ ys.length = js.length ∧ xs.length ≤ 5 ∧ ys.length ≤ 2) :
    Calls Tryd.prog 81 #[.pointer (some ⟨b, 0, none⟩), .pointer (some ⟨c, 0, none⟩)] w fun e w' => e = .returned (.bool (hasIn xs ys is js)) ∧ Below w.heap.size w w' := by
  obtain ⟨r, hr⟩ : ∃ r, hasIn xs ys is js = r := ⟨_, rfl⟩
  rw [hr]
  have HE := hide (show r = (decide (has1P xs is) && decide (has2P ys js)) from hr.symm)
  have HM := hide hl.1
  have HN := hide hl.2.1
  have lx := hl.2.2.1
  have ly := hl.2.2.2
  have lx' : (is.length : Int) ≤ 5 := by omega
  have ly' : (js.length : Int) ≤ 2 := by omega
  have HX := hide hx
  have HY := hide hy
  have HI := hide hi
  have HJ := hide hj
  have HB : Hid (B2 w b c (.bool true) (.slice e1 xs.length d1) (.slice e2 ys.length d2) (.slice g1 is.length f1) (.slice g2 bs.length f2) (.slice g3 js.length f3) w) := ⟨hb1, hc1, Below.refl _ _⟩
  have s0 := hc1.1
  clear hr hl hx hy hi hj hb1 hc1
  go_enter Tryd.func81, Tryd.ntmps81
  go_wp2
  clear s0
  go_loopw [16] (fun i wr => ∃ k : Nat, k ≤ is.length ∧ i = .int .i64 k ∧ (∀ j, (h : j < xs.length) → (h2 : j < is.length) → j < k → hasB xs[j].1 xs[j].2 is[j] = true) ∧ B2 w b c (.bool true) (.slice e1 xs.length d1) (.slice e2 ys.length d2) (.slice g1 is.length f1) (.slice g2 bs.length f2) (.slice g3 js.length f3) wr) (fun i _ => is.length - (intOf i).toNat)
  case atStart => exact ⟨0, Nat.zero_le _, rfl, fun j _ _ h => by omega, unhide HB⟩
  case round =>
    clear HB
    obtain ⟨k, hk, rfl, hall, hb⟩ := hrel
    have HA := hide hall
    have HB := hide hb
    have t1 := hb.1.2.1
    by_cases hm' : k < is.length
    · have hlt : k < xs.length := by rw [unhide HM]; exact hm'
      rcases ((unhide HX).call hb.2.2).2 with h0 | ⟨cb, co, he, hc⟩
      · omega
      cases he
      rcases ((unhide HI).call hb.2.2).2 with h0 | ⟨cb2, co2, he2, hc2⟩
      · omega
      cases he2
      have p1 := (hc k hlt).1
      have p2 := (hc k hlt).2
      have p3 := hc2 k hm'
      have HG := hide (show hasB xs[k].1 xs[k].2 is[k] = true → ∀ j, (h : j < xs.length) → (h2 : j < is.length) → j < k + 1 → hasB xs[j].1 xs[j].2 is[j] = true from fun e j h h2 hj => by
        by_cases q : j = k
        · subst q; exact e
        · exact unhide HA j h h2 (by omega))
      have HF1 := hide (show hasB xs[k].1 xs[k].2 is[k] = false → r = false from fun e => by
        have h9 : ¬ has1P xs is := fun h => by have := h k hlt hm'; rw [e] at this; cases this
        rw [unhide HE, decide_eq_false h9]; rfl)
      have hlt' : (k : Int) < (xs.length : Int) := by omega
      have hm'' : (k : Int) < (is.length : Int) := by omega
      clear hc hc2 hall hb
      generalize xs[k].1 = x at p1 HG HF1
      generalize xs[k].2 = y at p2 HG HF1
      generalize is[k] = n at p3 HG HF1
      go_wp2_with fail
      refine (IvHas_c _ _ _ _).mono ?_
      rintro e u3 ⟨rfl, kb⟩
      have HB2 := hide ((unhide HB).call kb)
      clear kb p1 p2 p3 t1
      cases ho : hasB x y n
      · have HN2 := hide (unhide HF1 ho)
        clear ho
        go_wp2
        go_ret
        exact ⟨by rw [unhide HN2]; rfl, (unhide HB2).2.2⟩
      · have HG2 := hide (unhide HG ho)
        clear ho HG HF1
        go_wp2
        go_roundw
        case rel => exact ⟨k + 1, by omega, by go_num, unhide HG2, unhide HB2⟩
        case measure => simp [intOf]; omega
    · have HE2 := hide (show r = decide (has2P ys js) by
        have h9 : has1P xs is := fun j hj h2 => unhide HA j hj h2 (by omega)
        rw [unhide HE, decide_eq_true h9]; rfl)
      have s2 := hb.2.1.2.2.1
      clear hall hb HE HA
      go_wp2
      clear t1 s2
      generalize wr = wo at HB ⊢
      go_loopw [37] (fun i wr => ∃ k : Nat, k ≤ js.length ∧ i = .int .i64 k ∧ (∀ j, (h : j < ys.length) → (h2 : j < js.length) → j < k → hasAll ys[j] js[j]) ∧ B2 w b c (.bool true) (.slice e1 xs.length d1) (.slice e2 ys.length d2) (.slice g1 is.length f1) (.slice g2 bs.length f2) (.slice g3 js.length f3) wr) (fun i _ => js.length - (intOf i).toNat)
      case atStart => exact ⟨0, Nat.zero_le _, rfl, fun j _ _ h => by omega, unhide HB⟩
      case round =>
        clear HB
        obtain ⟨k, hk, rfl, hall, hb⟩ := hrel
        have HA := hide hall
        have HB := hide hb
        by_cases hm' : k < js.length
        · have hlt : k < ys.length := by rw [unhide HN]; exact hm'
          have hlt' : (k : Int) < (ys.length : Int) := by omega
          have hm'' : (k : Int) < (js.length : Int) := by omega
          rcases (unhide HJ).2 with h0 | ⟨jb, jo, he, hj0⟩
          · omega
          cases he
          obtain ⟨ja, jc, hjc, hji⟩ := hj0 k hm'
          rcases (unhide HY).2 with h0 | ⟨cb, co, he, hc⟩
          · omega
          cases he
          have y1 := (hc k hlt).1
          have y2 := (hc k hlt).2
          have c1 := (hb.2.2.cell (World.block_lt_of_cell? w _ hjc)).trans hjc
          have HJI := hide hji
          have HY1 := hide y1
          have HY2 := hide y2
          have HG := hide (show hasAll ys[k] js[k] → ∀ j, (h : j < ys.length) → (h2 : j < js.length) → j < k + 1 → hasAll ys[j] js[j] from fun e j h h2 hj => by
            by_cases q : j = k
            · subst q; exact e
            · exact unhide HA j h h2 (by omega))
          have HF1 := hide (show ¬ hasAll ys[k] js[k] → r = false from fun e => by
            have h9 : ¬ has2P ys js := fun h => e (h k hlt hm')
            rw [unhide HE2, decide_eq_false h9])
          have HLL := hide hji.1
          clear hall hb hjc hji y1 y2 hc hj0
          generalize ys[k] = pk at HY1 HY2 HG HF1
          generalize js[k] = L at c1 HJI HG HF1 HLL
          have hLL : (L.length : Int) ≤ 1048576 := by have := unhide HLL; omega
          go_wp2
          clear c1
          generalize wr = wi at HB ⊢
          go_loopw [44] (fun i wr => ∃ m : Nat, m ≤ L.length ∧ i = .int .i64 m ∧ (∀ j, (h : j < L.length) → j < m → hasB pk.1 pk.2 L[j] = true) ∧ B2 w b c (.bool true) (.slice e1 xs.length d1) (.slice (some ⟨cb, co, none⟩) ys.length d2) (.slice g1 is.length f1) (.slice g2 bs.length f2) (.slice (some ⟨jb, jo, none⟩) js.length f3) wr) (fun i _ => L.length - (intOf i).toNat)
          case atStart => exact ⟨0, Nat.zero_le _, rfl, fun j _ h => by omega, unhide HB⟩
          case round =>
            clear HB
            obtain ⟨m, hm, rfl, hin, hb⟩ := hrel
            have HIN := hide hin
            have HB := hide hb
            by_cases hml : m < L.length
            · rcases ((unhide HJI).call hb.2.2).2 with h0 | ⟨ib, io, rfl, hci⟩
              · omega
              have t2 := hb.1.2.2.1
              have p1 := (hb.2.2.cell (World.block_lt_of_cell? w _ (unhide HY1))).trans (unhide HY1)
              have p2 := (hb.2.2.cell (World.block_lt_of_cell? w _ (unhide HY2))).trans (unhide HY2)
              have p3 := hci m hml
              have HG3 := hide (show hasB pk.1 pk.2 L[m] = true → ∀ j, (h : j < L.length) → j < m + 1 → hasB pk.1 pk.2 L[j] = true from fun e j h hj => by
                by_cases q : j = m
                · subst q; exact e
                · exact unhide HIN j h (by omega))
              have HF3 := hide (show hasB pk.1 pk.2 L[m] = false → r = false from fun e => unhide HF1 (fun h => by have := h m hml; rw [e] at this; cases this))
              have hml' : (m : Int) < (L.length : Int) := by omega
              clear hci hin hb
              generalize pk.1 = x at p1 HG3 HF3
              generalize pk.2 = y at p2 HG3 HF3
              generalize L[m] = n at p3 HG3 HF3
              go_wp2_with fail
              refine (IvHas_c _ _ _ _).mono ?_
              rintro e u3 ⟨rfl, kb⟩
              have HB2 := hide ((unhide HB).call kb)
              clear kb p1 p2 p3 t2
              cases ho : hasB x y n
              · have HN2 := hide (unhide HF3 ho)
                clear ho
                go_wp2
                go_ret
                exact ⟨by rw [unhide HN2]; rfl, (unhide HB2).2.2⟩
              · have HG2 := hide (unhide HG3 ho)
                clear ho HG3 HF3
                go_wp2
                go_roundw
                case rel => exact ⟨m + 1, by omega, by go_num, unhide HG2, unhide HB2⟩
                case measure => simp [intOf]; omega
            · have HG2 := hide (unhide HG (fun j hj => unhide HIN j hj (by omega)))
              clear hin hb
              go_wp2
              go_roundw
              case rel => exact ⟨k + 1, by omega, by go_num, unhide HG2, unhide HB⟩
              case measure => simp [intOf]; omega
        · have HN2 := hide (show r = true by rw [unhide HE2]; exact decide_eq_true (fun j hj h2 => unhide HA j hj h2 (by omega)))
          clear hall hb
          go_wp2
          go_ret
          exact ⟨by rw [unhide HN2]; rfl, (unhide HB).2.2⟩
theorem has_lens {vs fs : List ByteArray} {rs : List (ByteArray × Int)} {li : Bool} {xs ys : List (Int × Int)} {is : List Int} {bs : List Bool} {js : List (List Int)} (h : envB vs fs rs li xs ys = true) (h2 : storeB vs fs rs is bs js = true) : li = true → xs.length = is.length ∧ ys.length = js.length ∧ xs.length ≤ 5 ∧ ys.length ≤ 2 := by
  intro a
  have e1 := env_len h a
  unfold storeB at h2
  rw [Bool.and_eq_true] at h2
  have e2 := of_decide_eq_true h2.2
  obtain ⟨q1, q2, q3, _⟩ := e2
  omega
def hasD (vs fs : List ByteArray) (rs : List (ByteArray × Int)) (li : Bool) (xs ys : List (Int × Int)) (is : List Int) (bs : List Bool) (js : List (List Int)) : Bool := envB vs fs rs li xs ys && (storeB vs fs rs is bs js && (li && hasIn xs ys is js))
set_option maxRecDepth 20000 in
set_option maxHeartbeats 4000000 in
theorem iEnvHas_c (a1 a2 a3 : Option Addr) (c1 c2 c3 : Nat) (vs fs : List ByteArray) (rs : List (ByteArray × Int)) (li : Bool) (e1 e2 : Option Addr) (d1 d2 : Nat) (xs ys : List (Int × Int)) (g1 g2 g3 : Option Addr) (f1 f2 f3 : Nat) (is : List Int) (bs : List Bool) (js : List (List Int)) (w : World) (hw : KW w) (hv : Strs w a1 vs) (hf : Strs w a2 fs) (hr : Arrs w a3 rs)
    (hz : ∀ x ∈ namesOf vs fs rs, x.size ≤ 1048576) (hx : Ivs w e1 xs) (hy : Ivs w e2 ys) (hi : Ints w g1 is) (hj : Mats w g3 js) :
    Calls Tryd.prog 40 #[.agg #[.slice a1 vs.length c1, .slice a2 fs.length c2, .slice a3 rs.length c3], .agg #[.bool li, .slice e1 xs.length d1, .slice e2 ys.length d2], .agg #[.slice g1 is.length f1, .slice g2 bs.length f2, .slice g3 js.length f3]] w
    fun e w' => e = .returned (.bool (hasD vs fs rs li xs ys is bs js)) ∧ Below w.heap.size w w' := by
  obtain ⟨r, hrr⟩ : ∃ r, hasD vs fs rs li xs ys is bs js = r := ⟨_, rfl⟩
  rw [hrr]
  have HRR := hide hrr
  have HV := hide hv
  have HF := hide hf
  have HR := hide hr
  have HZ := hide hz
  have HX := hide hx
  have HY := hide hy
  have HI := hide hi
  have HJ := hide hj
  have HW := hide hw
  clear hw
  have HB := hide (B3.new w (.slice a1 vs.length c1) (.slice a2 fs.length c2) (.slice a3 rs.length c3) (.bool li) (.slice e1 xs.length d1) (.slice e2 ys.length d2) (.slice g1 is.length f1) (.slice g2 bs.length f2) (.slice g3 js.length f3) 27 43 35)
  clear hrr hv hf hr hz hx hy hi hj
  go_enter Tryd.func40, Tryd.ntmps40
  go_wp2_with fail
  generalize ((w.alloc (Obj.cells #[.slice a1 vs.length c1, .slice a2 fs.length c2, .slice a3 rs.length c3] 27)).alloc (Obj.cells #[.bool li, .slice e1 xs.length d1, .slice e2 ys.length d2] 43)).alloc (Obj.cells #[.slice g1 is.length f1, .slice g2 bs.length f2, .slice g3 js.length f3] 35) = u at HB ⊢
  refine (iEnvOk_c a1 a2 a3 c1 c2 c3 vs fs rs li e1 e2 d1 d2 xs ys _ ((unhide HW).call (unhide HB).2.2.2) ((unhide HV).call (unhide HB).2.2.2) ((unhide HF).call (unhide HB).2.2.2) ((unhide HR).call (unhide HB).2.2.2) (unhide HZ) ((unhide HX).call (unhide HB).2.2.2) ((unhide HY).call (unhide HB).2.2.2)).mono ?_
  rintro e u1 ⟨rfl, kb⟩
  have HB := hide ((unhide HB).call kb)
  clear kb
  cases h1 : envB vs fs rs li xs ys
  · have HN := hide (show r = false by rw [← unhide HRR, hasD, h1]; rfl)
    clear h1
    go_wp2
    go_ret
    exact ⟨by rw [unhide HN]; rfl, (unhide HB).2.2.2⟩
  have H1 := hide h1
  clear h1
  have p0 := (unhide HB).1.1
  have p1 := (unhide HB).1.2.1
  have p2 := (unhide HB).1.2.2.1
  have q0 := (unhide HB).2.1.1
  have q1 := (unhide HB).2.1.2.1
  have q2 := (unhide HB).2.1.2.2.1
  have s0 := (unhide HB).2.2.1.1
  have s1 := (unhide HB).2.2.1.2.1
  have s2 := (unhide HB).2.2.1.2.2.1
  go_wp2_with fail
  refine (iStoreOk_c a1 a2 a3 c1 c2 c3 vs fs rs g1 g2 g3 f1 f2 f3 is bs js _ ((unhide HW).call (unhide HB).2.2.2) ((unhide HV).call (unhide HB).2.2.2) ((unhide HF).call (unhide HB).2.2.2) ((unhide HR).call (unhide HB).2.2.2) (unhide HZ) ((unhide HJ).call (unhide HB).2.2.2)).mono ?_
  rintro e u2 ⟨rfl, kb⟩
  have HB := hide ((unhide HB).call kb)
  clear kb p0 p1 p2 q0 q1 q2 s0 s1 s2
  cases h2 : storeB vs fs rs is bs js
  · have HN := hide (show r = false by rw [← unhide HRR, hasD, unhide H1, h2]; rfl)
    clear h2
    go_wp2
    go_ret
    exact ⟨by rw [unhide HN]; rfl, (unhide HB).2.2.2⟩
  have H2 := hide h2
  clear h2
  have HN := hide (show r = (li && hasIn xs ys is js) by rw [← unhide HRR, hasD, unhide H1, unhide H2]; rfl)
  have p0 := (unhide HB).1.1
  have p1 := (unhide HB).1.2.1
  have p2 := (unhide HB).1.2.2.1
  have q0 := (unhide HB).2.1.1
  have q1 := (unhide HB).2.1.2.1
  have q2 := (unhide HB).2.1.2.2.1
  have s0 := (unhide HB).2.2.1.1
  have s1 := (unhide HB).2.2.1.2.1
  have s2 := (unhide HB).2.2.1.2.2.1
  cases li
  · go_wp2
    go_ret
    exact ⟨by rw [unhide HN]; rfl, (unhide HB).2.2.2⟩
  go_wp2_with fail
  refine (has_c (w.heap.size + 1) (w.heap.size + 2) e1 e2 d1 d2 xs ys g1 g2 g3 f1 f2 f3 is bs js _ (unhide HB).2.1 (unhide HB).2.2.1 ((unhide HX).call (unhide HB).2.2.2) ((unhide HY).call (unhide HB).2.2.2) ((unhide HI).call (unhide HB).2.2.2) ((unhide HJ).call (unhide HB).2.2.2) (has_lens (unhide H1) (unhide H2) rfl)).mono ?_
  rintro e u3 ⟨rfl, kb⟩
  have HB := hide ((unhide HB).call kb)
  clear kb p0 p1 p2 q0 q1 q2 s0 s1 s2
  go_wp2
  go_ret
  exact ⟨by rw [unhide HN]; rfl, (unhide HB).2.2.2⟩
end Go.Proofs.YtpdnnpnclgcpoaaDoor

